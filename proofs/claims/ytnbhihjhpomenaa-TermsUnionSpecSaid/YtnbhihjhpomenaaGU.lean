/- Contracts: combine with one of the three functions; Union, Meet or Minus. -/
import Derived.Test.YtnbhihjhpomenaaG
namespace Go.Proofs.Ytnbhihjhpomenaa
open Go.RowKit Go
set_option linter.unusedVariables false
set_option linter.unusedSimpArgs false
set_option maxRecDepth 100000 in
set_option maxHeartbeats 8000000 in
theorem combine28_any (va vb : Value) (a b : Sp) (w : World) (hva : SS w va a) (hvb : SS w vb b) :
    Calls Try.prog 27 #[va, vb, .func (.func 28) #[] #[]] w fun e w' => ∃ u, e = .returned (.tuple #[u, .int .i64 (ce a b)]) ∧ SS w' u (cb pOr a b) ∧ Below w.heap.size w w' := by
  obtain ⟨pa, ca, hfa⟩ := hva.form
  obtain ⟨pb, cb', hfb⟩ := hvb.form
  have HVA := hid hva; have HVB := hid hvb
  clear hva hvb
  obtain ⟨na, hna⟩ : ∃ n, n = a.length := ⟨_, rfl⟩
  obtain ⟨nb, hnb⟩ : ∃ n, n = b.length := ⟨_, rfl⟩
  rw [← hna] at hfa; rw [← hnb] at hfb
  subst hfa; subst hfb
  clear hna hnb
  obtain ⟨i0, i1⟩ := index41 (.slice pa na ca) (.slice pb nb cb')
  go_enter Try.func27, Try.ntmps27
  go_wp2
  go_loopw [20] (fun i w1 => (i = .int .i64 0 ∨ (i = .int .i64 1 ∧ Hid (T.ok 1024 (-1) a)) ∨ (i = .int .i64 2 ∧ Hid (T.ok 1024 (-1) a) ∧ Hid (T.ok 1024 (-1) b))) ∧ Below w.heap.size w w1) (fun i _ => 2 - (intOf i).toNat)
  case atStart => exact ⟨.inl rfl, Below.refl _ _⟩
  case round =>
    obtain ⟨hcase, hb⟩ := hrel
    have HB := hid hb
    clear hb
    rcases hcase with rfl | ⟨rfl, hoa⟩ | ⟨rfl, hoa, hob⟩
    · by_cases ha : T.ok 1024 (-1) a
      · have HE := hid (chk_ok ha); have HA := hid ha; clear ha
        go_wp2_with fail
        refine (Check_any _ a _ (HVA.out.ups HB.out)).mono ?_
        rw [HE.out]
        rintro e w1 ⟨rfl, hb1⟩
        have HB1 := hid (HB.out.trans (hb1.mono HB.out.size)); clear hb1
        go_wp2
        go_roundw
        case rel => exact ⟨.inr (.inl ⟨rfl, HA⟩), HB1.out⟩
        case measure => simp [intOf]
      · have HE := hid (chk_no ha)
        have HC := hid (show ce a b = 60 from if_neg (fun h => ha h.1)); have HD := hid (show cb pOr a b = [] from if_neg (fun h => ha h.1)); clear ha
        go_wp2_with fail
        refine (Check_any _ a _ (HVA.out.ups HB.out)).mono ?_
        rw [HE.out]
        rintro e w1 ⟨rfl, hb1⟩
        have HB1 := hid (HB.out.trans (hb1.mono HB.out.size)); clear hb1
        go_wp2
        refine bodyPost_ret (v := .tuple #[.slice none 0 0, .int .i64 60]) (by simp [results, Try.results27, go_sem]) rfl ⟨_, by rw [HC.out], by rw [HD.out]; exact .inl ⟨rfl, rfl⟩, HB1.out⟩
    · by_cases hb : T.ok 1024 (-1) b
      · have HE := hid (chk_ok hb); have HA := hid hb; clear hb
        go_wp2_with fail
        refine (Check_any _ b _ (HVB.out.ups HB.out)).mono ?_
        rw [HE.out]
        rintro e w1 ⟨rfl, hb1⟩
        have HB1 := hid (HB.out.trans (hb1.mono HB.out.size)); clear hb1
        go_wp2
        go_roundw
        case rel => exact ⟨.inr (.inr ⟨rfl, hoa, HA⟩), HB1.out⟩
        case measure => simp [intOf]
      · have HE := hid (chk_no hb)
        have HC := hid (show ce a b = 60 from if_neg (fun h => hb h.2)); have HD := hid (show cb pOr a b = [] from if_neg (fun h => hb h.2)); clear hb
        go_wp2_with fail
        refine (Check_any _ b _ (HVB.out.ups HB.out)).mono ?_
        rw [HE.out]
        rintro e w1 ⟨rfl, hb1⟩
        have HB1 := hid (HB.out.trans (hb1.mono HB.out.size)); clear hb1
        go_wp2
        refine bodyPost_ret (v := .tuple #[.slice none 0 0, .int .i64 60]) (by simp [results, Try.results27, go_sem]) rfl ⟨_, by rw [HC.out], by rw [HD.out]; exact .inl ⟨rfl, rfl⟩, HB1.out⟩
    · have hla : 2 * (a.length : Int) ≤ 1024 - -1 := ok_length (by omega) hoa.out
      have hlb : 2 * (b.length : Int) ≤ 1024 - -1 := ok_length (by omega) hob.out
      have hA : a.length ≤ 1024 := by omega
      have hBl : b.length ≤ 1024 := by omega
      have HA1 := hid hA; have HBL := hid hBl
      clear hla hlb hA hBl
      go_wp2_with fail
      refine (boundaries_any _ a _ (HVA.out.ups HB.out) HA1.out).mono ?_
      rintro e w1 ⟨uA0, rfl, hiA, hb1⟩
      obtain ⟨pA, cA, hfA⟩ := hiA.form
      obtain ⟨lA, hlA⟩ : ∃ n, n = (T.ends a).length := ⟨_, rfl⟩
      rw [← hlA] at hfA
      subst hfA
      clear hlA
      have HIA1 := hid hiA; have HB1 := hid (HB.out.trans (hb1.mono HB.out.size)); clear hiA hb1
      go_wp2_with fail
      refine (boundaries_any _ b _ (HVB.out.ups HB1.out) HBL.out).mono ?_
      rintro e w2 ⟨uB0, rfl, hiB, hb2⟩
      obtain ⟨pB, cB, hfB⟩ := hiB.form
      obtain ⟨lB, hlB⟩ : ∃ n, n = (T.ends b).length := ⟨_, rfl⟩
      rw [← hlB] at hfB
      subst hfB
      clear hlB
      have HIA2 := hid (HIA1.out.ups hb2); have HIB2 := hid hiB; have HB2 := hid (HB1.out.trans (hb2.mono HB1.out.size)); clear hiB hb2
      have HLA := hid (show (T.ends a).length ≤ 10000 by rw [T.ends_length]; have := HA1.out; omega)
      have HLB := hid (show (T.ends b).length ≤ 10000 by rw [T.ends_length]; have := HBL.out; omega)
      have HLS := hid (show (T.ends a ++ T.ends b).length ≤ 10000 by rw [List.length_append, T.ends_length, T.ends_length]; have := HA1.out; have := HBL.out; omega)
      have HSA := hid ((T.ends_sorted hoa.out).imp (fun h => Int.le_of_lt h)); have HSB := hid ((T.ends_sorted hob.out).imp (fun h => Int.le_of_lt h))
      go_wp2_with fail
      obtain ⟨q1, q2⟩ := pairs_new w2 (.slice pA lA cA) (.slice pB lB cB) 42
      have al := (Below.refl _ w2).alloc (Nat.le_refl _) (.cells #[.slice pA lA cA, .slice pB lB cB] 42)
      refine (sorted_any _ w2.heap.size (.slice pA lA cA) (.slice pB lB cB) (T.ends a) (T.ends b) q1 q2 (by simp) (HIA2.out.ups al) (HIB2.out.ups al) HLS.out).mono ?_
      rintro e w4 ⟨uS, rfl, hiS, hb4⟩
      have hb24 := al.trans (hb4.mono al.size)
      have HIA4 := hid (HIA2.out.ups hb24); have HIB4 := hid (HIB2.out.ups hb24); have HB24 := hid (HB2.out.trans (hb24.mono HB2.out.size))
      obtain ⟨pS, cS, hfS⟩ := hiS.form
      have HIS := hid hiS
      clear q1 q2 al hb4 hb24 hiS
      obtain ⟨nS, hnS⟩ : ∃ n, n = (srt (T.ends a ++ T.ends b)).length := ⟨_, rfl⟩
      rw [← hnS] at hfS
      subst hfS
      have hnS2 : nS ≤ 10000 := by rw [hnS, srt_length]; exact HLS.out
      have HNS := hid hnS
      have HRS := hid HIS.out.ri
      have hmemS : ∀ y, y ∈ srt (T.ends a ++ T.ends b) ↔ y ∈ T.ends a ∨ y ∈ T.ends b := fun y => by rw [srt_mem, List.mem_append]
      have HMS := hid hmemS
      clear hnS hmemS
      go_wp2
      go_loopw [13, 38] (fun s i w5 => ∃ (k : Nat) (K : List Int), k ≤ nS ∧ i = .int .i64 k ∧ ON w5 w4.heap.size s K ∧ Below w4.heap.size w4 w5 ∧ Hid (T.Swept (fun x => pOr (T.par (T.ends a) x) (T.par (T.ends b) x)) (srt (T.ends a ++ T.ends b)) k K)) (fun _ i _ => nS - (intOf i).toNat)
      case atStart => exact ⟨0, [], by omega, rfl, on_nil _ _, Below.refl _ _, hid (T.sweep_start rfl HMS.out)⟩
      case round =>
       obtain ⟨k, K, hk, rfl, hon, hb4, hsw⟩ := hrel
       obtain ⟨pK, cK, hfK⟩ := hon.is.form
       obtain ⟨nK, hnK⟩ : ∃ n, n = K.length := ⟨_, rfl⟩
       rw [← hnK] at hfK
       have hkl : K.length = nK := hnK.symm
       subst hfK
       have HON := hid hon; have HB4 := hid hb4
       have hKk := hsw.out.len
       have hlen : K.length + [0].length ≤ 1000000 := by
        have h1 : [0].length = 1 := rfl
        omega
       have HKL := hid hlen
       clear hon hb4 hnK hlen
       by_cases hlt : k < nS
       · obtain ⟨x, hx⟩ : ∃ x, (srt (T.ends a ++ T.ends b))[k]? = some x := ⟨_, List.getElem?_eq_getElem (by rw [← HNS.out]; exact hlt)⟩
         obtain ⟨bb, oo, rfl, hbl, hcell0⟩ := HRS.out k x hx
         have hcell := (HB4.out.cell (p := ⟨bb, oo + k, none⟩) hbl).trans hcell0
         have hsw2 := hsw.out.next (srt_sorted _) hx (T.sweep_const HMS.out)
         have hxr : -1 < x ∧ x ≤ 1024 := by
          rcases (HMS.out x).1 (List.mem_of_getElem? hx) with h | h
          · exact T.ends_range hoa.out x h
          · exact T.ends_range hob.out x h
         obtain ⟨hx0, hx1⟩ := hxr
         have HIA := hid (HIA4.out.ups HB4.out); have HIB := hid (HIB4.out.ups HB4.out)
         have HKL : Hid (K.length + [x].length ≤ 1000000) := HKL
         have hdec : (T.par (T.ends a) x = true ∨ T.par (T.ends a) x = false) ∧ (T.par (T.ends b) x = true ∨ T.par (T.ends b) x = false) ∧ (decide (K.length % 2 = 1) = true ∨ decide (K.length % 2 = 1) = false) := ⟨tf _, tf _, tf _⟩
         clear hsw hcell0 hx hbl
         obtain ⟨hpa | hpa, hpb | hpb, hop | hop⟩ := hdec
         · have hq : (pOr (T.par (T.ends a) x) (T.par (T.ends b) x)) = true := by rw [hpa, hpb]; rfl
           have hturn : T.turn (fun x => pOr (T.par (T.ends a) x) (T.par (T.ends b) x)) K x = K := by unfold T.turn; rw [if_pos (hq.trans hop.symm)]
           rw [hturn] at hsw2
           have HSW := hid hsw2
           have hopi := open_true hop hkl
           have HPA := hid hpa; have HPB := hid hpb
           clear hq hturn hsw2 hop hpa hpb
           go_wp2_with fail
           refine (within_any wr (.slice pA lA cA) (T.ends a) x HIA.out HLA.out HSA.out (by omega) (by omega)).mono ?_
           rw [HPA.out]
           rintro e w5 ⟨rfl, hb5⟩
           have HB5 := hid hb5; clear hb5
           go_wp2_with fail
           refine (within_any w5 (.slice pB lB cB) (T.ends b) x (HIB.out.ups HB5.out) HLB.out HSB.out (by omega) (by omega)).mono ?_
           rw [HPB.out]
           rintro e w6 ⟨rfl, hb6⟩
           have HB6 := hid ((HB5.out.trans (hb6.mono HB5.out.size))); clear hb6
           go_wp2_with fail
           refine (keep28_any true true _).mono ?_
           rintro e w7 ⟨rfl, rfl⟩
           have HO8 := hid (HON.out.ups HB6.out); have HB8 := hid (HB4.out.trans (HB6.out.mono HB4.out.size))
           go_wp2
           go_roundw
           case rel => exact ⟨k + 1, _, by omega, by go_num, HO8.out, HB8.out, HSW⟩
           case measure => simp [intOf]; omega
         · have hq : (pOr (T.par (T.ends a) x) (T.par (T.ends b) x)) = true := by rw [hpa, hpb]; rfl
           have hturn : T.turn (fun x => pOr (T.par (T.ends a) x) (T.par (T.ends b) x)) K x = K ++ [x] := by unfold T.turn; rw [if_neg (fun e => absurd (hq.symm.trans (e.trans hop)) (by decide))]
           rw [hturn] at hsw2
           have HSW := hid hsw2
           have hopi := open_false hop hkl
           have HPA := hid hpa; have HPB := hid hpb
           clear hq hturn hsw2 hop hpa hpb
           go_wp2_with fail
           refine (within_any wr (.slice pA lA cA) (T.ends a) x HIA.out HLA.out HSA.out (by omega) (by omega)).mono ?_
           rw [HPA.out]
           rintro e w5 ⟨rfl, hb5⟩
           have HB5 := hid hb5; clear hb5
           go_wp2_with fail
           refine (within_any w5 (.slice pB lB cB) (T.ends b) x (HIB.out.ups HB5.out) HLB.out HSB.out (by omega) (by omega)).mono ?_
           rw [HPB.out]
           rintro e w6 ⟨rfl, hb6⟩
           have HB6 := hid ((HB5.out.trans (hb6.mono HB5.out.size))); clear hb6
           go_wp2_with fail
           refine (keep28_any true true _).mono ?_
           rintro e w7 ⟨rfl, rfl⟩
           obtain ⟨u', w8, happ, hon8, hb8⟩ := app_new (HON.out.ups HB6.out) [x] HKL.out (Nat.le_trans HB4.out.size HB6.out.size)
           simp only [List.map_cons, List.map_nil, List.length_cons, List.length_nil, Nat.zero_add, Nat.reduceAdd] at happ
           have HAPP := hid happ; have HO8 := hid hon8; have HB8 := hid ((HB4.out.trans (HB6.out.mono HB4.out.size)).trans hb8)
           clear happ hon8 hb8 hopi
           go_wp2_with (at_builtin; refine wpList_append_run rfl (.tmp 56) (.tmp 58) 42 42 ?_ _ _ _ ?_ ?_ HAPP.out ?_; exact rfl; exact rfl; exact rfl)
           go_roundw
           case rel => exact ⟨k + 1, _, by omega, by go_num, HO8.out, HB8.out, HSW⟩
           case measure => simp [intOf]; omega
         · have hq : (pOr (T.par (T.ends a) x) (T.par (T.ends b) x)) = true := by rw [hpa, hpb]; rfl
           have hturn : T.turn (fun x => pOr (T.par (T.ends a) x) (T.par (T.ends b) x)) K x = K := by unfold T.turn; rw [if_pos (hq.trans hop.symm)]
           rw [hturn] at hsw2
           have HSW := hid hsw2
           have hopi := open_true hop hkl
           have HPA := hid hpa; have HPB := hid hpb
           clear hq hturn hsw2 hop hpa hpb
           go_wp2_with fail
           refine (within_any wr (.slice pA lA cA) (T.ends a) x HIA.out HLA.out HSA.out (by omega) (by omega)).mono ?_
           rw [HPA.out]
           rintro e w5 ⟨rfl, hb5⟩
           have HB5 := hid hb5; clear hb5
           go_wp2_with fail
           refine (within_any w5 (.slice pB lB cB) (T.ends b) x (HIB.out.ups HB5.out) HLB.out HSB.out (by omega) (by omega)).mono ?_
           rw [HPB.out]
           rintro e w6 ⟨rfl, hb6⟩
           have HB6 := hid ((HB5.out.trans (hb6.mono HB5.out.size))); clear hb6
           go_wp2_with fail
           refine (keep28_any true false _).mono ?_
           rintro e w7 ⟨rfl, rfl⟩
           have HO8 := hid (HON.out.ups HB6.out); have HB8 := hid (HB4.out.trans (HB6.out.mono HB4.out.size))
           go_wp2
           go_roundw
           case rel => exact ⟨k + 1, _, by omega, by go_num, HO8.out, HB8.out, HSW⟩
           case measure => simp [intOf]; omega
         · have hq : (pOr (T.par (T.ends a) x) (T.par (T.ends b) x)) = true := by rw [hpa, hpb]; rfl
           have hturn : T.turn (fun x => pOr (T.par (T.ends a) x) (T.par (T.ends b) x)) K x = K ++ [x] := by unfold T.turn; rw [if_neg (fun e => absurd (hq.symm.trans (e.trans hop)) (by decide))]
           rw [hturn] at hsw2
           have HSW := hid hsw2
           have hopi := open_false hop hkl
           have HPA := hid hpa; have HPB := hid hpb
           clear hq hturn hsw2 hop hpa hpb
           go_wp2_with fail
           refine (within_any wr (.slice pA lA cA) (T.ends a) x HIA.out HLA.out HSA.out (by omega) (by omega)).mono ?_
           rw [HPA.out]
           rintro e w5 ⟨rfl, hb5⟩
           have HB5 := hid hb5; clear hb5
           go_wp2_with fail
           refine (within_any w5 (.slice pB lB cB) (T.ends b) x (HIB.out.ups HB5.out) HLB.out HSB.out (by omega) (by omega)).mono ?_
           rw [HPB.out]
           rintro e w6 ⟨rfl, hb6⟩
           have HB6 := hid ((HB5.out.trans (hb6.mono HB5.out.size))); clear hb6
           go_wp2_with fail
           refine (keep28_any true false _).mono ?_
           rintro e w7 ⟨rfl, rfl⟩
           obtain ⟨u', w8, happ, hon8, hb8⟩ := app_new (HON.out.ups HB6.out) [x] HKL.out (Nat.le_trans HB4.out.size HB6.out.size)
           simp only [List.map_cons, List.map_nil, List.length_cons, List.length_nil, Nat.zero_add, Nat.reduceAdd] at happ
           have HAPP := hid happ; have HO8 := hid hon8; have HB8 := hid ((HB4.out.trans (HB6.out.mono HB4.out.size)).trans hb8)
           clear happ hon8 hb8 hopi
           go_wp2_with (at_builtin; refine wpList_append_run rfl (.tmp 56) (.tmp 58) 42 42 ?_ _ _ _ ?_ ?_ HAPP.out ?_; exact rfl; exact rfl; exact rfl)
           go_roundw
           case rel => exact ⟨k + 1, _, by omega, by go_num, HO8.out, HB8.out, HSW⟩
           case measure => simp [intOf]; omega
         · have hq : (pOr (T.par (T.ends a) x) (T.par (T.ends b) x)) = true := by rw [hpa, hpb]; rfl
           have hturn : T.turn (fun x => pOr (T.par (T.ends a) x) (T.par (T.ends b) x)) K x = K := by unfold T.turn; rw [if_pos (hq.trans hop.symm)]
           rw [hturn] at hsw2
           have HSW := hid hsw2
           have hopi := open_true hop hkl
           have HPA := hid hpa; have HPB := hid hpb
           clear hq hturn hsw2 hop hpa hpb
           go_wp2_with fail
           refine (within_any wr (.slice pA lA cA) (T.ends a) x HIA.out HLA.out HSA.out (by omega) (by omega)).mono ?_
           rw [HPA.out]
           rintro e w5 ⟨rfl, hb5⟩
           have HB5 := hid hb5; clear hb5
           go_wp2_with fail
           refine (within_any w5 (.slice pB lB cB) (T.ends b) x (HIB.out.ups HB5.out) HLB.out HSB.out (by omega) (by omega)).mono ?_
           rw [HPB.out]
           rintro e w6 ⟨rfl, hb6⟩
           have HB6 := hid ((HB5.out.trans (hb6.mono HB5.out.size))); clear hb6
           go_wp2_with fail
           refine (keep28_any false true _).mono ?_
           rintro e w7 ⟨rfl, rfl⟩
           have HO8 := hid (HON.out.ups HB6.out); have HB8 := hid (HB4.out.trans (HB6.out.mono HB4.out.size))
           go_wp2
           go_roundw
           case rel => exact ⟨k + 1, _, by omega, by go_num, HO8.out, HB8.out, HSW⟩
           case measure => simp [intOf]; omega
         · have hq : (pOr (T.par (T.ends a) x) (T.par (T.ends b) x)) = true := by rw [hpa, hpb]; rfl
           have hturn : T.turn (fun x => pOr (T.par (T.ends a) x) (T.par (T.ends b) x)) K x = K ++ [x] := by unfold T.turn; rw [if_neg (fun e => absurd (hq.symm.trans (e.trans hop)) (by decide))]
           rw [hturn] at hsw2
           have HSW := hid hsw2
           have hopi := open_false hop hkl
           have HPA := hid hpa; have HPB := hid hpb
           clear hq hturn hsw2 hop hpa hpb
           go_wp2_with fail
           refine (within_any wr (.slice pA lA cA) (T.ends a) x HIA.out HLA.out HSA.out (by omega) (by omega)).mono ?_
           rw [HPA.out]
           rintro e w5 ⟨rfl, hb5⟩
           have HB5 := hid hb5; clear hb5
           go_wp2_with fail
           refine (within_any w5 (.slice pB lB cB) (T.ends b) x (HIB.out.ups HB5.out) HLB.out HSB.out (by omega) (by omega)).mono ?_
           rw [HPB.out]
           rintro e w6 ⟨rfl, hb6⟩
           have HB6 := hid ((HB5.out.trans (hb6.mono HB5.out.size))); clear hb6
           go_wp2_with fail
           refine (keep28_any false true _).mono ?_
           rintro e w7 ⟨rfl, rfl⟩
           obtain ⟨u', w8, happ, hon8, hb8⟩ := app_new (HON.out.ups HB6.out) [x] HKL.out (Nat.le_trans HB4.out.size HB6.out.size)
           simp only [List.map_cons, List.map_nil, List.length_cons, List.length_nil, Nat.zero_add, Nat.reduceAdd] at happ
           have HAPP := hid happ; have HO8 := hid hon8; have HB8 := hid ((HB4.out.trans (HB6.out.mono HB4.out.size)).trans hb8)
           clear happ hon8 hb8 hopi
           go_wp2_with (at_builtin; refine wpList_append_run rfl (.tmp 56) (.tmp 58) 42 42 ?_ _ _ _ ?_ ?_ HAPP.out ?_; exact rfl; exact rfl; exact rfl)
           go_roundw
           case rel => exact ⟨k + 1, _, by omega, by go_num, HO8.out, HB8.out, HSW⟩
           case measure => simp [intOf]; omega
         · have hq : (pOr (T.par (T.ends a) x) (T.par (T.ends b) x)) = false := by rw [hpa, hpb]; rfl
           have hturn : T.turn (fun x => pOr (T.par (T.ends a) x) (T.par (T.ends b) x)) K x = K ++ [x] := by unfold T.turn; rw [if_neg (fun e => absurd (hq.symm.trans (e.trans hop)) (by decide))]
           rw [hturn] at hsw2
           have HSW := hid hsw2
           have hopi := open_true hop hkl
           have HPA := hid hpa; have HPB := hid hpb
           clear hq hturn hsw2 hop hpa hpb
           go_wp2_with fail
           refine (within_any wr (.slice pA lA cA) (T.ends a) x HIA.out HLA.out HSA.out (by omega) (by omega)).mono ?_
           rw [HPA.out]
           rintro e w5 ⟨rfl, hb5⟩
           have HB5 := hid hb5; clear hb5
           go_wp2_with fail
           refine (within_any w5 (.slice pB lB cB) (T.ends b) x (HIB.out.ups HB5.out) HLB.out HSB.out (by omega) (by omega)).mono ?_
           rw [HPB.out]
           rintro e w6 ⟨rfl, hb6⟩
           have HB6 := hid ((HB5.out.trans (hb6.mono HB5.out.size))); clear hb6
           go_wp2_with fail
           refine (keep28_any false false _).mono ?_
           rintro e w7 ⟨rfl, rfl⟩
           obtain ⟨u', w8, happ, hon8, hb8⟩ := app_new (HON.out.ups HB6.out) [x] HKL.out (Nat.le_trans HB4.out.size HB6.out.size)
           simp only [List.map_cons, List.map_nil, List.length_cons, List.length_nil, Nat.zero_add, Nat.reduceAdd] at happ
           have HAPP := hid happ; have HO8 := hid hon8; have HB8 := hid ((HB4.out.trans (HB6.out.mono HB4.out.size)).trans hb8)
           clear happ hon8 hb8 hopi
           go_wp2_with (at_builtin; refine wpList_append_run rfl (.tmp 56) (.tmp 58) 42 42 ?_ _ _ _ ?_ ?_ HAPP.out ?_; exact rfl; exact rfl; exact rfl)
           go_roundw
           case rel => exact ⟨k + 1, _, by omega, by go_num, HO8.out, HB8.out, HSW⟩
           case measure => simp [intOf]; omega
         · have hq : (pOr (T.par (T.ends a) x) (T.par (T.ends b) x)) = false := by rw [hpa, hpb]; rfl
           have hturn : T.turn (fun x => pOr (T.par (T.ends a) x) (T.par (T.ends b) x)) K x = K := by unfold T.turn; rw [if_pos (hq.trans hop.symm)]
           rw [hturn] at hsw2
           have HSW := hid hsw2
           have hopi := open_false hop hkl
           have HPA := hid hpa; have HPB := hid hpb
           clear hq hturn hsw2 hop hpa hpb
           go_wp2_with fail
           refine (within_any wr (.slice pA lA cA) (T.ends a) x HIA.out HLA.out HSA.out (by omega) (by omega)).mono ?_
           rw [HPA.out]
           rintro e w5 ⟨rfl, hb5⟩
           have HB5 := hid hb5; clear hb5
           go_wp2_with fail
           refine (within_any w5 (.slice pB lB cB) (T.ends b) x (HIB.out.ups HB5.out) HLB.out HSB.out (by omega) (by omega)).mono ?_
           rw [HPB.out]
           rintro e w6 ⟨rfl, hb6⟩
           have HB6 := hid ((HB5.out.trans (hb6.mono HB5.out.size))); clear hb6
           go_wp2_with fail
           refine (keep28_any false false _).mono ?_
           rintro e w7 ⟨rfl, rfl⟩
           have HO8 := hid (HON.out.ups HB6.out); have HB8 := hid (HB4.out.trans (HB6.out.mono HB4.out.size))
           go_wp2
           go_roundw
           case rel => exact ⟨k + 1, _, by omega, by go_num, HO8.out, HB8.out, HSW⟩
           case measure => simp [intOf]; omega
       · have hkn : k = (srt (T.ends a ++ T.ends b)).length := by have := HNS.out; omega
         have hsw3 := hsw.out
         rw [hkn] at hsw3
         obtain ⟨m, hm1, hm2, hm3⟩ := T.sweep_done rfl hoa.out hob.out HMS.out hsw3
         have hres := cs_uniq (P := pOr) rfl hoa.out hob.out hm2 hm3
         have hcb : T.pairs K = cb pOr a b := by rw [hres]; exact (if_pos ⟨hoa.out, hob.out⟩).symm
         have hce : ce a b = 0 := if_pos ⟨hoa.out, hob.out⟩
         have HCB := hid hcb; have HCE := hid hce; have HM1 := hid hm1
         have hm5 : m ≤ 5000 := by omega
         clear hkn hsw hsw3 hm1 hm2 hm3 hres hcb hce
         go_wp2_with fail
         refine (between_any K m HM1.out hm5 _ _ HON.out.is).mono ?_
         rintro e w9 ⟨uR, rfl, hsR, hb9⟩
         have HSR := hid hsR; have HB9 := hid hb9
         clear hsR hb9
         go_wp2
         refine bodyPost_ret (v := .tuple #[uR, .int .i64 0]) (by simp [results, Try.results27, go_sem]) rfl ⟨_, by rw [HCE.out], by rw [← HCB.out]; exact HSR.out, ?_⟩
         have h49 := HB4.out.trans (HB9.out.mono HB4.out.size)
         exact HB24.out.trans (h49.mono HB24.out.size)
theorem Union_any (va vb : Value) (a b : Sp) (w : World) (hva : SS w va a) (hvb : SS w vb b) :
    Calls Try.prog 19 #[va, vb] w fun e w' => ∃ u, e = .returned (.tuple #[u, .int .i64 (ce a b)]) ∧ SS w' u (cb pOr a b) ∧ Below w.heap.size w w' := by
  have HC := hid (combine28_any va vb a b w hva hvb)
  obtain ⟨pa, ca, hfa⟩ := hva.form
  obtain ⟨pb, cb', hfb⟩ := hvb.form
  obtain ⟨na, hna⟩ : ∃ n, n = a.length := ⟨_, rfl⟩
  obtain ⟨nb, hnb⟩ : ∃ n, n = b.length := ⟨_, rfl⟩
  rw [← hna] at hfa; rw [← hnb] at hfb
  subst hfa; subst hfb
  clear hva hvb hna hnb
  go_enter Try.func19, Try.ntmps19
  go_wp2_with fail
  refine HC.out.mono ?_
  rintro e w1 ⟨u, rfl, hs, hb⟩
  have HS := hid hs; have HB := hid hb
  clear hs hb
  go_wp2
  refine bodyPost_ret (v := .tuple #[u, .int .i64 (ce a b)]) (by simp [results, Try.results19, go_sem]) rfl ⟨_, rfl, HS.out, HB.out⟩
end Go.Proofs.Ytnbhihjhpomenaa

/- Contracts: LessKey, differs, Points of the reference. -/
import Derived.Test.YtbejjindkcjecaaRefAt
import Derived.Test.YtbejjindkcjecaaSamePts
namespace Go.Proofs.Ytbejjindkcjecaa
open Go.RowKit Go
set_option linter.unusedVariables false
set_option linter.unusedSimpArgs false
theorem ne_pair (a b : Int × Bool) : decide (a ≠ b) = (a.2 != b.2 || a.1 != b.1) := by
  obtain ⟨x, y⟩ := a
  obtain ⟨x', y'⟩ := b
  by_cases e1 : x = x'
  · subst e1
    cases y <;> cases y' <;> simp
  · have : (x != x') = true := by simpa using e1
    simp [e1, this]
set_option maxRecDepth 100000 in
set_option maxHeartbeats 4000000 in
theorem lessKey_any (a b : KE) (w : World) : Calls Try.prog 58 #[KV a, KV b] w fun e w' => e = .returned (.bool (decide (F7.kl a b))) ∧ Below w.heap.size w w' := by
  have HD := hid (show ∀ x, (F7.kl a b ↔ x = true) → decide (F7.kl a b) = x from fun x h => by cases x <;> simp_all)
  have HK := hid (show F7.kl a b ↔ a.1 < b.1 ∨ (a.1 = b.1 ∧ (a.2.1 < b.2.1 ∨ (a.2.1 = b.2.1 ∧ a.2.2 < b.2.2))) from by unfold F7.kl; omega)
  obtain ⟨a0, a1, a2⟩ := a
  obtain ⟨b0, b1, b2⟩ := b
  simp only at HK
  have HB := hid (((Below.refl _ w).alloc (Nat.le_refl _) (.cells #[.int .i64 a0, .int .i64 a1, .int .i64 a2] 24)).alloc (by simp) (.cells #[.int .i64 b0, .int .i64 b1, .int .i64 b2] 24))
  by_cases h0 : a0 = b0
  · have k1 : (a0 != b0) = false := by simpa using h0
    by_cases h1 : a1 = b1
    · have k2 : (a1 != b1) = false := by simpa using h1
      have HV := hid (show decide (F7.kl (a0, a1, a2) (b0, b1, b2)) = decide (a2 < b2) from HD.out _ (by rw [HK.out]; simp; omega))
      clear h0 h1 HD HK
      go_enter Try.func58, Try.ntmps58
      go_wp2
      go_ret
      exact ⟨by rw [HV.out]; rfl, HB.out⟩
    · have k2 : (a1 != b1) = true := by simpa using h1
      have HV := hid (show decide (F7.kl (a0, a1, a2) (b0, b1, b2)) = decide (a1 < b1) from HD.out _ (by rw [HK.out]; simp; omega))
      clear h0 h1 HD HK
      go_enter Try.func58, Try.ntmps58
      go_wp2
      go_ret
      exact ⟨by rw [HV.out]; rfl, HB.out⟩
  · have k1 : (a0 != b0) = true := by simpa using h0
    have HV := hid (show decide (F7.kl (a0, a1, a2) (b0, b1, b2)) = decide (a0 < b0) from HD.out _ (by rw [HK.out]; simp; omega))
    clear h0 HD HK
    go_enter Try.func58, Try.ntmps58
    go_wp2
    go_ret
    exact ⟨by rw [HV.out]; rfl, HB.out⟩
set_option maxRecDepth 100000 in
set_option maxHeartbeats 4000000 in
theorem differs_any (v : Value) (L : List FA) (k : KE) (t q q' : Int) (w : World) (hv : FS w v L) (hL : L.length ≤ 1000000) :
    Calls Try.prog 46 #[v, KV k, .int .i64 t, .int .i64 q, .int .i64 q'] w fun e w' => e = .returned (.bool (decide (F7.dif k q q' L t))) ∧ Below w.heap.size w w' := by
  have A1 := hid (fun W (h : Below w.heap.size w W) => refAt_any v L k t q W (hv.ups h) hL)
  have A2 := hid (fun W (h : Below w.heap.size w W) => refAt_any v L k t q' W (hv.ups h) hL)
  obtain ⟨p, c, hf⟩ := hv.form
  obtain ⟨n, hn⟩ : ∃ n, n = L.length := ⟨_, rfl⟩
  rw [← hn] at hf
  subst hf
  clear hv hn hL
  have HD := hid (show decide (F7.dif k q q' L t) = ((F7.val k t q L).2 != (F7.val k t q' L).2 || (F7.val k t q L).1 != (F7.val k t q' L).1) from ne_pair _ _)
  obtain ⟨d, hd⟩ : ∃ d, d = decide (F7.dif k q q' L t) := ⟨_, rfl⟩
  rw [← hd] at HD ⊢
  obtain ⟨x, hx⟩ : ∃ x, x = (F7.val k t q L).1 := ⟨_, rfl⟩
  obtain ⟨y, hy⟩ : ∃ x, x = (F7.val k t q L).2 := ⟨_, rfl⟩
  obtain ⟨x', hx'⟩ : ∃ x, x = (F7.val k t q' L).1 := ⟨_, rfl⟩
  obtain ⟨y', hy'⟩ : ∃ x, x = (F7.val k t q' L).2 := ⟨_, rfl⟩
  rw [← hx, ← hy] at A1 HD; rw [← hx', ← hy'] at A2 HD
  clear hd hx hy hx' hy'
  obtain ⟨k0, k1, k2⟩ := k
  obtain ⟨Y, hY⟩ : ∃ Z, Z = w.alloc (.cells #[.int .i64 k0, .int .i64 k1, .int .i64 k2] 24) := ⟨_, rfl⟩
  have HY := hid (show Below w.heap.size w Y from by rw [hY]; exact (Below.refl _ w).alloc (Nat.le_refl _) _)
  have bK : Blk Y w.heap.size 24 (kc (k0, k1, k2)) := by rw [hY]; exact Blk.new w 24 (kc (k0, k1, k2))
  have HBK := hid bK
  have c0 := bK.cell 0 _ rfl; have c1 := bK.cell 1 _ rfl; have c2 := bK.cell 2 _ rfl
  clear bK
  go_enter Try.func46, Try.ntmps46
  go_upto_region 1 with fail
  rw [← hY]
  clear hY
  go_wp2_with fail
  refine (A1.out _ HY.out).mono ?_
  rintro e w1 ⟨rfl, hb⟩
  have HT := hid hb
  clear hb c0 c1 c2
  have bK1 := HBK.out.below HT.out HBK.out.lt
  have c0 := bK1.cell 0 _ rfl; have c1 := bK1.cell 1 _ rfl; have c2 := bK1.cell 2 _ rfl
  clear bK1
  go_wp2_with fail
  refine (A2.out _ (HY.out.trans (HT.out.mono HY.out.size))).mono ?_
  rintro e w2 ⟨rfl, hb⟩
  have HT := hid (below_t HT.out hb)
  clear hb c0 c1 c2
  have hd := HD.out
  subst hd
  cases y <;> cases y' <;> (go_wp2; go_ret; exact ⟨by simp, HY.out.trans (HT.out.mono HY.out.size)⟩)
/-- the points ahead of a term -/
def ptsTo (k : KE) (a b q : Int) (L : List FA) (m : Nat) : List (Int × Int) := (List.range m).filterMap fun (t : Nat) => if a ≤ (t : Int) ∧ (t : Int) < b ∧ (F7.val k t q L).2 = true then some ((t : Int), (F7.val k t q L).1) else none
theorem ptsTo_snoc (k : KE) (a b q : Int) (L : List FA) (m : Nat) : ptsTo k a b q L (m + 1) = ptsTo k a b q L m ++ (if a ≤ (m : Int) ∧ (m : Int) < b ∧ (F7.val k m q L).2 = true then [((m : Int), (F7.val k m q L).1)] else []) := by
  unfold ptsTo
  rw [List.range_succ, List.filterMap_append]
  congr 1
  by_cases h : a ≤ (m : Int) ∧ (m : Int) < b ∧ (F7.val k m q L).2 = true
  · rw [if_pos h]; simp [h]
  · rw [if_neg h]
    simp only [List.filterMap_cons, if_neg h, List.filterMap_nil]
theorem ptsTo_zero {k : KE} {a b q : Int} {L : List FA} : ∀ m : Nat, (∀ t : Nat, t < m → ¬ (a ≤ (t : Int) ∧ (t : Int) < b)) → ptsTo k a b q L m = []
  | 0, _ => rfl
  | m + 1, h => by
    rw [ptsTo_snoc, ptsTo_zero m (fun t ht => h t (by omega)), if_neg (fun e => h m (by omega) ⟨e.1, e.2.1⟩)]; rfl
theorem ptsTo_more {k : KE} {a b q : Int} {L : List FA} (m : Nat) : ∀ d : Nat, (∀ t : Nat, m ≤ t → t < m + d → ¬ (a ≤ (t : Int) ∧ (t : Int) < b)) → ptsTo k a b q L (m + d) = ptsTo k a b q L m
  | 0, _ => rfl
  | d + 1, h => by
    rw [show m + (d + 1) = (m + d) + 1 from rfl, ptsTo_snoc, ptsTo_more m d (fun t h1 h2 => h t h1 (by omega)), if_neg (fun e => h (m + d) (by omega) (by omega) ⟨e.1, e.2.1⟩), List.append_nil]
theorem ptsTo_length (k : KE) (a b q : Int) (L : List FA) (m : Nat) : (ptsTo k a b q L m).length ≤ m := by
  unfold ptsTo
  exact Nat.le_trans (List.length_filterMap_le _ _) (by simp)
set_option maxRecDepth 100000 in
set_option maxHeartbeats 8000000 in
theorem refPoints_any (v : Value) (L : List FA) (k : KE) (a b q : Int) (w : World) (hv : FS w v L) (hL : L.length ≤ 1000000) :
    Calls Try.prog 22 #[v, KV k, .int .i64 a, .int .i64 b, .int .i64 q] w fun e w' => ∃ u, e = .returned u ∧ PS w' u (F7.points k a b q L) ∧ Below w.heap.size w w' := by
  have A1 := hid (fun (t : Int) W (h : Below w.heap.size w W) => refAt_any v L k t q W (hv.ups h) hL)
  obtain ⟨p, c, hf⟩ := hv.form
  obtain ⟨n, hn⟩ : ∃ n, n = L.length := ⟨_, rfl⟩
  rw [← hn] at hf
  subst hf
  clear hv hn hL
  have HP := hid (show F7.points k a b q L = ptsTo k a b q L 1024 from rfl)
  have HPS := hid (ptsTo_snoc k a b q L)
  have HPL := hid (ptsTo_length k a b q L)
  have HPZ := hid (fun m => ptsTo_zero (k := k) (a := a) (b := b) (q := q) (L := L) m)
  have HPM := hid (fun m d => ptsTo_more (k := k) (a := a) (b := b) (q := q) (L := L) m d)
  obtain ⟨k0, k1, k2⟩ := k
  obtain ⟨m0, hm0, hm1⟩ : ∃ m0 : Nat, max 0 a = (m0 : Int) ∧ (∀ t : Nat, t < m0 → ¬ a ≤ (t : Int)) := ⟨(max 0 a).toNat, by omega, fun t ht => by omega⟩
  have hm0' : max a 0 = (m0 : Int) := by rw [Int.max_comm]; exact hm0
  have ham : a ≤ (m0 : Int) := by omega
  obtain ⟨M, hM⟩ : ∃ M, M = min b 1024 := ⟨_, rfl⟩
  have hM' : min 1024 b = M := by rw [Int.min_comm]; exact hM.symm
  have hM2 : min b 1024 = M := hM.symm
  have HMM := hid hM
  clear hM
  obtain ⟨Y, hY⟩ : ∃ Z, Z = w.alloc (.cells #[.int .i64 k0, .int .i64 k1, .int .i64 k2] 24) := ⟨_, rfl⟩
  have HY := hid (show Below w.heap.size w Y from by rw [hY]; exact (Below.refl _ w).alloc (Nat.le_refl _) _)
  have bK : Blk Y w.heap.size 24 (kc (k0, k1, k2)) := by rw [hY]; exact Blk.new w 24 (kc (k0, k1, k2))
  have HBK := hid bK
  clear bK
  go_enter Try.func22, Try.ntmps22
  go_upto_region 1 with fail
  rw [← hY]
  have HYS := hid (show Y.heap.size = w.heap.size + 1 by rw [hY]; simp)
  clear hY
  go_upto_region 3 with fail
  obtain ⟨Z, hZ⟩ : ∃ Z, Z = Y.alloc (.cells #[] 60) := ⟨_, rfl⟩
  have HZ := hid (show Below w.heap.size w Z from by rw [hZ]; exact HY.out.alloc (by rw [HYS.out]; omega) _)
  have HKC := hid (fun (W : World) (hW : Below Y.heap.size Z W) => show W.cell? ⟨w.heap.size, 0, none⟩ = some (.int .i64 k0) ∧ W.cell? ⟨w.heap.size, 1, none⟩ = some (.int .i64 k1) ∧ W.cell? ⟨w.heap.size, 2, none⟩ = some (.int .i64 k2) from by
    have hb : Blk Z w.heap.size 24 (kc (k0, k1, k2)) := by rw [hZ]; exact HBK.out.alloc _
    have hl : w.heap.size < Y.heap.size := HBK.out.lt
    exact ⟨(hb.below hW hl).cell 0 _ rfl, (hb.below hW hl).cell 1 _ rfl, (hb.below hW hl).cell 2 _ rfl⟩)
  have HWY := hid (show w.heap.size ≤ Y.heap.size by rw [HYS.out]; omega)
  have HPO := hid (show PO Z Y.heap.size (.slice (some ⟨Y.heap.size, 0, none⟩) 0 0) [] from by
    rw [hZ]
    exact ⟨by simp, .inr ⟨Y.heap.size, 0, #[], rfl, Nat.le_refl _, heap_alloc_new Y _, Nat.le_refl _, by simp [maxLen], by simp, by simp⟩⟩)
  have HYZ := hid (show Y.heap.size ≤ Z.heap.size from by rw [hZ]; simp)
  rw [← hZ]
  clear hZ
  obtain ⟨y0, hy0⟩ : ∃ y, y = Y.heap.size := ⟨_, rfl⟩
  rw [← hy0] at HPO HYZ HKC HWY ⊢
  clear hy0
  obtain ⟨B6, hB6⟩ : ∃ y, y = w.heap.size := ⟨_, rfl⟩
  have HB6 := hid hB6
  rw [← hB6] at HKC ⊢
  clear hB6
  have HM0 := hid hm1
  clear hm1 hm0 hm0'
  go_loopw [11, 12] (fun u tt wr => ∃ m : Nat, m0 ≤ m ∧ (m ≤ 1024 ∨ m = m0) ∧ tt = .int .i64 m ∧ PO wr y0 u (ptsTo (k0, k1, k2) a b q L m) ∧ Below y0 Z wr) (fun _ tt _ => 1024 - (intOf tt).toNat)
  case atStart => exact ⟨m0, Nat.le_refl _, .inr rfl, rfl, by rw [HPZ.out m0 (fun t ht h => by have := HM0.out t ht; omega)]; exact HPO.out, Below.refl _ _⟩
  case round =>
    obtain ⟨m, hm, hmc, rfl, hpo, hbw⟩ := hrel
    have HT := hid hbw
    clear hbw
    obtain ⟨pu, cu, hfu⟩ := hpo.gs.form
    obtain ⟨nu, hnu⟩ : ∃ x, x = (ptsTo (k0, k1, k2) a b q L m).length := ⟨_, rfl⟩
    rw [← hnu] at hfu
    subst hfu
    have HPW := hid hpo
    clear hpo hnu
    by_cases hlt : (m : Int) < M
    · have hmb : (m : Int) < b ∧ m < 1024 := by have := HMM.out; omega
      have hsn := HPS.out m
      have HLE := hid (show (ptsTo (k0, k1, k2) a b q L m).length ≤ 1000000 by have := HPL.out m; omega)
      have A2 := hid (A1.out m)
      obtain ⟨vv, hvv⟩ : ∃ x, x = (F7.val (k0, k1, k2) m q L).1 := ⟨_, rfl⟩
      obtain ⟨ok, hok⟩ : ∃ x, x = (F7.val (k0, k1, k2) m q L).2 := ⟨_, rfl⟩
      rw [← hvv, ← hok] at A2 hsn
      clear hvv hok
      obtain ⟨c0, c1, c2⟩ := HKC.out _ HT.out
      cases ok with
      | false =>
        rw [if_neg (fun e => by cases e.2.2)] at hsn
        rw [List.append_nil] at hsn
        have HSN := hid hsn
        clear hsn
        go_wp2_with fail
        refine (A2.out _ (HZ.out.trans (HT.out.mono HWY.out))).mono ?_
        rintro e wn ⟨rfl, hb⟩
        have HPN := hid (HPW.out.ups hb)
        have HT := hid (HT.out.trans (hb.mono (Nat.le_trans HYZ.out HT.out.size)))
        clear hb c0 c1 c2
        go_wp2
        go_roundw
        case rel => exact ⟨m + 1, by omega, .inl (by omega), by go_num, by rw [HSN.out]; exact HPN.out, HT.out⟩
        case measure => simp [intOf]; omega
      | true =>
        rw [if_pos ⟨by omega, hmb.1, rfl⟩] at hsn
        have HSN := hid hsn
        clear hsn
        go_wp2_with fail
        refine (A2.out _ (HZ.out.trans (HT.out.mono HWY.out))).mono ?_
        rintro e wn ⟨rfl, hb⟩
        have HPN := hid (HPW.out.ups hb)
        have HT := hid (HT.out.trans (hb.mono (Nat.le_trans HYZ.out HT.out.size)))
        clear hb c0 c1 c2
        obtain ⟨g, cap, w9, happ, hpo9, hb9⟩ := app_point' HPN.out ((m : Int), vv) HLE.out (Nat.le_trans HYZ.out HT.out.size)
        have hgz : y0 ≤ y0 := Nat.le_refl _
        have HAPP := hid happ; have HPO9 := hid hpo9
        have HT9 := hid hb9
        clear happ hpo9 hb9
        go_wp2_with (at_builtin; refine wpList_append_run rfl (.tmp 33) (.tmp 37) 41 41 ?_ _ _ _ ?_ ?_ HAPP.out ?_; exact rfl; exact rfl; exact rfl)
        go_roundw
        case rel => exact ⟨m + 1, by omega, .inl (by omega), by go_num, by rw [HSN.out]; exact HPO9.out, HT.out.trans HT9.out⟩
        case measure => simp [intOf]; omega
    · have HRES := hid (show ptsTo (k0, k1, k2) a b q L m = F7.points (k0, k1, k2) a b q L by
        rw [HP.out]
        rcases hmc with hmc | hmc
        · have := HPM.out m (1024 - m) (fun t h1 h2 h => by have := HMM.out; omega)
          rw [show m + (1024 - m) = 1024 by omega] at this
          exact this.symm
        · by_cases h : m ≤ 1024
          · have := HPM.out m (1024 - m) (fun t h1 h2 h => by have := HMM.out; omega)
            rw [show m + (1024 - m) = 1024 by omega] at this
            exact this.symm
          · rw [HPZ.out m (fun t ht h => by have := HM0.out t (by omega); omega), HPZ.out 1024 (fun t ht h => by have := HM0.out t (by omega); omega)])
      clear hmc
      go_wp2
      go_ret
      exact ⟨_, rfl, by rw [← HRES.out]; exact HPW.out.gs, HZ.out.trans (HT.out.mono HWY.out)⟩
end Go.Proofs.Ytbejjindkcjecaa

/- The law LexSpaces. -/
import Derived.Test.YtgckigolbajhoaaDoorLw
import Derived.Test.YtgckigolbajhoaaDoorZ9
namespace Go.Proofs.YtgckigolbajhoaaDoor
open Go.RowKit Go
set_option linter.unusedVariables false
set_option linter.unusedSimpArgs false
theorem lst_app3 (a b : ByteArray) : lst (a ++ b) = lst a ++ lst b := by simp [lst]
theorem ext_one' {s : ByteArray} {a : Nat} {c : UInt8} (h : (lst s)[a]? = some c) : s.extract a (a + 1) = ⟨#[c]⟩ := by
  obtain ⟨q1, q2⟩ := List.getElem?_eq_some_iff.1 h
  rw [lst_extract, List.drop_eq_getElem_cons q1, q2, show a + 1 - a = 1 by omega]; rfl
/-- bytes that came in -/
def BV (w : World) (v : Value) : Prop := ∃ p n cap, v = .slice p n cap ∧ n ≤ maxLen ∧ ∀ i, i < n → ∃ (b o z : Nat), p = some ⟨b, o, none⟩ ∧ b < w.heap.size ∧ z < 256 ∧ w.cell? ⟨b, o + i, none⟩ = some (.int .u8 z)
theorem txt_one1 {x : Tk} (h : L9.vld x = true) : txt [x] = L9.tx x := by
  unfold txt; rw [if_pos (by simp [h])]; simp [Lib.join_one]
theorem take_few2 {l : List Tk} (k : Nat) (h : few l = true) : few (l.take k) = true := by
  obtain ⟨h1, h2⟩ := few_len h
  refine decide_eq_true ⟨by rw [List.length_take]; omega, ?_⟩
  have : ((l.take k).map (·.t.length)).sum ≤ (l.map (·.t.length)).sum := by
    conv => rhs; rw [← List.take_append_drop k l]
    rw [List.map_append, List.sum_append]; omega
  omega
theorem bsize (a b : ByteArray) : (a ++ b).size = a.size + b.size := by simp
set_option maxRecDepth 100000 in
set_option maxHeartbeats 8000000 in
theorem spaces_any (v u : Value) (l : List Tk) (s : ByteArray) (w : World) (hk : Konst w) (hv : KS w v l) (ht : ∀ x ∈ l, x.t.length ≤ 140737488355328) (hu : BV w u) : Calls Tryd.prog 7 #[v, u, .string s] w fun e w' => e = .returned (.bool true) ∧ Below w.heap.size w w' := by
  have HK := hid hk
  have HSA := hid (sane_any w hk)
  have HT := hid (Below.refl w.heap.size w)
  have HTL := hid ht
  have hsz : (lst s).length = s.size := rfl
  obtain ⟨pu, nu, cu, rfl, hnu, hbu⟩ := hu
  have HBU := hid hbu
  obtain ⟨p, cp, rfl⟩ := hv.form
  have HV := hid hv
  have KVV := hid hv
  clear hk hv ht hbu
  cases hf : few l
  · have HF := hid hf
    clear hf
    go_enter Tryd.func7, Tryd.ntmps7
    go_wp2_with fail
    refine HSA.out.mono ?_
    rintro e wn ⟨rfl, hb⟩
    have HT := hid (HT.out.trans (hb.mono HT.out.size))
    have KVV := hid (KVV.out.ups hb)
    clear hb
    go_wp2_with fail
    have hq := few_any _ l wn KVV.out HTL.out
    rw [HF.out] at hq
    refine hq.mono ?_
    clear hq
    rintro e wn ⟨rfl, hb⟩
    have HT := hid (HT.out.trans (hb.mono HT.out.size))
    have KVV := hid (KVV.out.ups hb)
    clear hb
    go_wp2
    go_ret
    exact ⟨rfl, HT.out⟩
  have HF := hid hf
  by_cases h1 : (100 : Int) < s.size
  · clear hsz hf
    go_enter Tryd.func7, Tryd.ntmps7
    go_wp2_with fail
    refine HSA.out.mono ?_
    rintro e wn ⟨rfl, hb⟩
    have HT := hid (HT.out.trans (hb.mono HT.out.size))
    have KVV := hid (KVV.out.ups hb)
    clear hb
    go_wp2_with fail
    have hq := few_any _ l wn KVV.out HTL.out
    rw [HF.out] at hq
    refine hq.mono ?_
    clear hq
    rintro e wn ⟨rfl, hb⟩
    have HT := hid (HT.out.trans (hb.mono HT.out.size))
    have KVV := hid (KVV.out.ups hb)
    clear hb
    go_wp2
    go_ret
    exact ⟨rfl, HT.out⟩
  have HSZ := hid hsz
  have HTXL := hid (fun W (hk : Konst W) (hv : KS W (.slice p l.length cp) l) => Text_any (.slice p l.length cp) l W hk hv (by have := (few_len hf).1; omega) (fun x hx => Nat.le_trans (mem_sum hx) (Nat.le_trans (few_len hf).2 (by unfold maxLen; omega))) (fun ha => Nat.le_trans (few_join hf ha) (by omega)))
  obtain ⟨n, hn⟩ : ∃ n, n = l.length := ⟨_, rfl⟩
  have hn2 : n ≤ 200 := by rw [hn]; exact (few_len hf).1
  rw [← hn] at HTXL KVV ⊢
  have HN := hid hn
  clear hsz hf hn
  go_enter Tryd.func7, Tryd.ntmps7
  go_wp2_with fail
  refine HSA.out.mono ?_
  rintro e wn ⟨rfl, hb⟩
  have HT := hid (HT.out.trans (hb.mono HT.out.size))
  have KVV := hid (KVV.out.ups hb)
  clear hb
  go_wp2_with fail
  have hq := few_any _ l wn KVV.out HTL.out
  rw [HF.out] at hq
  refine hq.mono ?_
  clear hq
  rintro e wn ⟨rfl, hb⟩
  have HT := hid (HT.out.trans (hb.mono HT.out.size))
  have KVV := hid (KVV.out.ups hb)
  clear hb
  go_wp2_with fail
  go_loop [7, 8] (fun x i => ∃ (k : Nat) (q : ByteArray), k ≤ s.size ∧ i = .int .i64 k ∧ x = .string q ∧ Hid (lst q = ((lst s).take k).filter L9.nLF)) (fun _ i => s.size - (intOf i).toNat)
  case atStart => exact ⟨0, ⟨#[]⟩, by omega, rfl, rfl, hid rfl⟩
  case round =>
    obtain ⟨k, q, hk, rfl, rfl, hq⟩ := hrel
    have hqs : (q.size : Int) ≤ 100 := by
      have h2 : (lst q).length = q.size := rfl
      rw [hq.out] at h2
      have h3 := List.length_filter_le L9.nLF ((lst s).take k)
      rw [List.length_take] at h3
      omega
    by_cases hlt : k < s.size
    · obtain ⟨d, hd⟩ := get_lt (l := lst s) (i := k) (by rw [HSZ.out]; exact hlt)
      have hsd : s[k]'hlt = d := (List.getElem?_eq_some_iff.1 hd).2
      have htk := take_snoc hd
      have hex := ext_one' hd
      have hw1 := wrap_id (x := (k : Int) + 1) (by omega) (by omega)
      have k1 : (k : Int) + 1 ≤ s.size := by omega
      have k2 : (k : Int) ≤ (k : Int) + 1 := by omega
      have k3 : (0 : Int) ≤ k := by omega
      cases hp : L9.nLF d
      · have hb9 : ((d.toNat : Int) == 10) = true := beq_iff_eq.2 (by simp only [L9.nLF, decide_eq_false_iff_not] at hp; omega)
        have hb8 : ((d.toNat : Int) != 10) = false := by rw [bne, hb9]; rfl
        have HQ := hid (show lst q = ((lst s).take (k + 1)).filter L9.nLF by rw [htk, List.filter_append, hq.out]; simp [hp])
        clear hd htk hp hq
        go_wp2
        go_round
        case rel => exact ⟨k + 1, q, by omega, by go_num, rfl, HQ⟩
        case measure => simp [intOf]; omega
      · have hb9 : ((d.toNat : Int) == 10) = false := beq_eq_false_iff_ne.2 (by simp only [L9.nLF, decide_eq_true_eq] at hp; omega)
        have hb8 : ((d.toNat : Int) != 10) = true := by rw [bne, hb9]; rfl
        have HQ := hid (show lst (q ++ (⟨#[d]⟩ : ByteArray)) = ((lst s).take (k + 1)).filter L9.nLF by rw [htk, List.filter_append, lst_app3, hq.out]; simp [hp, lst])
        clear hd htk hp hq
        go_wp2
        go_round
        case rel => exact ⟨k + 1, _, by omega, by go_num, rfl, HQ⟩
        case measure => simp [intOf]; omega
    · obtain rfl : k = s.size := by omega
      obtain ⟨wd, hwd⟩ : ∃ wd, wd = (lst s).filter L9.nLF := ⟨_, rfl⟩
      have hqw : lst q = wd := by
        have h2 := hq.out
        rw [List.take_of_length_le (by rw [HSZ.out]; omega)] at h2; rw [h2, hwd]
      have hwl : wd.length ≤ 100 := by
        have h2 : (lst q).length = q.size := rfl
        rw [hqw] at h2; omega
      have hwa : ∀ c ∈ wd, L9.nLF c = true := fun c hc => by rw [hwd] at hc; exact (List.mem_filter.1 hc).2
      have HG := hid (L9.gaps_gap hwa hwl)
      obtain ⟨cm, hcm⟩ : ∃ cm : ByteArray, cm = ⟨([47, 47] ++ wd ++ [10] : List UInt8).toArray⟩ := ⟨_, rfl⟩
      have hcm2 : (⟨#[47, 47]⟩ : ByteArray) ++ q ++ (⟨#[10]⟩ : ByteArray) = cm := by
        rw [hcm, ← mk_lst ((⟨#[47, 47]⟩ : ByteArray) ++ q ++ (⟨#[10]⟩ : ByteArray)), lst_app3, lst_app3, hqw]
      have hs2 : ((⟨#[47, 47]⟩ : ByteArray) ++ q).size ≤ 102 := by rw [bsize]; have : (⟨#[47, 47]⟩ : ByteArray).size = 2 := rfl; omega
      have HCM := hid hcm
      clear hq hwd hqw hwl hwa hcm
      go_wp2_with fail
      obtain ⟨Y, hY⟩ : ∃ Y, Y = wn.alloc (.cells #[.string ⟨#[32]⟩, .string ⟨#[9]⟩, .string ⟨#[10]⟩, .string ⟨#[13, 10]⟩, .string ⟨#[32, 32]⟩, .string cm, .string ⟨#[32, 47, 47, 32, 10]⟩, .string ⟨#[10, 47, 47, 10]⟩] 9) := ⟨_, rfl⟩
      obtain ⟨sb, hsb⟩ : ∃ sb, sb = wn.heap.size := ⟨_, rfl⟩
      have hb : Below wn.heap.size wn Y := by rw [hY]; exact (Below.refl _ wn).alloc (Nat.le_refl _) _
      have HT := hid (HT.out.trans (hb.mono HT.out.size))
      have KVV := hid (KVV.out.ups hb)
      have hrow : ∀ (j : Nat) (g : List UInt8), (L9.gaps wd)[j]? = some g → Y.cell? ⟨sb, j, none⟩ = some (.string ⟨g.toArray⟩) := by
        intro j g hg
        rw [hY, hsb]
        refine cell_lit wn _ 9 j _ ?_
        have hcm3 := HCM.out
        match j, hg with
        | 0, hg => cases hg; rfl
        | 1, hg => cases hg; rfl
        | 2, hg => cases hg; rfl
        | 3, hg => cases hg; rfl
        | 4, hg => cases hg; rfl
        | 5, hg => cases hg; rw [hcm3]; rfl
        | 6, hg => cases hg; rfl
        | 7, hg => cases hg; rfl
        | j + 8, hg => simp [L9.gaps] at hg
      have HROW := hid hrow
      have HSB := hid (show sb < Y.heap.size by rw [hsb, hY]; simp)
      have HKY := hid (HK.out.upn HT.out HK.out.three)
      rw [← hY, ← hsb]
      clear hY hsb hb hrow hcm2 hs2
      go_loopw [10, 54] (fun x i wr => ∃ (k : Nat) (q : ByteArray) (ps : List (Tk × List UInt8)), k ≤ n ∧ i = .int .i64 k ∧ x = .string q ∧ Below Y.heap.size Y wr ∧ Hid (lst q = 10 :: L9.sp ps) ∧ Hid (ps.map (·.1) = l.take k) ∧ Hid (∀ p ∈ ps, L9.vld p.1 = true ∧ L9.Gap p.2 ∧ p.2.length ≤ 105)) (fun _ i _ => n - (intOf i).toNat)
      case atStart => exact ⟨0, ⟨#[10]⟩, [], by omega, rfl, rfl, Below.refl _ _, hid rfl, hid rfl, hid (by simp)⟩
      case round =>
        obtain ⟨k, x, ps, hk, rfl, rfl, hb, hx, hps, hgp⟩ := hrel
        have HBW := hid hb
        have hxs : x.size ≤ 25801 := by
          have h2 : (lst x).length = x.size := rfl
          have h3 := L9.sp_len ps (fun p hp => ⟨(hgp.out p hp).1, (hgp.out p hp).2.2⟩)
          have h4 : (ps.map (·.1.t.length)).sum ≤ 2000 := by
            have h5 : ps.map (·.1.t.length) = (l.take k).map (·.t.length) := by rw [← hps.out, List.map_map]; rfl
            rw [h5]
            exact (few_len (take_few2 k HF.out)).2
          have h6 : ps.length ≤ 200 := by
            have h7 := congrArg List.length hps.out
            rw [List.length_map, List.length_take] at h7
            omega
          rw [hx.out, List.length_cons] at h2
          have h8 : (L9.sp ps).length ≤ 2000 + 119 * 200 := Nat.le_trans h3 (Nat.add_le_add h4 (Nat.mul_le_mul_left 119 h6))
          omega
        have HKW := hid (HKY.out.up hb)
        by_cases hlt : k < n
        · obtain ⟨y, hy⟩ := get_lt (l := l) (i := k) (by rw [← HN.out]; exact hlt)
          obtain ⟨b, o, hp, hbl, c0, c1, c2, c3⟩ := KR.at4 (((KVV.out.ups hb)).gr 4 kc_len (by omega)) hy
          subst hp
          have HY := hid hy
          have hyt : y.t.length ≤ 2000 := Nat.le_trans (mem_sum (List.mem_of_getElem? hy)) (few_len HF.out).2
          have htk := take_snoc hy
          obtain ⟨yk, yt, yn, ya⟩ := y
          simp only at c0 c1 c2 c3 hyt
          have HTX1 := hid (fun W (hk : Konst W) (hv : KS W (.slice (some ⟨wr.heap.size + 1, 0, none⟩) 1 1) [⟨yk, yt, yn, ya⟩]) => Text_any (.slice (some ⟨wr.heap.size + 1, 0, none⟩) 1 1) [⟨yk, yt, yn, ya⟩] W hk hv (by simp) (by intro x hx; simp at hx; subst hx; simp only; unfold maxLen; omega) (fun ha => by
            have h2 := L9.join_len _ ha
            refine Nat.le_trans h2 ?_
            simp; omega))
          cases hvl : L9.vld ⟨yk, yt, yn, ya⟩
          · rw [show txe [⟨yk, yt, yn, ya⟩] = 90 from if_neg (by simp [hvl])] at HTX1
            have h1 := all_bad hy hvl
            rw [show txe l = 90 from if_neg (by rw [h1]; decide)] at HTXL
            clear hvl h1 htk hy hb hbl hx hps hgp
            go_wp2_with fail
            obtain ⟨Y2, hY2⟩ : ∃ Y2, Y2 = (wr.alloc (.cells #[.int .i64 yk, .string ⟨yt.toArray⟩, .int .i64 yn, .int .i64 ya] 35)).alloc (.cells #[.int .i64 yk, .string ⟨yt.toArray⟩, .int .i64 yn, .int .i64 ya] 35) := ⟨_, rfl⟩
            have hb2 : Below wr.heap.size wr Y2 := by rw [hY2]; exact ((Below.refl _ wr).alloc (Nat.le_refl _) _).alloc (by simp) _
            have hk2 : KS Y2 (.slice (some ⟨wr.heap.size + 1, 0, none⟩) 1 1) [⟨yk, yt, yn, ya⟩] := by
              rw [hY2]; refine ks_new (l := [⟨yk, yt, yn, ya⟩]) ?_ (by simp [maxLen])
              have h := Blk.new (wr.alloc (.cells #[.int .i64 yk, .string ⟨yt.toArray⟩, .int .i64 yn, .int .i64 ya] 35)) 35 (([⟨yk, yt, yn, ya⟩] : List Tk).flatMap kc)
              rw [World.size_alloc] at h; exact h
            have HB2 := hid (HBW.out.trans (hb2.mono HBW.out.size))
            rw [← hY2]
            refine (HTX1.out _ (HKW.out.up hb2) hk2).mono ?_
            rintro e w3 ⟨rfl, hb3⟩
            have HB3 := hid (HB2.out.trans (hb3.mono HB2.out.size))
            clear hb3 hk2 hY2 hb2 c0 c1 c2 c3
            go_wp2_with fail
            refine (HTXL.out w3 (HKY.out.up HB3.out) (KVV.out.ups HB3.out)).mono ?_
            rintro e w4 ⟨rfl, hb⟩
            have HT := hid (HT.out.trans ((HB3.out.trans (hb.mono HB3.out.size)).mono HT.out.size))
            clear hb
            go_wp2
            go_ret
            exact ⟨rfl, HT.out⟩
          · rw [show txe [⟨yk, yt, yn, ya⟩] = 0 from if_pos (by simp [hvl]), txt_one1 hvl] at HTX1
            have htl := L9.tx_len _ hvl
            obtain ⟨tq, htq⟩ : ∃ tq : ByteArray, tq = ⟨(L9.tx ⟨yk, yt, yn, ya⟩).toArray⟩ := ⟨_, rfl⟩
            have ltq : lst tq = L9.tx ⟨yk, yt, yn, ya⟩ := by rw [htq, lst_mk]
            rw [← htq] at HTX1
            have tqs : tq.size ≤ 2013 := by
              have h2 : (lst tq).length = tq.size := rfl
              rw [ltq] at h2; simp only at htl; omega
            have g32 : (⟨#[32]⟩ : ByteArray).size = 1 := rfl
            have l32 : lst (⟨#[32]⟩ : ByteArray) = [32] := rfl
            have tq1 : (tq ++ (⟨#[32]⟩ : ByteArray)).size ≤ 2014 := by rw [bsize]; omega
            have HPUT := hid (fun (g : List UInt8) (gq : ByteArray) (hgq : lst gq = g) (hgg : L9.Gap g ∧ g.length ≤ 105) (w3 : World) (hb3 : Below Y.heap.size Y w3) =>
              show ∃ (k1 : Nat) (q : ByteArray) (ps : List (Tk × List UInt8)), k1 ≤ n ∧ (Value.int .i64 ((k : Int) + 1)) = .int .i64 k1 ∧ (Value.string (x ++ (tq ++ (⟨#[32]⟩ : ByteArray) ++ gq))) = .string q ∧ Below Y.heap.size Y w3 ∧ Hid (lst q = 10 :: L9.sp ps) ∧ Hid (ps.map (·.1) = l.take k1) ∧ Hid (∀ p ∈ ps, L9.vld p.1 = true ∧ L9.Gap p.2 ∧ p.2.length ≤ 105) from
              ⟨k + 1, _, ps ++ [(⟨yk, yt, yn, ya⟩, g)], by omega, by go_num, rfl, hb3,
                hid (by rw [L9.sp_snoc, lst_app3, lst_app3, lst_app3, ltq, l32, hgq, hx.out]; rfl),
                hid (by rw [List.map_append, hps.out, htk]; rfl),
                hid (fun p hp => by
                  rcases List.mem_append.1 hp with hp | hp
                  · exact hgp.out p hp
                  · rw [List.mem_singleton.1 hp]; exact ⟨hvl, hgg⟩)⟩)
            by_cases htu : k < nu
            · obtain ⟨bt, ot, z, hpt, hbt, hz, hct⟩ := HBU.out k htu
              subst hpt
              obtain ⟨j, hj⟩ : ∃ j, j = z % 8 := ⟨_, rfl⟩
              have hj8 : j < 8 := by omega
              have e1 : Int.tmod (z : Int) 8 = (j : Int) := by rw [hj, Int.tmod_eq_emod_of_nonneg (by omega)]; omega
              obtain ⟨g, hg⟩ := get_lt (l := L9.gaps wd) (i := j) hj8
              obtain ⟨gq, hgq⟩ : ∃ gq : ByteArray, gq = ⟨g.toArray⟩ := ⟨_, rfl⟩
              have hgg := HG.out g (List.mem_of_getElem? hg)
              have lgq : lst gq = g := by rw [hgq, lst_mk]
              have gqs : gq.size ≤ 105 := by
                have h2 : (lst gq).length = gq.size := rfl
                rw [lgq] at h2; omega
              have tq2 : (tq ++ (⟨#[32]⟩ : ByteArray) ++ gq).size ≤ 2119 := by rw [bsize]; omega
              have HGC := hid (fun (W : World) (hW : Below Y.heap.size Y W) => show W.cell? ⟨sb, j, none⟩ = some (.string gq) from (hW.cell (p := ⟨sb, j, none⟩) HSB.out).trans (by rw [hgq]; exact HROW.out j g hg))
              have HREL := hid (fun w3 hb3 => HPUT.out g gq lgq hgg w3 hb3)
              have HBT := hid hbt
              have HCT := hid ((HT.out.cell (p := ⟨bt, ot + k, none⟩) hbt).trans hct)
              have htui : (k : Int) < nu := by omega
              have k4 : (0 : Int) ≤ j := by omega
              have k5 : (j : Int) < 8 := by omega
              clear hvl htk hy hb hbl hx hps hgp htq ltq htl hj hg hgq hgg lgq hbt hct g32 l32 hyt htu
              go_wp2_with fail
              obtain ⟨Y2, hY2⟩ : ∃ Y2, Y2 = (wr.alloc (.cells #[.int .i64 yk, .string ⟨yt.toArray⟩, .int .i64 yn, .int .i64 ya] 35)).alloc (.cells #[.int .i64 yk, .string ⟨yt.toArray⟩, .int .i64 yn, .int .i64 ya] 35) := ⟨_, rfl⟩
              have hb2 : Below wr.heap.size wr Y2 := by rw [hY2]; exact ((Below.refl _ wr).alloc (Nat.le_refl _) _).alloc (by simp) _
              have hk2 : KS Y2 (.slice (some ⟨wr.heap.size + 1, 0, none⟩) 1 1) [⟨yk, yt, yn, ya⟩] := by
                rw [hY2]; refine ks_new (l := [⟨yk, yt, yn, ya⟩]) ?_ (by simp [maxLen])
                have h := Blk.new (wr.alloc (.cells #[.int .i64 yk, .string ⟨yt.toArray⟩, .int .i64 yn, .int .i64 ya] 35)) 35 (([⟨yk, yt, yn, ya⟩] : List Tk).flatMap kc)
                rw [World.size_alloc] at h; exact h
              have HB2 := hid (HBW.out.trans (hb2.mono HBW.out.size))
              rw [← hY2]
              refine (HTX1.out _ (HKW.out.up hb2) hk2).mono ?_
              rintro e w3 ⟨rfl, hb3⟩
              have HB3 := hid (HB2.out.trans (hb3.mono HB2.out.size))
              clear hb3 hk2 hY2 hb2 c0 c1 c2 c3
              have hct := (HB3.out.cell (p := ⟨bt, ot + k, none⟩) (Nat.lt_of_lt_of_le HBT.out HT.out.size)).trans HCT.out
              have hgc := (HGC.out w3 HB3.out)
              go_wp2
              go_roundw
              case rel => exact HREL.out w3 HB3.out
              case measure => simp [intOf]; omega
            · have HREL := hid (fun w3 hb3 => HPUT.out [32] ⟨#[32]⟩ rfl ⟨L9.gap_one (by decide), by simp⟩ w3 hb3)
              have tq2 : (tq ++ (⟨#[32]⟩ : ByteArray) ++ (⟨#[32]⟩ : ByteArray)).size ≤ 2119 := by rw [bsize]; omega
              have htui : ¬ (k : Int) < nu := by omega
              clear hvl htk hy hb hbl hx hps hgp htq ltq htl g32 l32 hyt htu
              go_wp2_with fail
              obtain ⟨Y2, hY2⟩ : ∃ Y2, Y2 = (wr.alloc (.cells #[.int .i64 yk, .string ⟨yt.toArray⟩, .int .i64 yn, .int .i64 ya] 35)).alloc (.cells #[.int .i64 yk, .string ⟨yt.toArray⟩, .int .i64 yn, .int .i64 ya] 35) := ⟨_, rfl⟩
              have hb2 : Below wr.heap.size wr Y2 := by rw [hY2]; exact ((Below.refl _ wr).alloc (Nat.le_refl _) _).alloc (by simp) _
              have hk2 : KS Y2 (.slice (some ⟨wr.heap.size + 1, 0, none⟩) 1 1) [⟨yk, yt, yn, ya⟩] := by
                rw [hY2]; refine ks_new (l := [⟨yk, yt, yn, ya⟩]) ?_ (by simp [maxLen])
                have h := Blk.new (wr.alloc (.cells #[.int .i64 yk, .string ⟨yt.toArray⟩, .int .i64 yn, .int .i64 ya] 35)) 35 (([⟨yk, yt, yn, ya⟩] : List Tk).flatMap kc)
                rw [World.size_alloc] at h; exact h
              have HB2 := hid (HBW.out.trans (hb2.mono HBW.out.size))
              rw [← hY2]
              refine (HTX1.out _ (HKW.out.up hb2) hk2).mono ?_
              rintro e w3 ⟨rfl, hb3⟩
              have HB3 := hid (HB2.out.trans (hb3.mono HB2.out.size))
              clear hb3 hk2 hY2 hb2 c0 c1 c2 c3
              go_wp2
              go_roundw
              case rel => exact HREL.out w3 HB3.out
              case measure => simp [intOf]; omega
        · obtain rfl : k = n := by omega
          have hps2 : ps.map (·.1) = l := by have h2 := hps.out; rwa [HN.out, List.take_length] at h2
          obtain ⟨m, hm1, hm2⟩ := L9.lx_sp0 ps (fun p hp => ⟨(hgp.out p hp).1, (hgp.out p hp).2.1⟩)
          rw [← hx.out] at hm1
          obtain ⟨v3, v1, v2⟩ := lex_ok (by show x.size ≤ 65536; omega) hm1
          have hsm : sme l m = true := decide_eq_true (by rw [hm2, ← hps2, List.map_map]; rfl)
          have HSM := hid hsm
          have HLX := hid (Lex_any x wr HKW.out)
          rw [v1, v2, v3] at HLX
          have KVW := hid (KVV.out.ups hb)
          clear hps2 hm1 hm2 v1 v2 v3 hsm hb hx hps hgp
          go_wp2_with fail
          refine HLX.out.mono ?_
          rintro e w5 ⟨⟨v5, rfl, hv5⟩, hb5⟩
          have K5 := hid hv5
          obtain ⟨p5, c5, hf5⟩ := hv5.form
          subst hf5
          have KVX := hid (KVW.out.ups hb5)
          have HB5 := hid (HT.out.trans ((HBW.out.trans (hb5.mono HBW.out.size)).mono HT.out.size))
          clear hb5 hv5
          go_wp2_with fail
          have hq := Same_any _ _ _ _ w5 KVX.out K5.out
          rw [HSM.out] at hq
          refine hq.mono ?_
          clear hq
          rintro e w6 ⟨rfl, hb6⟩
          have HB6 := hid (HB5.out.trans (hb6.mono HB5.out.size))
          clear hb6
          go_wp2
          go_ret
          exact ⟨rfl, HB6.out⟩
end Go.Proofs.YtgckigolbajhoaaDoor

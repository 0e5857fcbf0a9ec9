/- The statement on climbing: the path of each element leads to the digest of the list, and a longer one is refused. -/
import Derived.Test.YtmmgfmklmjcmlaaDoorRun
namespace Go.Proofs.YtmmgfmklmjcmlaaDoor
open Go.RowKit Go
set_option linter.unusedVariables false
set_option linter.unusedSimpArgs false
theorem Cells.only' {w0 w W : World} {a : Addr} {vs : List Value} {g : Nat} (h : Cells w0 a vs) (hb : Below w0.heap.size w0 w) (ho : Only g w W) (hg : w0.heap.size ≤ g) : Cells W a vs := by
  by_cases hv : vs = []
  · subst hv; intro j v hj; simp at hj
  · exact ho.cells (h.ups hb) (by have := h.lt hv; omega)
theorem DA.only {w0 w W : World} {v : Value} {ds : List (List UInt8)} {g : Nat} (h : DA w0 v ds) (hb : Below w0.heap.size w0 w) (ho : Only g w W) (hg : w0.heap.size ≤ g) : DA W v ds := by
  rcases h with h | ⟨a, c, h1, h2, h3⟩
  · exact .inl h
  · exact .inr ⟨a, c, h1, h2, h3.only' hb ho hg⟩
set_option maxRecDepth 100000 in
set_option maxHeartbeats 8000000 in
theorem climbs_any (v : Value) (b : List UInt8) (w : World) (hv : BS w v b) (hk : Konst w) : Calls Tryd.prog 6 #[v] w (RetT w) := by
  have HV := hid hv; have HK := hid hk
  clear hv hk
  go_enter Tryd.func6, Tryd.ntmps6
  go_wp2_with fail
  refine (sane_any _ HK.out).mono ?_
  rintro e w1 ⟨rfl, hb1⟩
  have HB1 := hid hb1; have HK1 := hid (HK.out.ups hb1); have HV1 := hid (HV.out.ups hb1)
  clear hb1
  go_wp2_with fail
  refine (digestsOf_any v b _ HV1.out).mono ?_
  rintro e w2 ⟨vl, rfl, hoe, hb2⟩
  have HB2 := hid (below_tr HB1.out hb2); have HK2 := hid (HK1.out.ups hb2); have HL2 := hid hoe.ds
  clear hb2 hoe
  have hlen := digs_len b
  obtain ⟨p, cap, rfl, _, _⟩ := HL2.out.form
  obtain ⟨len, hln⟩ : ∃ len, len = (digs b).length := ⟨_, rfl⟩
  rw [← hln] at hlen HL2 ⊢
  have HLN := hid hln
  have HLE := hid hlen
  clear hln hlen
  go_wp2_with fail
  refine (tree_any len (digs b) _ _ (by rw [← HLN.out]; exact Nat.le_refl _) HL2.out HK2.out).mono ?_
  rintro e w3 ⟨ut, hdt, rfl, hb3⟩
  have HB3 := hid (below_tr HB2.out hb3); have HK3 := hid (HK2.out.ups hb3); have HL3 := hid (HL2.out.ups hb3)
  clear hb3
  go_wp2_with (first | (refine wpl_alloc (some 4) rfl rfl rfl ?_; intro w4 g4 hg4 hr4 hb4 hs4; have HR4 := hid hr4; have HB4 := hid (below_tr HB3.out hb4); have HK4 := hid (HK3.out.ups hb4); have HL4 := hid (HL3.out.ups hb4); have HG4 := hid (show g4 = w3.heap.size ∧ w4.heap.size = w3.heap.size + 1 from ⟨hg4, hs4⟩); clear hg4 hr4 hb4 hs4) | (refine wpl_put (.tmp 4) (.tmp 18) rfl rfl g4 ut _ rfl rfl HR4.out hdt ?_; intro w5 hc5 hr5 ho5; have HC5 := hid hc5; have HO5 := hid ho5; clear hc5 hr5 ho5))
  have HB5 := hid (HO5.out.below HB4.out (HB4.out.size) (by rw [HG4.out.1]; exact HB3.out.size))
  have HK5 := hid (HO5.out.konst HK4.out (by rw [HG4.out.1]; have := HK3.out.lt; omega))
  have HL5 : Hid (DS w5 (.slice p len cap) (digs b)) := by
    obtain ⟨h1, h2 | ⟨gl, o, cap', h3, h4, h5, h6, h7⟩⟩ := HL3.out
    · exact hid ⟨h1, .inl h2⟩
    · refine hid (HO5.out.ds HL4.out (fun gl' o' c' n' e => ?_))
      rw [h3] at e
      simp only [Value.slice.injEq, Option.some.injEq, Addr.mk.injEq] at e
      obtain ⟨⟨rfl, _, _⟩, _, _⟩ := e
      have := HG4.out.1; omega
  clear HB4 HK4 HL4 HO5 HR4 HG4 HB3 HK3 HL3 HB2 HK2 HL2 HB1 HK1 HV1 HV HK
  go_loopw [21] (fun t w1 => ∃ k : Nat, k ≤ len ∧ t = .int .i64 k ∧ Below w5.heap.size w5 w1) (fun t _ => len - (intOf t).toNat)
  case atStart => exact ⟨0, by omega, rfl, Below.refl _ _⟩
  case round =>
    obtain ⟨i, hil, rfl, hb⟩ := hrel
    have HB := hid hb
    clear hb
    by_cases hlt : i < len
    · obtain ⟨gl, o, cap', hpv, hc1, hc2, hlc, hgl, h32⟩ := (HL5.out.ups HB.out).pos (by rw [← HLN.out]; omega)
      simp only [Value.slice.injEq] at hpv
      obtain ⟨rfl, hpx, rfl⟩ := hpv
      rw [← HLN.out] at hc1
      obtain ⟨d, hd⟩ : ∃ d, (digs b)[i]? = some d := ⟨_, List.getElem?_eq_getElem (by rw [← HLN.out]; exact hlt)⟩
      obtain ⟨ds, hdc, hdd⟩ : ∃ ds, Cells wr ⟨gl, o + i * 32, none⟩ ds ∧ IsD d ds := ⟨_, cells_elem hlc h32 hd⟩
      have HDC := hid hdc; have HD := hid hdd; have HDI := hid hd
      have hl1 := info26 hdd.len'
      have hlc' : len ≤ cap := hc1
      clear hpx hc1 hc2 hlc hgl h32 hd hdc hdd
      go_wp2_with (first | (refine wpList_load_mid rfl 26 (.tmp 24) rfl gl (o + i * 32) rfl ds _ HDC.out.range Tryd.underlying26 rfl hl1 ?_) | (refine wpl_alloc (some 6) rfl rfl rfl ?_; intro w6 g6 hg6 hr6 hb6 hs6; have HR6 := hid hr6; have HB6 := hid (HB.out.trans (hb6.mono HB.out.size)); have HG6 := hid (show w5.heap.size ≤ g6 by rw [hg6]; exact HB.out.size); clear hg6 hr6 hb6 hs6) | (refine wpl_put (.tmp 6) (.tmp 25) rfl rfl g6 ds _ rfl rfl HR6.out HD.out ?_; intro w7 hc7 hr7 ho7; have HC7 := hid hc7; have HB7 := hid (ho7.below HB6.out HB6.out.size HG6.out); clear hc7 hr7 ho7))
      refine (Path_ok (digs b) _ i _ (by rw [← HLN.out]; exact hlt) (HL5.out.ups HB7.out) (HK5.out.ups HB7.out)).mono ?_
      rintro e w8 ⟨vp, rfl, hod, hb8⟩
      have HB8 := hid (HB7.out.trans (hb8.mono HB7.out.size)); have HC8 := hid (HC7.out.ups hb8)
      have HP8 := hid hod.ds; have HPA8 := hid hod.da
      have hpl := pathOf_length (digs b).length (digs b) i (Nat.le_refl _)
      rw [← HLN.out] at hpl
      obtain ⟨q, qc, hqv, _, _⟩ := hod.ds.form
      subst hqv
      rw [hpl] at HP8 HPA8 ⊢
      obtain ⟨pl, hplv⟩ : ∃ pl, pl = plen i len := ⟨_, rfl⟩
      rw [← hplv] at hpl HP8 HPA8 ⊢
      have HQ := hid hplv
      have hp5 : pl ≤ 5 := by rw [hplv]; exact plen_le 5 i len (by have := HLE.out; omega)
      have HPL' := hid hpl
      have HPL := hid (show (pathOf (digs b) i).length = pl ∧ pl ≤ 5 from ⟨hpl, hp5⟩)
      clear hb8 hod hpl hplv
      go_wp2_with (first | (refine wpList_load_mid rfl 26 (.tmp 6) rfl g6 0 rfl ds _ HC8.out.range Tryd.underlying26 rfl hl1 ?_) | (go_at_call 22; refine (Climb_ok (pathOf (digs b) i) len i d ds _ _ (by rw [HPL'.out]; exact HQ.out) (by omega) (by have := HLE.out; omega) hlt HP8.out HD.out (HK5.out.ups HB8.out)).mono ?_; rintro e w9 ⟨u9, hd9, rfl, hb9⟩; have HB9 := hid (HB8.out.trans (hb9.mono HB8.out.size)); have HC9 := hid (HC8.out.ups hb9); have HPA9 := hid (HPA8.out.ups hb9); clear hb9) | (refine wpl_alloc (some 9) rfl rfl rfl ?_; intro w10 g9 hg9 hr9 hb10 hs10; have HR9 := hid hr9; have HB10 := hid (HB9.out.trans (hb10.mono HB9.out.size)); have hb10x := hb10; have HC10 := hid (HC9.out.ups hb10); have HPA10 := hid (HPA9.out.ups hb10); have HG9 := hid (show g9 = w9.heap.size from hg9); clear hg9 hr9 hb10 hs10) | (refine wpl_put (.tmp 9) (.tmp 39) rfl rfl g9 u9 _ rfl rfl HR9.out hd9 ?_; intro wB hcB hrB hoB; have HCB := hid hcB; have HOB := hid hoB; have HRB := hid hrB; clear hcB hrB hoB))
      have heq : clm d i len (pathOf (digs b) i) = tree (digs b) := by
        have h := clm_eq len (digs b) i (by rw [← HLN.out]; exact Nat.le_refl _) (by rw [← HLN.out]; exact hlt)
        rw [← HLN.out, List.getD_eq_getElem?_getD, HDI.out] at h
        exact h
      have hq := eqD_true hd9 hdt heq
      have HPA := hid (HPA9.out.only hb10x HOB.out (by rw [HG9.out]; exact Nat.le_refl _))
      have HCX := hid (HC9.out.only' hb10x HOB.out (by rw [HG9.out]; exact Nat.le_refl _))
      have HBB := hid (HOB.out.below HB10.out HB10.out.size (by rw [HG9.out]; exact HB9.out.size))
      have HIL := hid (show i < len ∧ len ≤ 24 from ⟨hlt, HLE.out⟩)
      have hu := Tryd.underlying26
      have HS := hid ((Below.refl wB.heap.size wB).drew)
      clear HOB HRB hb10x HPA10 HPA9 HPA8 HC10 HC9 HC8 HB10 HB9 HB8 HR9 HP8
      refine wa_start (S := fun W => Below wB.heap.size wB W) (by kernel_rfl) HS.out ?_
      refine wa_load 0 (some 42) 26 (.tmp 6) rfl rfl g6 0 rfl ds _ (fun w h => (HCX.out.ups h).range) hu rfl hl1 (by kernel_rfl) rfl rfl HS.out ?_
      simp only [Act.put, List.setIfInBounds_toArray, List.set_cons_zero, List.set_cons_succ]
      refine wa_move 1 (some 43) (.tmp 5) (.int .i64 i) rfl rfl rfl (by kernel_rfl) rfl rfl HS.out ?_
      simp only [Act.put, List.setIfInBounds_toArray, List.set_cons_zero, List.set_cons_succ]
      refine wa_move 2 (some 44) (.tmp 3) (.slice (some ⟨gl, o, none⟩) len cap) rfl rfl rfl (by kernel_rfl) rfl rfl HS.out ?_
      simp only [Act.put, List.setIfInBounds_toArray, List.set_cons_zero, List.set_cons_succ]
      refine wa_tk 3 (some 45) (.int .i64 len) rfl (by kernel_rfl) rfl rfl HS.out (fun w h0 => by go_simp) ?_
      simp only [Act.put, List.setIfInBounds_toArray, List.set_cons_zero, List.set_cons_succ]
      refine wa_move 5 (some 47) (.tmp 7) (.slice q pl qc) rfl rfl rfl (by kernel_rfl) rfl rfl HS.out ?_
      simp only [Act.put, List.setIfInBounds_toArray, List.set_cons_zero, List.set_cons_succ]
      refine wa_load 7 (some 49) 26 (.tmp 6) rfl rfl g6 0 rfl ds _ (fun w h => (HCX.out.ups h).range) hu rfl hl1 (by kernel_rfl) rfl rfl HS.out ?_
      simp only [Act.put, List.setIfInBounds_toArray, List.set_cons_zero, List.set_cons_succ]
      repeat' (first
        | exact ar_nil
        | (refine ar_op 4 rfl rfl (fun K hK => ?_) ?_; refine st_begin (some 46) rfl rfl ?_; intro W4 ad hb; have HS := hid (HS.out.trans (hb.mono HS.out.size)); (first | (have HR := hid (HR.out.ups hb)) | skip); (first | (have HO := hid (HO.out.ups hb)) | skip); (first | (have HX := hid (HX.out.ups hb)) | skip); (first | (have HH := hid (Nat.le_trans HH.out hb.size)) | skip); (first | (have HL := hid (Nat.le_trans HL.out hb.size)) | skip); refine hK.out _ _ HS.out ?_; clear hK K; clear hb; try simp only [Act.put, List.setIfInBounds_toArray, List.set_cons_zero, List.set_cons_succ])
        | (refine ar_op 6 rfl rfl (fun K hK => ?_) ?_; refine st_first (some 48) rfl (.tmp 46) (.tmp 47) rfl rfl _ rfl (pathOf (digs b) i) (HPA.out.ups HS.out) (by have := HPL.out; omega) ?_; intro v48 W6 lo hi hlo hhi ho hb; have HLB := hid (show wB.heap.size ≤ lo by rw [hlo]; exact HS.out.size); (first | (have HGL := hid (show g11 < lo ∨ hi ≤ g11 from Or.inl (by rw [hlo]; exact HR.out.2.2))) | skip); have HS := hid (HS.out.trans (hb.mono HS.out.size)); (first | (have HR := hid (HR.out.ups hb)) | skip); (first | (have HO := hid (HO.out.ups hb)) | skip); (first | (have HX := hid (HX.out.ups hb)) | skip); (first | (have HH := hid (Nat.le_trans HH.out hb.size)) | skip); (first | (have HL := hid (Nat.le_trans HL.out hb.size)) | skip); have HO := hid ho; have HH := hid (Nat.le_of_eq hhi); have HL := hid (show lo ≤ W6.heap.size by rw [hlo]; exact hb.size); clear hlo hhi ho; refine hK.out _ _ HS.out ?_; clear hK K; clear hb; try simp only [Act.put, List.setIfInBounds_toArray, List.set_cons_zero, List.set_cons_succ])
        | (refine ar_op 8 rfl rfl (fun K hK => ?_) ?_; refine st_one (some 50) rfl (.tmp 49) rfl ds d rfl HD.out ?_; intro W8 g8 hx hb; have HS := hid (HS.out.trans (hb.mono HS.out.size)); (first | (have HR := hid (HR.out.ups hb)) | skip); (first | (have HO := hid (HO.out.ups hb)) | skip); (first | (have HX := hid (HX.out.ups hb)) | skip); (first | (have HH := hid (Nat.le_trans HH.out hb.size)) | skip); (first | (have HL := hid (Nat.le_trans HL.out hb.size)) | skip); have HX := hid hx; clear hx; refine hK.out _ _ HS.out ?_; clear hK K; clear hb; try simp only [Act.put, List.setIfInBounds_toArray, List.set_cons_zero, List.set_cons_succ])
        | (refine ar_op 9 rfl rfl (fun K hK => ?_) ?_; refine st_more (some 51) rfl (.tmp 48) (.tmp 50) rfl rfl lo hi (pathOf (digs b) i) [d] HO.out HX.out (by have h := HPL.out; rw [h.1]; simp only [List.length_cons, List.length_nil]; omega) HL.out ?_; intro v51 W9 hoe hb hroom; have HS := hid (HS.out.trans (hb.mono HLB.out)); (first | (have HR := hid (hroom g11 HGL.out HR.out)) | skip); obtain ⟨q51, c51, hq51, _, hc51⟩ := hoe.ds.form; have hq51' : v51 = .slice q51 (pl + 1) c51 := (by rw [hq51, List.length_append, HPL.out.1]; rfl); clear hoe hroom hq51 hc51; subst hq51'; refine hK.out _ _ HS.out ?_; clear hK K; clear hb; try simp only [Act.put, List.setIfInBounds_toArray, List.set_cons_zero, List.set_cons_succ])
        | (refine ar_op 10 rfl rfl (fun K hK => ?_) ?_; go_simp; go_at_call 22; refine (Climb_bad (pl + 1) (len : Int) (i : Int) d ds q51 c51 _ (.inr (.inr (.inr (.inr (by rw [Int.toNat_natCast, Int.toNat_natCast, ← HQ.out]; omega))))) HD.out (by have := HIL.out; omega) (by have := HIL.out; omega)).mono ?_; rintro e W10 ⟨u10, hd10, rfl, hb⟩; have HS := hid (HS.out.trans (hb.mono HS.out.size)); (first | (have HR := hid (HR.out.ups hb)) | skip); (first | (have HO := hid (HO.out.ups hb)) | skip); (first | (have HX := hid (HX.out.ups hb)) | skip); (first | (have HH := hid (Nat.le_trans HH.out hb.size)) | skip); (first | (have HL := hid (Nat.le_trans HL.out hb.size)) | skip); refine hK.out _ _ HS.out ?_; clear hK K; clear hb; try simp only [Act.put, List.setIfInBounds_toArray, List.set_cons_zero, List.set_cons_succ])
        | (refine ar_op 14 rfl rfl (fun K hK => ?_) ?_; refine st_alloc (some 11) rfl rfl ?_; intro W14 g11 hg hr hb hs14; have HGB := hid (show wB.heap.size ≤ g11 by rw [hg]; exact HS.out.size); (first | (have HGL := hid (show g11 < lo ∨ hi ≤ g11 from Or.inr (by rw [hg]; exact HH.out))) | skip); have HS := hid (HS.out.trans (hb.mono HS.out.size)); (first | (have HR := hid (HR.out.ups hb)) | skip); (first | (have HO := hid (HO.out.ups hb)) | skip); (first | (have HX := hid (HX.out.ups hb)) | skip); (first | (have HH := hid (Nat.le_trans HH.out hb.size)) | skip); (first | (have HL := hid (Nat.le_trans HL.out hb.size)) | skip); have HR := hid hr; clear hg hr hs14; refine hK.out _ _ HS.out ?_; clear hK K; clear hb; try simp only [Act.put, List.setIfInBounds_toArray, List.set_cons_zero, List.set_cons_succ])
        | (refine ar_op 15 rfl rfl (fun K hK => ?_) ?_; refine st_put none rfl (.tmp 11) (.tmp 53) rfl g11 u10 zerosD rfl rfl HR.out hd10 ?_; intro W15 hc15 hr15 ho15; have HS := hid (ho15.below HS.out HS.out.size HGB.out); clear hc15 hr15 ho15; refine hK.out _ _ HS.out ?_; clear hK K; (first | (try simp only [Act.put, List.setIfInBounds_toArray, List.set_cons_zero, List.set_cons_succ]) | skip))
        | (refine wa_move 11 (some 41) (.tmp 52) (.tuple #[.agg u10.toArray, .int .i64 1]) rfl rfl rfl (by decide +kernel) rfl rfl HS.out ?_; try simp only [Act.put, List.setIfInBounds_toArray, List.set_cons_zero, List.set_cons_succ])
        | (refine wa_ext 12 (some 53) (.tmp 41) 0 (#[.agg u10.toArray, .int .i64 1]) (.agg u10.toArray) rfl rfl rfl rfl (by decide +kernel) rfl rfl HS.out ?_; try simp only [Act.put, List.setIfInBounds_toArray, List.set_cons_zero, List.set_cons_succ])
        | (refine wa_ext 13 (some 54) (.tmp 41) 1 (#[.agg u10.toArray, .int .i64 1]) (.int .i64 1) rfl rfl rfl rfl (by decide +kernel) rfl rfl HS.out ?_; try simp only [Act.put, List.setIfInBounds_toArray, List.set_cons_zero, List.set_cons_succ])
        | (refine wa_asg 16 (some 12) (.tmp 54) (.int .i64 1) rfl rfl rfl (by decide +kernel) rfl rfl HS.out ?_; try simp only [Act.put, List.setIfInBounds_toArray, List.set_cons_zero, List.set_cons_succ])
        | (refine wa_branch [4, 8, 14] (by decide +kernel) rfl ?_)
        | (refine wa_branch [6, 8, 14] (by decide +kernel) rfl ?_)
        | (refine wa_branch [8, 14] (by decide +kernel) rfl ?_)
        | (refine wa_branch [9, 14] (by decide +kernel) rfl ?_)
        | (refine wa_branch [10, 14] (by decide +kernel) rfl ?_)
        | (refine wa_branch [14] (by decide +kernel) rfl ?_)
        | (refine wa_branch [15] (by decide +kernel) rfl ?_)
        | (refine wa_branch [10] (by decide +kernel) rfl ?_)
        | (refine wa_branch [9] (by decide +kernel) rfl ?_)
        | (refine wa_branch [8] (by decide +kernel) rfl ?_)
        | (refine wa_branch [6, 14] (by decide +kernel) rfl ?_)
        | (refine wa_branch [6] (by decide +kernel) rfl ?_)
        | (refine wa_branch [6, 8] (by decide +kernel) rfl ?_)
        | (refine wa_branch [4, 14] (by decide +kernel) rfl ?_)
        | (refine wa_branch [4] (by decide +kernel) rfl ?_)
        | (refine wa_branch [4, 8] (by decide +kernel) rfl ?_)
        )
      all_goals
        refine wa_done (by kernel_rfl) ?_
        have HW := hid (HBB.out.trans (HS.out.mono HBB.out.size))
        have HC9 := hid (HCB.out.ups HS.out)
        have HC4 := hid (HC5.out.ups HW.out)
        have hp5' : ¬ (5 < (pl : Int)) := by have := HPL.out.2; omega
        have hl9 := info26 hd9.len'
        have hl4 := info26 hdt.len'
        go_wp2_with (first | (refine wpl_load rfl 26 (.tmp 9) rfl g9 0 rfl u9 _ HC9.out.range Tryd.underlying26 rfl hl9 ?_) | (refine wpl_load rfl 26 (.tmp 4) rfl g4 0 rfl ut _ HC4.out.range Tryd.underlying26 rfl hl4 ?_))
        go_roundw
        case rel => exact ⟨i + 1, by omega, by go_num, HW.out⟩
        case measure => simp [intOf]; omega
    · go_wp2
      go_ret
      exact ⟨rfl, HB5.out.trans (HB.out.mono HB5.out.size)⟩
end Go.Proofs.YtmmgfmklmjcmlaaDoor

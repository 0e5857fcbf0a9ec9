/- The reference of layer 2: Climb, Same. -/
import Derived.Test.YtaoehkoffhnidaaDoorTD
namespace Go.Proofs.YtaoehkoffhnidaaDoor.Dg
open Go.RowKit Go
set_option linter.unusedVariables false
set_option maxRecDepth 20000
set_option linter.unusedSimpArgs false
set_option maxRecDepth 100000 in
set_option maxHeartbeats 4000000 in
theorem rClimb_ok (p : List (List UInt8)) (n i : Nat) (d : List UInt8) (vs : List Value) (v : Value) (w : World) (hl : p.length = plen i n) (h1 : 1 ≤ n) (hn : n ≤ 1099511627776) (hi : i < n) (hv : DS w v p) (hd : IsD d vs) :
    Calls Tryd.prog 40 #[.agg vs.toArray, .int .i64 i, .int .i64 n, v] w (RetC w (clm d i n p) 0) := by
  have HV := hid hv
  obtain ⟨q, cap, rfl, h4, h5⟩ := hv.form
  have hb64 := plen_le 63 i n (by omega)
  have HD := hid hd
  generalize hm : p.length = m at *
  have HL := hid hl; have HM := hid hm
  clear hd hv hl hm
  go_enter Tryd.func40, Tryd.ntmps40
  go_upto_region 1 with (fail)
  refine code_box1 ?_
  intro W hcv hz hf hb hs
  obtain ⟨g, hg⟩ : ∃ g, g = w.heap.size := ⟨_, rfl⟩
  rw [← hg] at hcv hz hf hs ⊢
  have HR := hid (Room.mk' hz rfl hf (by omega)); have HB := hid hb; have HCV := hid hcv
  have hgg : w.heap.size ≤ g := by omega
  have hl1 := info26 HD.out.len'
  have f1 : ¬ ((n : Int) < 1) := by omega
  have f2 : ¬ ((1099511627776 : Int) < n) := by omega
  have f3 : ¬ ((n : Int) ≤ i) := by omega
  have f4 : ¬ ((i : Int) < 0) := by omega
  clear hz hf hb hs hg hcv
  go_wp2_with fail
  refine (rlength_any n n i _ (Nat.le_refl _) h1 (by omega) hi).mono ?_
  rintro e w' ⟨rfl, rfl⟩
  rw [← HL.out]
  have hmm : ((m : Int) != (m : Int)) = false := by simp
  go_wp2_with (first | (refine wpList_load_mid rfl 35 (.tmp 4) rfl g 0 rfl vs _ HCV.out.range Tryd.underlying35 rfl hl1 ?_) | (go_at_call 77; refine (rclimb_any m p n i d vs _ _ HM.out HL.out.symm h1 (by omega) hi (HV.out.ups HB.out) HD.out).mono ?_; rintro e w1 ⟨us, hd1, rfl, hb1⟩; obtain ⟨w2, hst, hc2, hbb⟩ := (HR.out.ups hb1).store hd1; have hlen := hd1.len'; have HB2 := hid (hbb _ _ (by omega) (below_tr HB.out hb1)); have HC2 := hid hc2; clear hb1 hbb hc2))
  exact bodyPost_ret (v := .tuple #[.agg us.toArray, .int .i64 0]) (results_cell_two Tryd.results40 _ _ (g + 1) us _ _ (by simp only [Array.getD]; rfl) HC2.out.range Tryd.underlying35 rfl (info26 hlen) (by simp only [Array.getD]; rfl)) rfl ⟨us, hd1, rfl, HB2.out⟩
set_option maxRecDepth 100000 in
set_option maxHeartbeats 4000000 in
theorem rClimb_bad (m : Nat) (n i : Int) (d : List UInt8) (vs : List Value) (q : Option Addr) (cap : Nat) (w : World) (hbad : n < 1 ∨ 1099511627776 < n ∨ i < 0 ∨ n ≤ i ∨ m ≠ plen i.toNat n.toNat) (hd : IsD d vs) (hm : m < 9223372036854775808) (hn : n < 9223372036854775808) :
    Calls Tryd.prog 40 #[.agg vs.toArray, .int .i64 i, .int .i64 n, .slice q m cap] w (RetC w zerosD 1) := by
  have HD := hid hd
  clear hd
  go_enter Tryd.func40, Tryd.ntmps40
  go_upto_region 1 with (fail)
  refine code_box1 ?_
  intro W hcv hz hf hb hs
  obtain ⟨g, hg⟩ : ∃ g, g = w.heap.size := ⟨_, rfl⟩
  rw [← hg] at hcv hz hf hs ⊢
  have hgg : w.heap.size ≤ g := by omega
  have HR := hid (Room.mk' hz rfl hf (by omega))
  obtain ⟨hc2, _, hbb⟩ := HR.out.put isD_zeros
  have HC2 := hid hc2; have HB2 := hid (hbb _ _ (by omega) hb)
  have ht : W.there (g + 1) 0 (zerosD.map vb).toArray.size := by rw [List.size_toArray, List.length_map, show zerosD.length = 32 from by simp [zerosD]]; exact HR.out.there
  have HT := hid ht; have HB := hid hb
  have hi26 : (Tryd.prog.info? 35).map (·.size) = some (zerosD.map vb).toArray.size := by kernel_rfl
  have hlen : (zerosD.map vb).length = 32 := by simp [zerosD]
  have H1 := hid (isD_zeros.one)
  have H26 := hid hi26; have HL := hid (info26 hlen)
  clear hz hf hb hs hg hcv hc2 hbb ht hi26 hlen
  by_cases c1 : n < 1
  · clear hbad
    go_wp2_with (refine wpList_store_mid rfl 35 (.tmp 8) (.tmp 33) rfl (g + 1) 0 (zerosD.map vb).toArray rfl rfl HT.out H26.out H1.out ?_)
    exact bodyPost_ret (v := .tuple #[.agg (zerosD.map vb).toArray, .int .i64 1]) (results_cell_two Tryd.results40 _ _ (g + 1) (zerosD.map vb) _ _ (by simp only [Array.getD]; rfl) HC2.out.range Tryd.underlying35 rfl HL.out (by simp only [Array.getD]; rfl)) rfl ⟨_, isD_zeros, rfl, HB2.out⟩
  by_cases c2 : 1099511627776 < n
  · clear hbad
    go_wp2_with (refine wpList_store_mid rfl 35 (.tmp 8) (.tmp 33) rfl (g + 1) 0 (zerosD.map vb).toArray rfl rfl HT.out H26.out H1.out ?_)
    exact bodyPost_ret (v := .tuple #[.agg (zerosD.map vb).toArray, .int .i64 1]) (results_cell_two Tryd.results40 _ _ (g + 1) (zerosD.map vb) _ _ (by simp only [Array.getD]; rfl) HC2.out.range Tryd.underlying35 rfl HL.out (by simp only [Array.getD]; rfl)) rfl ⟨_, isD_zeros, rfl, HB2.out⟩
  by_cases c3 : i < 0
  · clear hbad
    go_wp2_with (refine wpList_store_mid rfl 35 (.tmp 8) (.tmp 33) rfl (g + 1) 0 (zerosD.map vb).toArray rfl rfl HT.out H26.out H1.out ?_)
    exact bodyPost_ret (v := .tuple #[.agg (zerosD.map vb).toArray, .int .i64 1]) (results_cell_two Tryd.results40 _ _ (g + 1) (zerosD.map vb) _ _ (by simp only [Array.getD]; rfl) HC2.out.range Tryd.underlying35 rfl HL.out (by simp only [Array.getD]; rfl)) rfl ⟨_, isD_zeros, rfl, HB2.out⟩
  by_cases c4 : n ≤ i
  · clear hbad
    go_wp2_with (refine wpList_store_mid rfl 35 (.tmp 8) (.tmp 33) rfl (g + 1) 0 (zerosD.map vb).toArray rfl rfl HT.out H26.out H1.out ?_)
    exact bodyPost_ret (v := .tuple #[.agg (zerosD.map vb).toArray, .int .i64 1]) (results_cell_two Tryd.results40 _ _ (g + 1) (zerosD.map vb) _ _ (by simp only [Array.getD]; rfl) HC2.out.range Tryd.underlying35 rfl HL.out (by simp only [Array.getD]; rfl)) rfl ⟨_, isD_zeros, rfl, HB2.out⟩
  obtain ⟨n', rfl⟩ := Int.eq_ofNat_of_zero_le (by omega : 0 ≤ n)
  obtain ⟨i', rfl⟩ := Int.eq_ofNat_of_zero_le (by omega : 0 ≤ i)
  have c5 : ¬ m = plen i' n' := by
    intro h; rcases hbad with h1 | h1 | h1 | h1 | h1
    all_goals first | omega | exact h1 h
  have hp64 := plen_le 63 i' n' (by omega)
  have r1 : 1 ≤ n' := by omega
  have r2 : n' ≤ 4398046511104 := by omega
  have r3 : i' < n' := by omega
  have R1 := hid r1; have R2 := hid r2; have R3 := hid r3
  clear hbad r1 r2 r3
  go_wp2_with fail
  refine (rlength_any n' n' i' _ (Nat.le_refl _) R1.out R2.out R3.out).mono ?_
  rintro e w' ⟨rfl, rfl⟩
  obtain ⟨u, hu⟩ : ∃ u, u = plen i' n' := ⟨_, rfl⟩
  rw [← hu] at c5 hp64 ⊢
  clear hu
  have hne : ((m : Int) != (u : Int)) = true := by simp; omega
  have hne2 : ¬ ((m : Int) = (u : Int)) := by omega
  clear hp64 hm hn c1 c2 c3 c4
  go_wp2_with (refine wpList_store_mid rfl 35 (.tmp 8) (.tmp 33) rfl (g + 1) 0 (zerosD.map vb).toArray rfl rfl HT.out H26.out H1.out ?_)
  exact bodyPost_ret (v := .tuple #[.agg (zerosD.map vb).toArray, .int .i64 1]) (results_cell_two Tryd.results40 _ _ (g + 1) (zerosD.map vb) _ _ (by simp only [Array.getD]; rfl) HC2.out.range Tryd.underlying35 rfl HL.out (by simp only [Array.getD]; rfl)) rfl ⟨_, isD_zeros, rfl, HB2.out⟩
set_option maxRecDepth 100000 in
set_option maxHeartbeats 4000000 in
theorem Same_any (ds : List (List UInt8)) (v1 v2 : Value) (w : World) (h1 : DS w v1 ds) (h2 : DS w v2 ds) : Calls Tryd.prog 38 #[v1, v2] w fun e w' => e = .returned (.bool true) ∧ Below w.heap.size w w' := by
  obtain ⟨q1, c1, rfl, hc1, hm1⟩ := h1.form
  obtain ⟨q2, c2, rfl, hc2, hm2⟩ := h2.form
  have H1 := hid h1; have H2 := hid h2
  obtain ⟨n, hn⟩ : ∃ n, n = ds.length := ⟨_, rfl⟩
  rw [← hn] at H1 H2 hc1 hc2 ⊢
  have HN := hid hn
  clear h1 h2 hn
  have hne : ((n : Int) != (n : Int)) = false := by simp
  go_enter Tryd.func38, Tryd.ntmps38
  go_wp2
  clear hne
  go_loopw [5] (fun i w1 => ∃ j : Nat, j ≤ n ∧ i = .int .i64 j ∧ Hid (Below w.heap.size w w1)) (fun i _ => n - (intOf i).toNat)
  case atStart => exact ⟨0, by omega, rfl, hid (Below.refl _ _)⟩
  case round =>
    obtain ⟨j, hj, rfl, hb⟩ := hrel
    by_cases hlt : j < n
    · obtain ⟨g1, o1, k1, e1, f1, f2, f3, f4, f5⟩ := (H1.out.ups hb.out).pos (by rw [← HN.out]; omega)
      obtain ⟨g2, o2, k2, e2, f6, f7, f8, f9, f10⟩ := (H2.out.ups hb.out).pos (by rw [← HN.out]; omega)
      simp only [Value.slice.injEq] at e1 e2
      obtain ⟨rfl, _, rfl⟩ := e1
      obtain ⟨rfl, _, rfl⟩ := e2
      obtain ⟨d, hd⟩ : ∃ d, ds[j]? = some d := ⟨_, List.getElem?_eq_getElem (by rw [← HN.out]; exact hlt)⟩
      obtain ⟨x1, x2⟩ := cells_elem f3 f5 hd
      obtain ⟨y1, y2⟩ := cells_elem f8 f10 hd
      have X1 := hid x1; have X2 := hid x2; have Y1 := hid y1
      have hq := eqD_true X2.out X2.out rfl
      have hl1 := info26 X2.out.len'
      have hu := Tryd.underlying35
      have hdc : decide ((j : Int) < (n : Int)) = true := by simp; omega
      have hla := lit_add
      clear f1 f2 f3 f4 f5 f6 f7 f8 f9 f10 hd x1 x2 y1 y2
      go_upto_region 6 with fail
      have HS := hid ((Below.refl wr.heap.size wr).drew)
      refine wa_start (S := fun W' => Below wr.heap.size wr W') (by kernel_rfl) HS.out ?_
      refine wa_tk 0 (some 17) (.slice (some ⟨g1, o1, none⟩) n c1) rfl (by kernel_rfl) rfl rfl HS.out (fun w h0 => by go_simp) ?_
      try simp only [Act.put, List.setIfInBounds_toArray, List.set_cons_zero, List.set_cons_succ]
      refine wa_tk 1 (some 18) (.int .i64 j) rfl (by kernel_rfl) rfl rfl HS.out (fun w h0 => by go_simp) ?_
      try simp only [Act.put, List.setIfInBounds_toArray, List.set_cons_zero, List.set_cons_succ]
      refine wa_tk 2 (some 19) (.pointer (some ⟨g1, o1 + j * 32, none⟩)) rfl (by kernel_rfl) rfl rfl HS.out (fun w h0 => by go_simp) ?_
      try simp only [Act.put, List.setIfInBounds_toArray, List.set_cons_zero, List.set_cons_succ]
      refine wa_load 3 (some 20) 35 (.tmp 19) rfl rfl g1 (o1 + j * 32) rfl (d.map vb) _ (fun w h => (X1.out.ups h).range) hu rfl hl1 (by kernel_rfl) rfl rfl HS.out ?_
      try simp only [Act.put, List.setIfInBounds_toArray, List.set_cons_zero, List.set_cons_succ]
      refine wa_tk 4 (some 21) (.slice (some ⟨g2, o2, none⟩) n c2) rfl (by kernel_rfl) rfl rfl HS.out (fun w h0 => by go_simp) ?_
      try simp only [Act.put, List.setIfInBounds_toArray, List.set_cons_zero, List.set_cons_succ]
      refine wa_tk 5 (some 22) (.int .i64 j) rfl (by kernel_rfl) rfl rfl HS.out (fun w h0 => by go_simp) ?_
      try simp only [Act.put, List.setIfInBounds_toArray, List.set_cons_zero, List.set_cons_succ]
      refine wa_tk 6 (some 23) (.pointer (some ⟨g2, o2 + j * 32, none⟩)) rfl (by kernel_rfl) rfl rfl HS.out (fun w h0 => by go_simp) ?_
      try simp only [Act.put, List.setIfInBounds_toArray, List.set_cons_zero, List.set_cons_succ]
      refine wa_load 7 (some 24) 35 (.tmp 23) rfl rfl g2 (o2 + j * 32) rfl (d.map vb) _ (fun w h => (Y1.out.ups h).range) hu rfl hl1 (by kernel_rfl) rfl rfl HS.out ?_
      try simp only [Act.put, List.setIfInBounds_toArray, List.set_cons_zero, List.set_cons_succ]
      refine wa_tk 8 (some 25) (.bool false) rfl (by kernel_rfl) rfl rfl HS.out (fun w h0 => by go_simp) ?_
      try simp only [Act.put, List.setIfInBounds_toArray, List.set_cons_zero, List.set_cons_succ]
      refine wa_done (by decide +kernel) ?_
      have hbb := hid (below_tr hb.out HS.out)
      clear hq
      go_wp2
      go_roundw
      case rel => exact ⟨j + 1, by omega, by go_num, hbb⟩
      case measure => simp [intOf]; omega
    · go_wp2
      go_ret
      exact ⟨rfl, hb.out⟩
end Go.Proofs.YtaoehkoffhnidaaDoor.Dg

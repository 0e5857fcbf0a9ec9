/- Contract of climbing a path. -/
import Derived.Test.YtaoehkoffhnidaaDoorDN
import Derived.Test.YtaoehkoffhnidaaDoorDReg
namespace Go.Proofs.YtaoehkoffhnidaaDoor.Dg
open Go.RowKit Go
set_option linter.unusedVariables false
set_option maxRecDepth 20000
set_option linter.unusedSimpArgs false
theorem Cells.sets {a : Addr} {vs : List Value} {b : Nat} (hb : b ≠ a.block) : ∀ (us : List Value) (o : Nat) (w : World), Cells w a vs → Cells (w.setCells b o us) a vs
  | [], o, w, h => h
  | u :: us, o, w, h => by rw [World.setCells]; exact Cells.sets hb us (o + 1) _ (h.far hb u)
theorem IsD.each {l : List UInt8} {vs : List Value} (h : IsD l vs) : ∀ v ∈ vs, v.oneCell' = true := by rw [h.eq]; exact one_vb _
theorem Room.there {w : World} {g : Nat} (h : Room w g) : w.there g 0 32 := by
  obtain ⟨⟨zs, h1, h2⟩, h3, _⟩ := h
  have := h1.there h3
  rwa [h2] at this
theorem Room.put {w : World} {g : Nat} {l : List UInt8} {us : List Value} (h : Room w g) (hd : IsD l us) : Cells (w.setCells g 0 us) ⟨g, 0, none⟩ us ∧ Room (w.setCells g 0 us) g ∧ ∀ B a, B ≤ g → Below B a w → Below B a (w.setCells g 0 us) := by
  obtain ⟨⟨zs, h1, h2⟩, h3, h4⟩ := h
  obtain ⟨h5, h6⟩ := store_over (P := Tryd.prog) h1 h3 hd.one (by rw [hd.len', h2])
  exact ⟨h6, ⟨⟨us, h6, hd.len'⟩, h3.sets _ _ _, by rw [setCells_size]; exact h4⟩, fun B a hB hb => setCells_below g hB us 0 w hb⟩
set_option maxRecDepth 100000 in
set_option maxHeartbeats 4000000 in
theorem climb_lo (n k cap gp op i L m : Nat) (hm : m = L + 1) (t x : List UInt8) (vs ts : List Value) (w : World) (hk : Konst w) (hf : fp n = k) (h2 : 2 ≤ n) (hn : n < 9223372036854775808) (h3 : k < n) (h0 : 0 < k) (h4 : m ≤ cap) (h5 : cap < 9223372036854775808) (hi : i < k)
    (hvs : vs.length = 32) (hx : IsD x ts) (o2 : Nat) (ho2 : op + L * 32 = o2) (hc : Cells w ⟨gp, o2, none⟩ ts) (hgp : gp < w.heap.size)
    (c1 : ∀ W, Below w.heap.size w W → Calls Tryd.prog 75 #[.agg vs.toArray, .int .i64 i, .int .i64 k, .slice (some ⟨gp, op, none⟩) L cap] W (RetD W t)) :
    Calls Tryd.prog 75 #[.agg vs.toArray, .int .i64 i, .int .i64 n, .slice (some ⟨gp, op, none⟩) m cap] w (RetD w (tagd nodeS (t ++ x))) := by
  have HK := hid hk; have HF := hid hf; have C1 := hid c1; have HC := hid hc
  clear hk hf c1 hc
  have hd1 : ((n : Int) == 1) = false := by simp; omega
  have e0 : IntKind.i64.wrap ((m : Int) - 1) = (L : Int) := by rw [IntWalk.i64_in _ (by omega)]; omega
  have e1 : L ≤ cap := by omega
  have e2 : ¬ cap = L := by omega
  have e3 : L ≤ m := by omega
  have e4 : (L : Int) < (m : Int) := by omega
  have e5 : L < m := by omega
  clear hm
  go_enter Tryd.func75, Tryd.ntmps75
  go_upto_region 1 with (fail)
  refine code_box1 ?_
  intro W hcv hz hf hb hs
  obtain ⟨g, hg⟩ : ∃ g, g = w.heap.size := ⟨_, rfl⟩
  rw [← hg] at hcv hz hf hs ⊢
  have HR := hid (Room.mk' hz rfl hf (by omega)); have HB := hid hb; have HCV := hid hcv; have HCX := hid (HC.out.ups hb)
  have hgg : w.heap.size ≤ g := by omega
  clear hz hf hb hs hg hcv
  go_wp2_with fail
  refine (firstPart_any n _ h2 hn).mono ?_
  rintro e w' ⟨rfl, rfl⟩
  rw [HF.out]
  go_wp2_with fail
  have hu := Tryd.underlying35
  have hla := lit_add
  have hiv := info26 hvs
  have hix := info26 hx.len'
  have HS0 := hid (show W.drew.rangeAt g 0 vs ∧ W.drew.rangeAt gp o2 ts ∧ W.drew.there (g + 1) 0 32 from ⟨HCV.out.range, HCX.out.range, HR.out.there⟩)
  refine wp_region_noPanic (wp_region_held_drew (S := fun W' => W'.rangeAt g 0 vs ∧ W'.rangeAt gp o2 ts ∧ W'.there (g + 1) 0 32) (by kernel_rfl) HS0.out (fun _ => ?_))
  refine tk_load 0 (some 23) 35 (.tmp 4) rfl rfl g 0 rfl vs _ (fun w h => h.1) hu rfl hiv (by kernel_rfl) rfl rfl HS0.out ?_
  simp only [Act.put, List.setIfInBounds_toArray, List.set_cons_zero, List.set_cons_succ]
  refine tk_move 1 (some 24) (.tmp 1) (.int .i64 i) rfl rfl rfl (by kernel_rfl) rfl rfl HS0.out ?_
  simp only [Act.put, List.setIfInBounds_toArray, List.set_cons_zero, List.set_cons_succ]
  refine tk_move 2 (some 25) (.tmp 9) (.int .i64 k) rfl rfl rfl (by kernel_rfl) rfl rfl HS0.out ?_
  simp only [Act.put, List.setIfInBounds_toArray, List.set_cons_zero, List.set_cons_succ]
  refine tk_move 3 (some 26) (.tmp 3) (.slice (some ⟨gp, op, none⟩) m cap) rfl rfl rfl (by kernel_rfl) rfl rfl HS0.out ?_
  simp only [Act.put, List.setIfInBounds_toArray, List.set_cons_zero, List.set_cons_succ]
  refine tk_move 4 (some 27) (.tmp 10) (.int .i64 L) rfl rfl rfl (by kernel_rfl) rfl rfl HS0.out ?_
  simp only [Act.put, List.setIfInBounds_toArray, List.set_cons_zero, List.set_cons_succ]
  refine tk 5 (some 28) (.slice (some ⟨gp, op, none⟩) L cap) rfl (by kernel_rfl) rfl rfl HS0.out (fun w _ => by go_simp) ?_
  simp only [Act.put, List.setIfInBounds_toArray, List.set_cons_zero, List.set_cons_succ]
  refine tk_move 7 (some 30) (.tmp 3) (.slice (some ⟨gp, op, none⟩) m cap) rfl rfl rfl (by kernel_rfl) rfl rfl HS0.out ?_
  simp only [Act.put, List.setIfInBounds_toArray, List.set_cons_zero, List.set_cons_succ]
  refine tk_move 8 (some 31) (.tmp 10) (.int .i64 L) rfl rfl rfl (by kernel_rfl) rfl rfl HS0.out ?_
  simp only [Act.put, List.setIfInBounds_toArray, List.set_cons_zero, List.set_cons_succ]
  refine tk 9 (some 32) (.pointer (some ⟨gp, o2, none⟩)) rfl (by kernel_rfl) rfl rfl HS0.out (fun w _ => by go_simp) ?_
  simp only [Act.put, List.setIfInBounds_toArray, List.set_cons_zero, List.set_cons_succ]
  refine tk_load 10 (some 33) 35 (.tmp 32) rfl rfl gp o2 rfl ts _ (fun w h => h.2.1) hu rfl hix (by kernel_rfl) rfl rfl HS0.out ?_
  simp only [Act.put, List.setIfInBounds_toArray, List.set_cons_zero, List.set_cons_succ]
  refine only 6 rfl (by kernel_rfl) rfl (fun K hK => ?_)
  go_simp
  go_at_call 75
  refine (C1.out _ HB.out.drew).mono ?_
  rintro e w1 ⟨ut, hdt, rfl, hb1⟩
  have hbw : Below W.heap.size W w1 := (Below.refl _ _).drew.trans hb1
  have HB1 := hid (below_tr HB.out hbw); have HR1 := hid (HR.out.ups hbw); have HCV1 := hid (HCV.out.ups hbw); have HCX1 := hid (HCX.out.ups hbw)
  clear hb1 hbw
  refine hK.out _ _ ⟨HCV1.out.range, HCX1.out.range, HR1.out.there⟩ ?_
  clear hK K
  refine only 11 rfl (by kernel_rfl) rfl (fun K hK => ?_)
  go_simp
  go_at_call 68
  refine (node_any t x ut ts _ hdt hx (HK.out.ups HB1.out)).mono ?_
  rintro e w5 ⟨us, hd, rfl, hb5⟩
  have HR5 := hid (HR1.out.ups hb5); have HCV5 := hid (HCV1.out.ups hb5); have HCX5 := hid (HCX1.out.ups hb5); have HB5 := hid (below_tr HB1.out hb5)
  clear hb5
  refine hK.out _ _ ⟨HCV5.out.range, HCX5.out.range, HR5.out.there⟩ ?_
  clear hK K
  obtain ⟨hc6, hr6, hbb⟩ := HR5.out.put hd
  have HC6 := hid hc6
  have HB6 := hid (hbb _ _ (by omega) HB5.out)
  have hlen := hd.len'
  clear hc6 hbb
  refine only 12 rfl (by kernel_rfl) rfl (fun K hK => ?_)
  refine wp_store_mid 35 (.tmp 8) (.tmp 34) rfl (g + 1) 0 us.toArray rfl rfl (by rw [List.size_toArray, hlen]; exact HR5.out.there) (by rw [List.size_toArray]; exact info26 hlen) hd.one ?_
  refine hK.out _ _ ⟨(Cells.sets (by simp) us 0 _ HCV5.out).range, (Cells.sets (by show g + 1 ≠ gp; omega) us 0 _ HCX5.out).range, hr6.there⟩ ?_
  clear hK K
  simp only [Act.put, List.setIfInBounds_toArray, List.set_cons_zero, List.set_cons_succ]
  refine wpAnyH_done (by kernel_rfl) (NoPanic.normal ?_) _
  go_wp2
  exact bodyPost_ret (v := .agg us.toArray) (results_cell_mid Tryd.results75 _ _ (g + 1) us _ (by simp only [Array.getD]; rfl) HC6.out.range Tryd.underlying35 rfl (info26 hlen)) rfl ⟨us, hd, rfl, HB6.out⟩
set_option maxRecDepth 100000 in
set_option maxHeartbeats 4000000 in
theorem climb_hi (n k cap gp op i L m : Nat) (hm : m = L + 1) (t x : List UInt8) (vs ts : List Value) (w : World) (hk : Konst w) (hf : fp n = k) (h2 : 2 ≤ n) (hn : n < 9223372036854775808) (h3 : k < n) (h0 : 0 < k) (h4 : m ≤ cap) (h5 : cap < 9223372036854775808) (hi : ¬ i < k) (hin : i < n)
    (hvs : vs.length = 32) (hx : IsD x ts) (o2 : Nat) (ho2 : op + L * 32 = o2) (hc : Cells w ⟨gp, o2, none⟩ ts) (hgp : gp < w.heap.size)
    (c1 : ∀ W, Below w.heap.size w W → Calls Tryd.prog 75 #[.agg vs.toArray, .int .i64 ((i - k : Nat) : Int), .int .i64 ((n - k : Nat) : Int), .slice (some ⟨gp, op, none⟩) L cap] W (RetD W t)) :
    Calls Tryd.prog 75 #[.agg vs.toArray, .int .i64 i, .int .i64 n, .slice (some ⟨gp, op, none⟩) m cap] w (RetD w (tagd nodeS (x ++ t))) := by
  have HK := hid hk; have HF := hid hf; have C1 := hid c1; have HC := hid hc
  clear hk hf c1 hc
  have hd1 : ((n : Int) == 1) = false := by simp; omega
  have e0 : IntKind.i64.wrap ((m : Int) - 1) = (L : Int) := by rw [IntWalk.i64_in _ (by omega)]; omega
  have e1 : L ≤ cap := by omega
  have e2 : ¬ cap = L := by omega
  have e3 : L ≤ m := by omega
  have e4 : (L : Int) < (m : Int) := by omega
  have e5 : L < m := by omega
  clear hm
  have e6 : IntKind.i64.wrap ((i : Int) - k) = ((i - k : Nat) : Int) := by rw [IntWalk.i64_in _ (by omega)]; omega
  have e7 : IntKind.i64.wrap ((n : Int) - k) = ((n - k : Nat) : Int) := by rw [IntWalk.i64_in _ (by omega)]; omega
  go_enter Tryd.func75, Tryd.ntmps75
  go_upto_region 1 with (fail)
  refine code_box1 ?_
  intro W hcv hz hf hb hs
  obtain ⟨g, hg⟩ : ∃ g, g = w.heap.size := ⟨_, rfl⟩
  rw [← hg] at hcv hz hf hs ⊢
  have HR := hid (Room.mk' hz rfl hf (by omega)); have HB := hid hb; have HCV := hid hcv; have HCX := hid (HC.out.ups hb)
  have hgg : w.heap.size ≤ g := by omega
  clear hz hf hb hs hg hcv
  go_wp2_with fail
  refine (firstPart_any n _ h2 hn).mono ?_
  rintro e w' ⟨rfl, rfl⟩
  rw [HF.out]
  go_wp2_with fail
  have hu := Tryd.underlying35
  have hla := lit_add
  have hiv := info26 hvs
  have hix := info26 hx.len'
  have HS0 := hid (show W.drew.rangeAt g 0 vs ∧ W.drew.rangeAt gp o2 ts ∧ W.drew.there (g + 1) 0 32 from ⟨HCV.out.range, HCX.out.range, HR.out.there⟩)
  refine wp_region_noPanic (wp_region_held_drew (S := fun W' => W'.rangeAt g 0 vs ∧ W'.rangeAt gp o2 ts ∧ W'.there (g + 1) 0 32) (by kernel_rfl) HS0.out (fun _ => ?_))
  refine tk_move 0 (some 35) (.tmp 3) (.slice (some ⟨gp, op, none⟩) m cap) rfl rfl rfl (by kernel_rfl) rfl rfl HS0.out ?_
  simp only [Act.put, List.setIfInBounds_toArray, List.set_cons_zero, List.set_cons_succ]
  refine tk_move 1 (some 36) (.tmp 10) (.int .i64 L) rfl rfl rfl (by kernel_rfl) rfl rfl HS0.out ?_
  simp only [Act.put, List.setIfInBounds_toArray, List.set_cons_zero, List.set_cons_succ]
  refine tk 2 (some 37) (.pointer (some ⟨gp, o2, none⟩)) rfl (by kernel_rfl) rfl rfl HS0.out (fun w h0 => by go_simp) ?_
  simp only [Act.put, List.setIfInBounds_toArray, List.set_cons_zero, List.set_cons_succ]
  refine tk_load 3 (some 38) 35 (.tmp 37) rfl rfl gp o2 rfl ts _ (fun w h => h.2.1) hu rfl hix (by kernel_rfl) rfl rfl HS0.out ?_
  simp only [Act.put, List.setIfInBounds_toArray, List.set_cons_zero, List.set_cons_succ]
  refine tk_load 4 (some 39) 35 (.tmp 4) rfl rfl g 0 rfl vs _ (fun w h => h.1) hu rfl hiv (by kernel_rfl) rfl rfl HS0.out ?_
  simp only [Act.put, List.setIfInBounds_toArray, List.set_cons_zero, List.set_cons_succ]
  refine tk_move 5 (some 40) (.tmp 1) (.int .i64 i) rfl rfl rfl (by kernel_rfl) rfl rfl HS0.out ?_
  simp only [Act.put, List.setIfInBounds_toArray, List.set_cons_zero, List.set_cons_succ]
  refine tk_move 6 (some 41) (.tmp 9) (.int .i64 k) rfl rfl rfl (by kernel_rfl) rfl rfl HS0.out ?_
  simp only [Act.put, List.setIfInBounds_toArray, List.set_cons_zero, List.set_cons_succ]
  refine tk 7 (some 42) (.int .i64 ((i - k : Nat) : Int)) rfl (by kernel_rfl) rfl rfl HS0.out (fun w h0 => by go_simp) ?_
  simp only [Act.put, List.setIfInBounds_toArray, List.set_cons_zero, List.set_cons_succ]
  refine tk_move 8 (some 43) (.tmp 2) (.int .i64 n) rfl rfl rfl (by kernel_rfl) rfl rfl HS0.out ?_
  simp only [Act.put, List.setIfInBounds_toArray, List.set_cons_zero, List.set_cons_succ]
  refine tk_move 9 (some 44) (.tmp 9) (.int .i64 k) rfl rfl rfl (by kernel_rfl) rfl rfl HS0.out ?_
  simp only [Act.put, List.setIfInBounds_toArray, List.set_cons_zero, List.set_cons_succ]
  refine tk 10 (some 45) (.int .i64 ((n - k : Nat) : Int)) rfl (by kernel_rfl) rfl rfl HS0.out (fun w h0 => by go_simp) ?_
  simp only [Act.put, List.setIfInBounds_toArray, List.set_cons_zero, List.set_cons_succ]
  refine tk_move 11 (some 46) (.tmp 3) (.slice (some ⟨gp, op, none⟩) m cap) rfl rfl rfl (by kernel_rfl) rfl rfl HS0.out ?_
  simp only [Act.put, List.setIfInBounds_toArray, List.set_cons_zero, List.set_cons_succ]
  refine tk_move 12 (some 47) (.tmp 10) (.int .i64 L) rfl rfl rfl (by kernel_rfl) rfl rfl HS0.out ?_
  simp only [Act.put, List.setIfInBounds_toArray, List.set_cons_zero, List.set_cons_succ]
  refine tk 13 (some 48) (.slice (some ⟨gp, op, none⟩) L cap) rfl (by kernel_rfl) rfl rfl HS0.out (fun w h0 => by go_simp) ?_
  simp only [Act.put, List.setIfInBounds_toArray, List.set_cons_zero, List.set_cons_succ]
  refine only 14 rfl (by kernel_rfl) rfl (fun K hK => ?_)
  go_simp
  go_at_call 75
  refine (C1.out _ HB.out.drew).mono ?_
  rintro e w1 ⟨ut, hdt, rfl, hb1⟩
  have hbw : Below W.heap.size W w1 := (Below.refl _ _).drew.trans hb1
  have HB1 := hid (below_tr HB.out hbw); have HR1 := hid (HR.out.ups hbw); have HCV1 := hid (HCV.out.ups hbw); have HCX1 := hid (HCX.out.ups hbw)
  clear hb1 hbw
  refine hK.out _ _ ⟨HCV1.out.range, HCX1.out.range, HR1.out.there⟩ ?_
  clear hK K
  refine only 15 rfl (by kernel_rfl) rfl (fun K hK => ?_)
  go_simp
  go_at_call 68
  refine (node_any x t ts ut _ hx hdt (HK.out.ups HB1.out)).mono ?_
  rintro e w5 ⟨us, hd, rfl, hb5⟩
  have HR5 := hid (HR1.out.ups hb5); have HCV5 := hid (HCV1.out.ups hb5); have HCX5 := hid (HCX1.out.ups hb5); have HB5 := hid (below_tr HB1.out hb5)
  clear hb5
  refine hK.out _ _ ⟨HCV5.out.range, HCX5.out.range, HR5.out.there⟩ ?_
  clear hK K
  obtain ⟨hc6, hr6, hbb⟩ := HR5.out.put hd
  have HC6 := hid hc6
  have HB6 := hid (hbb _ _ (by omega) HB5.out)
  have hlen := hd.len'
  clear hc6 hbb
  refine only 16 rfl (by kernel_rfl) rfl (fun K hK => ?_)
  refine wp_store_mid 35 (.tmp 8) (.tmp 50) rfl (g + 1) 0 us.toArray rfl rfl (by rw [List.size_toArray, hlen]; exact HR5.out.there) (by rw [List.size_toArray]; exact info26 hlen) hd.one ?_
  refine hK.out _ _ ⟨(Cells.sets (by simp) us 0 _ HCV5.out).range, (Cells.sets (by show g + 1 ≠ gp; omega) us 0 _ HCX5.out).range, hr6.there⟩ ?_
  clear hK K
  simp only [Act.put, List.setIfInBounds_toArray, List.set_cons_zero, List.set_cons_succ]
  refine wpAnyH_done (by kernel_rfl) (NoPanic.normal ?_) _
  go_wp2
  exact bodyPost_ret (v := .agg us.toArray) (results_cell_mid Tryd.results75 _ _ (g + 1) us _ (by simp only [Array.getD]; rfl) HC6.out.range Tryd.underlying35 rfl (info26 hlen)) rfl ⟨us, hd, rfl, HB6.out⟩
end Go.Proofs.YtaoehkoffhnidaaDoor.Dg

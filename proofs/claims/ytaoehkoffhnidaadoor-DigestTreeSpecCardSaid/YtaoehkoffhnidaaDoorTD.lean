/- The reference of layer 2: climbing a path. -/
import Derived.Test.YtaoehkoffhnidaaDoorTC
namespace Go.Proofs.YtaoehkoffhnidaaDoor.Dg
open Go.RowKit Go
set_option linter.unusedVariables false
set_option maxRecDepth 20000
set_option linter.unusedSimpArgs false
set_option maxRecDepth 100000 in
set_option maxHeartbeats 4000000 in
theorem rclimb_one (i n : Nat) (d : List UInt8) (vs : List Value) (q : Option Addr) (len cap : Nat) (w : World) (hn : n = 1) (hd : IsD d vs) : Calls Tryd.prog 77 #[.agg vs.toArray, .int .i64 i, .int .i64 n, .slice q len cap] w (RetD w (tagd leafS d)) := by
  have HD := hid hd
  clear hd
  go_enter Tryd.func77, Tryd.ntmps77
  go_upto_region 1 with (fail)
  refine code_box1 ?_
  intro W hcv hz hf hb hs
  obtain ⟨g, hg⟩ : ∃ g, g = w.heap.size := ⟨_, rfl⟩
  rw [← hg] at hcv hz hf hs ⊢
  have HR := hid (Room.mk' hz rfl hf (by omega)); have HB := hid hb; have HBS := hid (HD.out.bs hcv (by omega))
  have hgg : w.heap.size ≤ g := by omega
  clear hz hf hb hs hg hcv
  go_wp2_with fail
  refine (rTagged_any ⟨#[108, 101, 97, 102]⟩ _ d _ HBS.out (by decide) (by rw [HD.out.len]; omega)).mono ?_
  rintro e w1 ⟨us, hd1, rfl, hb1⟩
  obtain ⟨w2, hst, hc2, hbb⟩ := (HR.out.ups hb1).store hd1
  have hlen := hd1.len'
  have HB2 := hid (hbb _ _ (by omega) (below_tr HB.out hb1)); have HC2 := hid hc2
  clear hb1 hbb hc2
  go_wp2
  exact bodyPost_ret (v := .agg us.toArray) (results_cell_mid Tryd.results77 _ _ (g + 1) us _ (by simp only [Array.getD]; rfl) HC2.out.range Tryd.underlying35 rfl (info26 hlen)) rfl ⟨us, hd1, rfl, HB2.out⟩
set_option maxRecDepth 100000 in
set_option maxHeartbeats 4000000 in
theorem rclimb_lo (n k cap gp op i L m : Nat) (hm : m = L + 1) (t x : List UInt8) (vs ts : List Value) (w : World) (hf : fp n = k) (h2 : 2 ≤ n) (hn : n ≤ 4398046511104) (h3 : k < n) (h0 : 0 < k) (h4 : m ≤ cap) (h5 : cap < 9223372036854775808) (hi : i < k)
    (hvs : vs.length = 32) (hx : IsD x ts) (o2 : Nat) (ho2 : op + L * 32 = o2) (hc : Cells w ⟨gp, o2, none⟩ ts) (hgp : gp < w.heap.size)
    (c1 : ∀ W, Below w.heap.size w W → Calls Tryd.prog 77 #[.agg vs.toArray, .int .i64 i, .int .i64 k, .slice (some ⟨gp, op, none⟩) L cap] W (RetD W t)) :
    Calls Tryd.prog 77 #[.agg vs.toArray, .int .i64 i, .int .i64 n, .slice (some ⟨gp, op, none⟩) m cap] w (RetD w (tagd nodeS (t ++ x))) := by
  have HF := hid hf; have C1 := hid c1; have HC := hid hc
  clear hf c1 hc
  have hd1 : ((n : Int) == 1) = false := by simp; omega
  have e0 : IntKind.i64.wrap ((m : Int) - 1) = (L : Int) := by rw [IntWalk.i64_in _ (by omega)]; omega
  have e1 : L ≤ cap := by omega
  have e2 : ¬ cap = L := by omega
  have e3 : L ≤ m := by omega
  have e4 : (L : Int) < (m : Int) := by omega
  have e5 : L < m := by omega
  clear hm
  go_enter Tryd.func77, Tryd.ntmps77
  go_upto_region 1 with (fail)
  refine code_box1 ?_
  intro W hcv hz hf hb hs
  obtain ⟨g, hg⟩ : ∃ g, g = w.heap.size := ⟨_, rfl⟩
  rw [← hg] at hcv hz hf hs ⊢
  have HR := hid (Room.mk' hz rfl hf (by omega)); have HB := hid hb; have HCV := hid hcv; have HCX := hid (HC.out.ups hb)
  have hgg : w.heap.size ≤ g := by omega
  have HSZ := hid (show g + 2 = W.heap.size by omega)
  clear hz hf hb hs hg hcv
  go_wp2_with fail
  refine (half_any n k _ h2 hn HF).mono ?_
  rintro e w' ⟨rfl, rfl⟩
  have hu := Tryd.underlying35
  have hla := lit_add
  have hiv := info26 hvs
  have hix := info26 hx.len'
  go_wp2_with (first
    | (refine wpList_load_mid rfl 35 (.tmp 21) rfl gp o2 rfl ts _ HCX.out.range Tryd.underlying35 rfl hix ?_)
    | (refine wpl_alloc (some 10) rfl rfl rfl ?_; intro w4 g4 hg4 hr4 hb4 hs4; have HR4 := hid hr4; have HB4 := hid (below_tr HB.out hb4); have HG4 := hid (show g + 2 = g4 by rw [hg4]; exact HSZ.out); have HRR := hid (HR.out.ups hb4); have HCV4 := hid (HCV.out.ups hb4); clear hg4 hr4 hb4 hs4)
    | (refine wpl_put (.tmp 10) (.tmp 22) rfl rfl g4 ts _ rfl rfl HR4.out hx ?_; intro w5 hc5 hr5 ho5; have HB5 := hid (ho5.below HB4.out HB4.out.size (by have := HG4.out; omega)); have HC5 := hid hc5; have HCV5 := hid (ho5.cells HCV4.out (by show g ≠ g4; have := HG4.out; omega)); have HR := hid (Room.grown HRR.out ho5.1 (by intro e; cases e; have := HG4.out; omega)); clear hc5 hr5 ho5))
  try go_upto_region 6 with fail
  have HS := hid (show Cells w5.drew ⟨g, 0, none⟩ vs ∧ Cells w5.drew ⟨g4, 0, none⟩ ts ∧ Below w.heap.size w w5.drew from ⟨HCV5.out, HC5.out, HB5.out.drew⟩)
  have HR := hid (HR.out.ups (Below.refl w5.heap.size w5).drew)
  refine wa_start (S := fun W' => Cells W' ⟨g, 0, none⟩ vs ∧ Cells W' ⟨g4, 0, none⟩ ts ∧ Below w.heap.size w W') (by kernel_rfl) HS.out ?_
  clear HC5 HCV5 HB5 HCV4 HRR HB4 HR4 HCV HCX HB
  refine wa_load 0 (some 26) 35 (.tmp 4) rfl rfl g 0 rfl vs _ (fun w h => (h.1).range) hu rfl hiv (by kernel_rfl) rfl rfl HS.out ?_
  try simp only [Act.put, List.setIfInBounds_toArray, List.set_cons_zero, List.set_cons_succ]
  refine wa_tk 1 (some 27) (.int .i64 i) rfl (by kernel_rfl) rfl rfl HS.out (fun w h0 => by go_simp) ?_
  try simp only [Act.put, List.setIfInBounds_toArray, List.set_cons_zero, List.set_cons_succ]
  refine wa_tk 2 (some 28) (.int .i64 k) rfl (by kernel_rfl) rfl rfl HS.out (fun w h0 => by go_simp) ?_
  try simp only [Act.put, List.setIfInBounds_toArray, List.set_cons_zero, List.set_cons_succ]
  refine wa_tk 3 (some 29) (.slice (some ⟨gp, op, none⟩) m cap) rfl (by kernel_rfl) rfl rfl HS.out (fun w h0 => by go_simp) ?_
  try simp only [Act.put, List.setIfInBounds_toArray, List.set_cons_zero, List.set_cons_succ]
  refine wa_tk 4 (some 30) (.slice (some ⟨gp, op, none⟩) m cap) rfl (by kernel_rfl) rfl rfl HS.out (fun w h0 => by go_simp) ?_
  try simp only [Act.put, List.setIfInBounds_toArray, List.set_cons_zero, List.set_cons_succ]
  refine wa_tk 5 (some 31) (.int .i64 m) rfl (by kernel_rfl) rfl rfl HS.out (fun w h0 => by go_simp) ?_
  try simp only [Act.put, List.setIfInBounds_toArray, List.set_cons_zero, List.set_cons_succ]
  refine wa_tk 6 (some 32) (.int .i64 L) rfl (by kernel_rfl) rfl rfl HS.out (fun w h0 => by go_simp) ?_
  try simp only [Act.put, List.setIfInBounds_toArray, List.set_cons_zero, List.set_cons_succ]
  refine wa_tk 7 (some 33) (.slice (some ⟨gp, op, none⟩) L cap) rfl (by kernel_rfl) rfl rfl HS.out (fun w h0 => by go_simp) ?_
  try simp only [Act.put, List.setIfInBounds_toArray, List.set_cons_zero, List.set_cons_succ]
  refine wa_load 9 (some 35) 35 (.tmp 10) rfl rfl g4 0 rfl ts _ (fun w h => (h.2.1).range) hu rfl hix (by kernel_rfl) rfl rfl HS.out ?_
  try simp only [Act.put, List.setIfInBounds_toArray, List.set_cons_zero, List.set_cons_succ]
  refine wa_branch [8] (by decide +kernel) rfl ?_
  refine ar_op 8 rfl rfl (fun K hK => ?_) ar_nil
  go_simp
  go_at_call 77
  refine (C1.out _ HS.out.2.2).mono ?_
  rintro e w1 ⟨ut, hdt, rfl, hb1⟩
  have HS := hid (show _ ∧ _ ∧ _ from ⟨HS.out.1.ups hb1, HS.out.2.1.ups hb1, below_tr HS.out.2.2 hb1⟩); have HR := hid (HR.out.ups hb1); clear hb1
  refine hK.out _ _ HS.out ?_
  clear hK K
  try simp only [Act.put, List.setIfInBounds_toArray, List.set_cons_zero, List.set_cons_succ]
  refine wa_branch [10] (by decide +kernel) rfl ?_
  refine ar_op 10 rfl rfl (fun K hK => ?_) ar_nil
  go_simp
  go_at_call 71
  refine (rnode_any t x ut ts _ hdt hx).mono ?_
  rintro e w5 ⟨us, hd, rfl, hb5⟩
  have HS := hid (show _ ∧ _ ∧ _ from ⟨HS.out.1.ups hb5, HS.out.2.1.ups hb5, below_tr HS.out.2.2 hb5⟩); have HR := hid (HR.out.ups hb5); clear hb5
  refine hK.out _ _ HS.out ?_
  clear hK K
  try simp only [Act.put, List.setIfInBounds_toArray, List.set_cons_zero, List.set_cons_succ]
  refine wa_branch [11] (by decide +kernel) rfl ?_
  refine ar_op 11 rfl rfl (fun K hK => ?_) ar_nil
  refine st_put none rfl (.tmp 8) (.tmp 36) rfl (g + 1) us _ rfl rfl HR.out hd ?_
  intro w6 hc6 hr6 ho6
  have HS := hid (show _ ∧ _ ∧ _ from ⟨ho6.cells HS.out.1 (by show g ≠ g + 1; omega), ho6.cells HS.out.2.1 (by show g4 ≠ g + 1; have := HG4.out; omega), ho6.below HS.out.2.2 HS.out.2.2.size (by omega)⟩)
  have HC6 := hid hc6
  have hlen := hd.len'
  clear hc6 hr6 ho6
  refine hK.out _ _ HS.out ?_
  clear hK K
  try simp only [Act.put, List.setIfInBounds_toArray, List.set_cons_zero, List.set_cons_succ]
  refine wa_done (by decide +kernel) ?_
  go_wp2
  exact bodyPost_ret (v := .agg us.toArray) (results_cell_mid Tryd.results77 _ _ (g + 1) us _ (by simp only [Array.getD]; rfl) HC6.out.range Tryd.underlying35 rfl (info26 hlen)) rfl ⟨us, hd, rfl, HS.out.2.2⟩
set_option maxRecDepth 100000 in
set_option maxHeartbeats 4000000 in
theorem rclimb_hi (n k cap gp op i L m : Nat) (hm : m = L + 1) (t x : List UInt8) (vs ts : List Value) (w : World) (hf : fp n = k) (h2 : 2 ≤ n) (hn : n ≤ 4398046511104) (h3 : k < n) (h0 : 0 < k) (h4 : m ≤ cap) (h5 : cap < 9223372036854775808) (hi : ¬ i < k) (hin : i < n)
    (hvs : vs.length = 32) (hx : IsD x ts) (o2 : Nat) (ho2 : op + L * 32 = o2) (hc : Cells w ⟨gp, o2, none⟩ ts) (hgp : gp < w.heap.size)
    (c1 : ∀ W, Below w.heap.size w W → Calls Tryd.prog 77 #[.agg vs.toArray, .int .i64 ((i - k : Nat) : Int), .int .i64 ((n - k : Nat) : Int), .slice (some ⟨gp, op, none⟩) L cap] W (RetD W t)) :
    Calls Tryd.prog 77 #[.agg vs.toArray, .int .i64 i, .int .i64 n, .slice (some ⟨gp, op, none⟩) m cap] w (RetD w (tagd nodeS (x ++ t))) := by
  have HF := hid hf; have C1 := hid c1; have HC := hid hc
  clear hf c1 hc
  have hd1 : ((n : Int) == 1) = false := by simp; omega
  have e0 : IntKind.i64.wrap ((m : Int) - 1) = (L : Int) := by rw [IntWalk.i64_in _ (by omega)]; omega
  have e1 : L ≤ cap := by omega
  have e2 : ¬ cap = L := by omega
  have e3 : L ≤ m := by omega
  have e4 : (L : Int) < (m : Int) := by omega
  have e5 : L < m := by omega
  clear hm
  have e6 : IntKind.i64.wrap ((i : Int) - k) = ((i - k : Nat) : Int) := by rw [IntWalk.i64_in _ (by omega)]; omega
  have e7 : IntKind.i64.wrap ((n : Int) - k) = ((n - k : Nat) : Int) := by rw [IntWalk.i64_in _ (by omega)]; omega
  go_enter Tryd.func77, Tryd.ntmps77
  go_upto_region 1 with (fail)
  refine code_box1 ?_
  intro W hcv hz hf hb hs
  obtain ⟨g, hg⟩ : ∃ g, g = w.heap.size := ⟨_, rfl⟩
  rw [← hg] at hcv hz hf hs ⊢
  have HR := hid (Room.mk' hz rfl hf (by omega)); have HB := hid hb; have HCV := hid hcv; have HCX := hid (HC.out.ups hb)
  have hgg : w.heap.size ≤ g := by omega
  have HSZ := hid (show g + 2 = W.heap.size by omega)
  clear hz hf hb hs hg hcv
  go_wp2_with fail
  refine (half_any n k _ h2 hn HF).mono ?_
  rintro e w' ⟨rfl, rfl⟩
  have hu := Tryd.underlying35
  have hla := lit_add
  have hiv := info26 hvs
  have hix := info26 hx.len'
  go_wp2_with (first
    | (refine wpList_load_mid rfl 35 (.tmp 21) rfl gp o2 rfl ts _ HCX.out.range Tryd.underlying35 rfl hix ?_)
    | (refine wpl_alloc (some 10) rfl rfl rfl ?_; intro w4 g4 hg4 hr4 hb4 hs4; have HR4 := hid hr4; have HB4 := hid (below_tr HB.out hb4); have HG4 := hid (show g + 2 = g4 by rw [hg4]; exact HSZ.out); have HRR := hid (HR.out.ups hb4); have HCV4 := hid (HCV.out.ups hb4); clear hg4 hr4 hb4 hs4)
    | (refine wpl_put (.tmp 10) (.tmp 22) rfl rfl g4 ts _ rfl rfl HR4.out hx ?_; intro w5 hc5 hr5 ho5; have HB5 := hid (ho5.below HB4.out HB4.out.size (by have := HG4.out; omega)); have HC5 := hid hc5; have HCV5 := hid (ho5.cells HCV4.out (by show g ≠ g4; have := HG4.out; omega)); have HR := hid (Room.grown HRR.out ho5.1 (by intro e; cases e; have := HG4.out; omega)); clear hc5 hr5 ho5))
  try go_upto_region 7 with fail
  have HS := hid (show Cells w5.drew ⟨g, 0, none⟩ vs ∧ Cells w5.drew ⟨g4, 0, none⟩ ts ∧ Below w.heap.size w w5.drew from ⟨HCV5.out, HC5.out, HB5.out.drew⟩)
  have HR := hid (HR.out.ups (Below.refl w5.heap.size w5).drew)
  refine wa_start (S := fun W' => Cells W' ⟨g, 0, none⟩ vs ∧ Cells W' ⟨g4, 0, none⟩ ts ∧ Below w.heap.size w W') (by kernel_rfl) HS.out ?_
  clear HC5 HCV5 HB5 HCV4 HRR HB4 HR4 HCV HCX HB
  refine wa_load 0 (some 37) 35 (.tmp 10) rfl rfl g4 0 rfl ts _ (fun w h => (h.2.1).range) hu rfl hix (by kernel_rfl) rfl rfl HS.out ?_
  try simp only [Act.put, List.setIfInBounds_toArray, List.set_cons_zero, List.set_cons_succ]
  refine wa_load 1 (some 38) 35 (.tmp 4) rfl rfl g 0 rfl vs _ (fun w h => (h.1).range) hu rfl hiv (by kernel_rfl) rfl rfl HS.out ?_
  try simp only [Act.put, List.setIfInBounds_toArray, List.set_cons_zero, List.set_cons_succ]
  refine wa_tk 2 (some 39) (.int .i64 i) rfl (by kernel_rfl) rfl rfl HS.out (fun w h0 => by go_simp) ?_
  try simp only [Act.put, List.setIfInBounds_toArray, List.set_cons_zero, List.set_cons_succ]
  refine wa_tk 3 (some 40) (.int .i64 k) rfl (by kernel_rfl) rfl rfl HS.out (fun w h0 => by go_simp) ?_
  try simp only [Act.put, List.setIfInBounds_toArray, List.set_cons_zero, List.set_cons_succ]
  refine wa_tk 4 (some 41) (.int .i64 ((i - k : Nat) : Int)) rfl (by kernel_rfl) rfl rfl HS.out (fun w h0 => by go_simp) ?_
  try simp only [Act.put, List.setIfInBounds_toArray, List.set_cons_zero, List.set_cons_succ]
  refine wa_tk 5 (some 42) (.int .i64 n) rfl (by kernel_rfl) rfl rfl HS.out (fun w h0 => by go_simp) ?_
  try simp only [Act.put, List.setIfInBounds_toArray, List.set_cons_zero, List.set_cons_succ]
  refine wa_tk 6 (some 43) (.int .i64 k) rfl (by kernel_rfl) rfl rfl HS.out (fun w h0 => by go_simp) ?_
  try simp only [Act.put, List.setIfInBounds_toArray, List.set_cons_zero, List.set_cons_succ]
  refine wa_tk 7 (some 44) (.int .i64 ((n - k : Nat) : Int)) rfl (by kernel_rfl) rfl rfl HS.out (fun w h0 => by go_simp) ?_
  try simp only [Act.put, List.setIfInBounds_toArray, List.set_cons_zero, List.set_cons_succ]
  refine wa_tk 8 (some 45) (.slice (some ⟨gp, op, none⟩) m cap) rfl (by kernel_rfl) rfl rfl HS.out (fun w h0 => by go_simp) ?_
  try simp only [Act.put, List.setIfInBounds_toArray, List.set_cons_zero, List.set_cons_succ]
  refine wa_tk 9 (some 46) (.slice (some ⟨gp, op, none⟩) m cap) rfl (by kernel_rfl) rfl rfl HS.out (fun w h0 => by go_simp) ?_
  try simp only [Act.put, List.setIfInBounds_toArray, List.set_cons_zero, List.set_cons_succ]
  refine wa_tk 10 (some 47) (.int .i64 m) rfl (by kernel_rfl) rfl rfl HS.out (fun w h0 => by go_simp) ?_
  try simp only [Act.put, List.setIfInBounds_toArray, List.set_cons_zero, List.set_cons_succ]
  refine wa_tk 11 (some 48) (.int .i64 L) rfl (by kernel_rfl) rfl rfl HS.out (fun w h0 => by go_simp) ?_
  try simp only [Act.put, List.setIfInBounds_toArray, List.set_cons_zero, List.set_cons_succ]
  refine wa_tk 12 (some 49) (.slice (some ⟨gp, op, none⟩) L cap) rfl (by kernel_rfl) rfl rfl HS.out (fun w h0 => by go_simp) ?_
  try simp only [Act.put, List.setIfInBounds_toArray, List.set_cons_zero, List.set_cons_succ]
  refine wa_branch [13] (by decide +kernel) rfl ?_
  refine ar_op 13 rfl rfl (fun K hK => ?_) ar_nil
  go_simp
  go_at_call 77
  refine (C1.out _ HS.out.2.2).mono ?_
  rintro e w1 ⟨ut, hdt, rfl, hb1⟩
  have HS := hid (show _ ∧ _ ∧ _ from ⟨HS.out.1.ups hb1, HS.out.2.1.ups hb1, below_tr HS.out.2.2 hb1⟩); have HR := hid (HR.out.ups hb1); clear hb1
  refine hK.out _ _ HS.out ?_
  clear hK K
  try simp only [Act.put, List.setIfInBounds_toArray, List.set_cons_zero, List.set_cons_succ]
  refine wa_branch [14] (by decide +kernel) rfl ?_
  refine ar_op 14 rfl rfl (fun K hK => ?_) ar_nil
  go_simp
  go_at_call 71
  refine (rnode_any x t ts ut _ hx hdt).mono ?_
  rintro e w5 ⟨us, hd, rfl, hb5⟩
  have HS := hid (show _ ∧ _ ∧ _ from ⟨HS.out.1.ups hb5, HS.out.2.1.ups hb5, below_tr HS.out.2.2 hb5⟩); have HR := hid (HR.out.ups hb5); clear hb5
  refine hK.out _ _ HS.out ?_
  clear hK K
  try simp only [Act.put, List.setIfInBounds_toArray, List.set_cons_zero, List.set_cons_succ]
  refine wa_branch [15] (by decide +kernel) rfl ?_
  refine ar_op 15 rfl rfl (fun K hK => ?_) ar_nil
  refine st_put none rfl (.tmp 8) (.tmp 51) rfl (g + 1) us _ rfl rfl HR.out hd ?_
  intro w6 hc6 hr6 ho6
  have HS := hid (show _ ∧ _ ∧ _ from ⟨ho6.cells HS.out.1 (by show g ≠ g + 1; omega), ho6.cells HS.out.2.1 (by show g4 ≠ g + 1; have := HG4.out; omega), ho6.below HS.out.2.2 HS.out.2.2.size (by omega)⟩)
  have HC6 := hid hc6
  have hlen := hd.len'
  clear hc6 hr6 ho6
  refine hK.out _ _ HS.out ?_
  clear hK K
  try simp only [Act.put, List.setIfInBounds_toArray, List.set_cons_zero, List.set_cons_succ]
  refine wa_done (by decide +kernel) ?_
  go_wp2
  exact bodyPost_ret (v := .agg us.toArray) (results_cell_mid Tryd.results77 _ _ (g + 1) us _ (by simp only [Array.getD]; rfl) HC6.out.range Tryd.underlying35 rfl (info26 hlen)) rfl ⟨us, hd, rfl, HS.out.2.2⟩
theorem rclimb_any (L : Nat) : ∀ (p : List (List UInt8)) (n i : Nat) (d : List UInt8) (vs : List Value) (v : Value) (w : World), p.length = L → plen i n = L → 1 ≤ n → n ≤ 4398046511104 → i < n → DS w v p → IsD d vs →
    Calls Tryd.prog 77 #[.agg vs.toArray, .int .i64 i, .int .i64 n, v] w (RetD w (clm d i n p)) := by
  induction L with
  | zero =>
    intro p n i d vs v w hp hl h1 hn hi hv hd
    have h2 : n = 1 := by
      apply Classical.byContradiction
      intro h
      by_cases hlo : i < fp n
      · rw [plen_lo i n (by omega) hlo] at hl; omega
      · rw [plen_hi i n (by omega) hlo] at hl; omega
    obtain ⟨q, cap, rfl, _, _⟩ := hv.form
    rw [clm_one d i n p (by omega)]
    exact rclimb_one i n d vs q _ cap w h2 hd
  | succ L ih =>
    intro p n i d vs v w hp hl h1 hn hi hv hd
    have h2 : 2 ≤ n := by
      apply Classical.byContradiction
      intro h
      rw [plen_one i n (by omega)] at hl; omega
    obtain ⟨gp, op, cap, rfl, h4, h5, h6, h7, h8⟩ := hv.pos (by omega)
    have h9 := fp_lt n h2; have h10 := fp_pos n h2
    have hx : p[L]? = some (p.getLastD []) := by
      rw [List.getLastD_eq_getLast?, List.getLast?_eq_getElem?, hp, Nat.add_sub_cancel, List.getElem?_eq_getElem (by omega)]; rfl
    obtain ⟨hxc, hxd⟩ := cells_elem h6 h8 hx
    have hdl : p.dropLast = p.take L := by rw [List.dropLast_eq_take, hp, Nat.add_sub_cancel]
    rw [hp]
    by_cases hlo : i < fp n
    · rw [clm_lo d i n p h2 hlo]
      rw [plen_lo i n h2 hlo] at hl
      exact rclimb_lo n _ cap gp op i L (L + 1) rfl _ _ vs _ w rfl h2 hn h9 h10 (by omega) h5 hlo hd.len' hxd _ rfl hxc h7
        (fun W hb => by rw [hdl]; exact ih _ _ _ d vs _ W (by rw [List.length_take]; omega) (by omega) (by omega) (by omega) hlo ((DS.take h6 h7 h8 L (by omega) (by omega) h5).ups hb) hd)
    · rw [clm_hi d i n p h2 hlo]
      rw [plen_hi i n h2 hlo] at hl
      exact rclimb_hi n _ cap gp op i L (L + 1) rfl _ _ vs _ w rfl h2 hn h9 h10 (by omega) h5 hlo hi hd.len' hxd _ rfl hxc h7
        (fun W hb => by rw [hdl]; exact ih _ _ _ d vs _ W (by rw [List.length_take]; omega) (by omega) (by omega) (by omega) (by omega) ((DS.take h6 h7 h8 L (by omega) (by omega) h5).ups hb) hd)
end Go.Proofs.YtaoehkoffhnidaaDoor.Dg

/- The reference of layer 2: chains and nodes. -/
import Derived.Test.YtaoehkoffhnidaaDoorRE
namespace Go.Proofs.YtaoehkoffhnidaaDoor.Dg
open Go.RowKit Go
set_option linter.unusedVariables false
set_option maxRecDepth 20000
set_option linter.unusedSimpArgs false
set_option maxRecDepth 100000 in
set_option maxHeartbeats 4000000 in
theorem rnode_any (l1 l2 : List UInt8) (v1 v2 : List Value) (w : World) (hd1 : IsD l1 v1) (hd2 : IsD l2 v2) : Calls Tryd.prog 71 #[.agg v1.toArray, .agg v2.toArray] w (RetD w (tagd nodeS (l1 ++ l2))) := by
  go_enter Tryd.func71, Tryd.ntmps71
  go_upto_region 1 with (fail)
  refine code_box2 ?_
  intro W hc1 hc2 hz hf hb hs
  obtain ⟨g, hg⟩ : ∃ g, g = w.heap.size := ⟨_, rfl⟩
  rw [← hg] at hc1 hc2 hz hf hs ⊢
  have HR := hid (Room.mk' hz rfl hf (by omega)); have HB := hid hb
  have hgg : w.heap.size ≤ g := by omega
  have hs1 : g < W.heap.size := by omega
  have hs2 : g + 1 < W.heap.size := by omega
  obtain ⟨W3, hW3⟩ : ∃ W3, W3 = W.drew := ⟨_, rfl⟩
  have HW3 := hid hW3
  have hb3 : Below W.heap.size W W3 := by rw [HW3.out]; exact (Below.refl _ _).drew
  have hal : Below W3.heap.size W3 (W3.alloc (.cells #[] 5)) := below_al _ _
  have hb1 := below_tr hb3 hal
  have hbs1 := hd1.bs (hc1.ups hb1) (Nat.lt_of_lt_of_le hs1 hb1.size)
  obtain ⟨x1, w4, hr1, ho1, hb4⟩ := append_ob (w := W3.alloc (.cells #[] 5)) (base := W3.heap.size) (v := .slice (some ⟨W3.heap.size, 0, none⟩) 0 0) (l := []) (.inr ⟨rfl, _, rfl⟩) hbs1 (by rw [hd1.len]; simp) hal.size
  rw [List.nil_append] at ho1
  have hb2 := hb3.trans ((hal.trans hb4).mono hb3.size)
  have hbs2 := hd2.bs (hc2.ups hb2) (Nat.lt_of_lt_of_le hs2 hb2.size)
  obtain ⟨x2, w5, hr2, ho2, hb5⟩ := append_ob ho1 hbs2 (by rw [hd1.len, hd2.len]; omega) (Nat.le_trans hal.size hb4.size)
  have hb6 := hb3.trans (((hal.trans hb4).trans hb5).mono hb3.size)
  have HO := hid (ho2.bs (by rw [List.length_append, hd1.len, hd2.len]; omega))
  have HR5 := hid (HR.out.ups hb6)
  have HB5 := hid (below_tr HB.out hb6)
  rw [hW3] at hr1
  have hsz : W.drew.heap.size = W.heap.size := rfl
  have H1 := hid hr1; have H2 := hid hr2
  clear hc1 hc2 hz hf hb hs hg hb3 hal hb1 hbs1 hr1 ho1 hb2 hbs2 hr2 ho2 hb4 hb5 hb6 hW3 hsz hs1 hs2 HR HB
  go_region_law (first | (refine step_append_run rfl (.tmp 5) (.tmp 6) 22 22 rfl _ _ _ rfl rfl H1.out ?_) | (refine step_append_run rfl (.tmp 7) (.tmp 8) 22 22 rfl _ _ _ rfl rfl H2.out ?_) | (go_simp; go_at_call 69; refine (rTagged_any ⟨#[110, 111, 100, 101]⟩ _ (l1 ++ l2) _ HO.out (by decide) (by rw [List.length_append, hd1.len, hd2.len]; omega)).mono ?_; rintro e w6 ⟨us, hd, rfl, hb7⟩; obtain ⟨w7, hst, hc7, hbb⟩ := (HR5.out.ups hb7).store hd; have hlen := hd.len'; have HB7 := hid (hbb _ _ (by omega) (below_tr HB5.out hb7)); have HC7 := hid hc7; clear hb7 hbb hc7))
  all_goals
    go_wp2
    exact bodyPost_ret (v := .agg us.toArray) (results_cell_mid Tryd.results71 _ _ (g + 1 + 1) us _ (by simp only [Array.getD]; rfl) HC7.out.range Tryd.underlying35 rfl (info26 hlen)) rfl ⟨us, hd, rfl, HB7.out⟩
end Go.Proofs.YtaoehkoffhnidaaDoor.Dg

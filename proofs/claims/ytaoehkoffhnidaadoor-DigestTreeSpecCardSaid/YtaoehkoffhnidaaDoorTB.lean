/- The reference of layer 2: the digest of a list. -/
import Derived.Test.YtaoehkoffhnidaaDoorTA
import Derived.Test.YtaoehkoffhnidaaDoorDReh
import Derived.Test.YtaoehkoffhnidaaDoorRK
namespace Go.Proofs.YtaoehkoffhnidaaDoor.Dg
open Go.RowKit Go
set_option linter.unusedVariables false
set_option maxRecDepth 20000
set_option linter.unusedSimpArgs false
set_option maxRecDepth 100000 in
set_option maxHeartbeats 4000000 in
theorem rtree0_any (v : Value) (w : World) (hv : DS w v []) : Calls Tryd.prog 35 #[v] w (RetD w (tree [])) := by
  obtain ⟨p, cap, rfl, h1, h2⟩ := hv.form
  clear hv
  rw [tree_nil]
  go_enter Tryd.func35, Tryd.ntmps35
  go_upto_region 1 with (fail)
  refine code_alloc ?_
  intro W hz hf hb hs
  obtain ⟨g, hg⟩ : ∃ g, g = w.heap.size := ⟨_, rfl⟩
  rw [← hg] at hz hf hs ⊢
  have HR := hid (Room.mk' hz rfl hf (by omega)); have HB := hid hb
  have hgg : w.heap.size ≤ g := by omega
  clear hz hf hb hs hg
  go_wp2_with fail
  refine (rTagged_any ⟨#[101, 109, 112, 116, 121]⟩ _ [] _ (.inl ⟨rfl, rfl⟩) (by decide) (by simp)).mono ?_
  rintro e w1 ⟨us, hd1, rfl, hb1⟩
  obtain ⟨w2, hst, hc2, hbb⟩ := (HR.out.ups hb1).store hd1
  have HC2 := hid hc2
  have HB2 := hid (hbb _ _ (by omega) (below_tr HB.out hb1))
  have hlen := hd1.len'
  clear hb1 hbb hc2
  go_wp2
  exact bodyPost_ret (v := .agg us.toArray) (results_cell_mid Tryd.results35 _ _ g us _ (by simp only [Array.getD]; rfl) HC2.out.range Tryd.underlying35 rfl (info26 hlen)) rfl ⟨us, hd1, rfl, HB2.out⟩
set_option maxRecDepth 100000 in
set_option maxHeartbeats 4000000 in
theorem rtree1_any (v : Value) (d : List UInt8) (w : World) (hv : DS w v [d]) : Calls Tryd.prog 35 #[v] w (RetD w (tree [d])) := by
  obtain ⟨gl, o, cap, rfl, h1, h2, h3, h4, h5⟩ := hv.pos (by simp)
  have HV := hid (cells_elem h3 h5 (k := 0) rfl); have HGL := hid h4
  clear hv h3 h4 h5
  rw [tree_one]
  have hle : (1 : Nat) ≤ cap := h1
  clear h1
  rw [show [d].length = 1 from rfl]
  go_enter Tryd.func35, Tryd.ntmps35
  go_upto_region 1 with (fail)
  refine code_alloc ?_
  intro W hz hf hb hs
  obtain ⟨g, hg⟩ : ∃ g, g = w.heap.size := ⟨_, rfl⟩
  have HC := hid (HV.out.1.ups hb)
  rw [← hg] at hz hf hs ⊢
  have HR := hid (Room.mk' hz rfl hf (by omega)); have HB := hid hb
  have hgg : w.heap.size ≤ g := by omega
  have hbs : BS W (.slice (some ⟨gl, o, none⟩) 32 32) d := by
    refine .inr ⟨⟨gl, o, none⟩, 32, by rw [HV.out.2.len], by rw [HV.out.2.len]; omega, by unfold maxLen; omega, ?_, Nat.lt_of_lt_of_le HGL.out hb.size⟩
    have := HC.out; simpa using this
  have HBS := hid hbs
  clear hz hf hb hs hg hbs
  go_wp2_with fail
  refine (rTagged_any ⟨#[108, 101, 97, 102]⟩ _ d _ HBS.out (by decide) (by rw [HV.out.2.len]; omega)).mono ?_
  rintro e w1 ⟨us, hd1, rfl, hb1⟩
  obtain ⟨w2, hst, hc2, hbb⟩ := (HR.out.ups hb1).store hd1
  have HC2 := hid hc2
  have HB2 := hid (hbb _ _ (by omega) (below_tr HB.out hb1))
  have hlen := hd1.len'
  clear hb1 hbb hc2
  go_wp2
  exact bodyPost_ret (v := .agg us.toArray) (results_cell_mid Tryd.results35 _ _ g us _ (by simp only [Array.getD]; rfl) HC2.out.range Tryd.underlying35 rfl (info26 hlen)) rfl ⟨us, hd1, rfl, HB2.out⟩
set_option maxRecDepth 100000 in
set_option maxHeartbeats 4000000 in
theorem rtree_step (n k cap gl o : Nat) (t1 t2 : List UInt8) (w : World) (hf : fp n = k) (h2 : 2 ≤ n) (hn : n ≤ 4398046511104) (h3 : k < n) (h0 : 0 < k) (h4 : n ≤ cap) (h5 : cap < 9223372036854775808)
    (c1 : ∀ W, Below w.heap.size w W → Calls Tryd.prog 35 #[.slice (some ⟨gl, o, none⟩) k cap] W (RetD W t1))
    (c2 : ∀ W, Below w.heap.size w W → Calls Tryd.prog 35 #[.slice (some ⟨gl, o + k * 32, none⟩) (n - k) (cap - k)] W (RetD W t2)) :
    Calls Tryd.prog 35 #[.slice (some ⟨gl, o, none⟩) n cap] w (RetD w (tagd nodeS (t1 ++ t2))) := by
  have HF := hid hf; have C1 := hid c1; have C2 := hid c2
  clear hf c1 c2
  have hd : ((n : Int) == 0) = false := by simp; omega
  have hd1 : ((n : Int) == 1) = false := by simp; omega
  go_enter Tryd.func35, Tryd.ntmps35
  go_upto_region 1 with (fail)
  refine code_alloc ?_
  intro W hz hf hb hs
  obtain ⟨g, hg⟩ : ∃ g, g = w.heap.size := ⟨_, rfl⟩
  rw [← hg] at hz hf hs ⊢
  have HR := hid (Room.mk' hz rfl hf (by omega)); have HB := hid hb
  have hgg : w.heap.size ≤ g := by omega
  clear hz hf hb hs hg
  go_wp2_with fail
  refine (half_any n k _ h2 hn HF).mono ?_
  rintro e w' ⟨rfl, rfl⟩
  have e1 : k ≤ cap := by omega
  have e2 : ¬ cap = k := by omega
  have e3 : k ≤ n := by omega
  have hla := lit_add
  go_upto_region 6 with fail
  have HR := hid (HR.out.ups (Below.refl W.heap.size W).drew)
  have HS := hid (HB.out.drew)
  clear HB
  refine wa_start (S := fun W' => Below w.heap.size w W') (by kernel_rfl) HS.out ?_
  refine wa_tk 0 (some 18) (.slice (some ⟨gl, o, none⟩) n cap) rfl (by kernel_rfl) rfl rfl HS.out (fun w h0 => by go_simp) ?_
  try simp only [Act.put, List.setIfInBounds_toArray, List.set_cons_zero, List.set_cons_succ]
  refine wa_tk 1 (some 19) (.int .i64 k) rfl (by kernel_rfl) rfl rfl HS.out (fun w h0 => by go_simp) ?_
  try simp only [Act.put, List.setIfInBounds_toArray, List.set_cons_zero, List.set_cons_succ]
  refine wa_tk 2 (some 20) (.slice (some ⟨gl, o, none⟩) k cap) rfl (by kernel_rfl) rfl rfl HS.out (fun w h0 => by go_simp) ?_
  try simp only [Act.put, List.setIfInBounds_toArray, List.set_cons_zero, List.set_cons_succ]
  refine wa_tk 4 (some 22) (.slice (some ⟨gl, o, none⟩) n cap) rfl (by kernel_rfl) rfl rfl HS.out (fun w h0 => by go_simp) ?_
  try simp only [Act.put, List.setIfInBounds_toArray, List.set_cons_zero, List.set_cons_succ]
  refine wa_tk 5 (some 23) (.int .i64 k) rfl (by kernel_rfl) rfl rfl HS.out (fun w h0 => by go_simp) ?_
  try simp only [Act.put, List.setIfInBounds_toArray, List.set_cons_zero, List.set_cons_succ]
  refine wa_tk 6 (some 24) (.slice (some ⟨gl, o + k * 32, none⟩) (n - k) (cap - k)) rfl (by kernel_rfl) rfl rfl HS.out (fun w h0 => by go_simp) ?_
  try simp only [Act.put, List.setIfInBounds_toArray, List.set_cons_zero, List.set_cons_succ]
  refine wa_branch [3] (by decide +kernel) rfl ?_
  refine ar_op 3 rfl rfl (fun K hK => ?_) ar_nil
  go_simp
  go_at_call 35
  refine (C1.out _ HS.out).mono ?_
  rintro e w1 ⟨ua, hda, rfl, hb1⟩
  have HS := hid (below_tr HS.out hb1); have HR := hid (HR.out.ups hb1); clear hb1
  refine hK.out _ _ HS.out ?_
  clear hK K
  try simp only [Act.put, List.setIfInBounds_toArray, List.set_cons_zero, List.set_cons_succ]
  refine wa_branch [7] (by decide +kernel) rfl ?_
  refine ar_op 7 rfl rfl (fun K hK => ?_) ar_nil
  go_simp
  go_at_call 35
  refine (C2.out _ HS.out).mono ?_
  rintro e w2 ⟨ub, hdb, rfl, hb2⟩
  have HS := hid (below_tr HS.out hb2); have HR := hid (HR.out.ups hb2); clear hb2
  refine hK.out _ _ HS.out ?_
  clear hK K
  try simp only [Act.put, List.setIfInBounds_toArray, List.set_cons_zero, List.set_cons_succ]
  refine wa_branch [8] (by decide +kernel) rfl ?_
  refine ar_op 8 rfl rfl (fun K hK => ?_) ar_nil
  go_simp
  go_at_call 71
  refine (rnode_any t1 t2 ua ub _ hda hdb).mono ?_
  rintro e w3 ⟨us, hd, rfl, hb3⟩
  have HS := hid (below_tr HS.out hb3); have HR := hid (HR.out.ups hb3); clear hb3
  refine hK.out _ _ HS.out ?_
  clear hK K
  try simp only [Act.put, List.setIfInBounds_toArray, List.set_cons_zero, List.set_cons_succ]
  refine wa_branch [9] (by decide +kernel) rfl ?_
  refine ar_op 9 rfl rfl (fun K hK => ?_) ar_nil
  refine st_put none rfl (.tmp 2) (.tmp 26) rfl g us _ rfl rfl HR.out hd ?_
  intro w4 hc4 hr4 ho4
  have HS4 := hid (ho4.below HS.out HS.out.size hgg)
  have HC4 := hid hc4
  have hlen := hd.len'
  clear hc4 hr4 ho4
  refine hK.out _ _ HS4.out ?_
  clear hK K
  try simp only [Act.put, List.setIfInBounds_toArray, List.set_cons_zero, List.set_cons_succ]
  refine wa_done (by decide +kernel) ?_
  go_wp2
  exact bodyPost_ret (v := .agg us.toArray) (results_cell_mid Tryd.results35 _ _ g us _ (by simp only [Array.getD]; rfl) HC4.out.range Tryd.underlying35 rfl (info26 hlen)) rfl ⟨us, hd, rfl, HS4.out⟩
theorem rtree_any (N : Nat) : ∀ (ds : List (List UInt8)) (v : Value) (w : World), ds.length ≤ N → ds.length ≤ 4398046511104 → DS w v ds → Calls Tryd.prog 35 #[v] w (RetD w (tree ds)) := by
  induction N with
  | zero =>
    intro ds v w hn hm hv
    obtain rfl : ds = [] := List.eq_nil_of_length_eq_zero (by omega)
    exact rtree0_any v w hv
  | succ N ih =>
    intro ds v w hn hm hv
    by_cases h2 : ds.length < 2
    · match ds, h2 with
      | [], _ => exact rtree0_any v w hv
      | [d], _ => exact rtree1_any v d w hv
    · obtain ⟨gl, o, cap, rfl, h3, h4, h5, h6, h7⟩ := hv.pos (by omega)
      have h8 := fp_lt ds.length (by omega); have h9 := fp_pos ds.length (by omega)
      rw [tree_two ds (by omega)]
      exact rtree_step ds.length _ cap gl o _ _ w rfl (by omega) hm h8 h9 h3 h4
        (fun W hb => ih _ _ W (by rw [List.length_take]; omega) (by rw [List.length_take]; omega) ((DS.take h5 h6 h7 _ (by omega) (by omega) h4).ups hb))
        (fun W hb => ih _ _ W (by rw [List.length_drop]; omega) (by rw [List.length_drop]; omega) ((DS.drop h5 h6 h7 _ h3 h4).ups hb))
end Go.Proofs.YtaoehkoffhnidaaDoor.Dg

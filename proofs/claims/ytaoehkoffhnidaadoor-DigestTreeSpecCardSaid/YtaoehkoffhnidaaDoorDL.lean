/- Lists of digests in memory; contract of the digest of a list. -/
import Derived.Test.YtaoehkoffhnidaaDoorDJ
import Derived.Test.YtaoehkoffhnidaaDoorDK
namespace Go.Proofs.YtaoehkoffhnidaaDoor.Dg
open Go.RowKit Go
set_option linter.unusedVariables false
set_option maxRecDepth 20000
set_option linter.unusedSimpArgs false
theorem flat_drop : ∀ (ds : List (List UInt8)) (k : Nat), (∀ d ∈ ds, d.length = 32) → (ds.drop k).flatten = ds.flatten.drop (k * 32)
  | ds, 0, _ => by simp
  | [], k + 1, _ => by simp
  | d :: ds, k + 1, h => by
    have h0 := h d (by simp)
    rw [List.drop_succ_cons, flat_drop ds k (fun x hx => h x (by simp [hx])), List.flatten_cons, show (k + 1) * 32 = d.length + k * 32 from by omega, List.drop_length_add_append]
theorem flat_take : ∀ (ds : List (List UInt8)) (k : Nat), (∀ d ∈ ds, d.length = 32) → (ds.take k).flatten = ds.flatten.take (k * 32)
  | ds, 0, _ => by simp
  | [], k + 1, _ => by simp
  | d :: ds, k + 1, h => by
    have h0 := h d (by simp)
    rw [List.take_succ_cons, List.flatten_cons, flat_take ds k (fun x hx => h x (by simp [hx])), List.flatten_cons, show (k + 1) * 32 = d.length + k * 32 from by omega, List.take_length_add_append]
theorem flat_length : ∀ (ds : List (List UInt8)), (∀ d ∈ ds, d.length = 32) → ds.flatten.length = ds.length * 32
  | [], _ => rfl
  | d :: ds, h => by
    rw [List.flatten_cons, List.length_append, flat_length ds (fun x hx => h x (by simp [hx])), h d (by simp), List.length_cons]; omega
theorem flat_get (ds : List (List UInt8)) (k : Nat) (d : List UInt8) (h : ∀ d ∈ ds, d.length = 32) (hk : ds[k]? = some d) : (ds.flatten.drop (k * 32)).take 32 = d := by
  have h1 := flat_drop ds k h
  rw [← h1]
  obtain ⟨hlt, rfl⟩ := List.getElem?_eq_some_iff.1 hk
  rw [List.drop_eq_getElem_cons hlt, List.flatten_cons]
  have h2 := h ds[k] (List.getElem_mem hlt)
  rw [List.take_append, List.take_of_length_le (by omega), h2]; simp
/-- the value is a list of these digests -/
def DS (w : World) (v : Value) (ds : List (List UInt8)) : Prop := (∀ d ∈ ds, d.length = 32) ∧
  ((ds = [] ∧ ∃ p c, v = .slice p 0 c ∧ c < 9223372036854775808) ∨ ∃ g o cap, v = .slice (some ⟨g, o, none⟩) ds.length cap ∧ ds.length ≤ cap ∧ cap < 9223372036854775808 ∧ Cells w ⟨g, o, none⟩ (ds.flatten.map vb) ∧ g < w.heap.size)
theorem DS.nil (w : World) : DS w (.slice none 0 0) [] := ⟨by simp, .inl ⟨rfl, none, 0, rfl, by omega⟩⟩
theorem DS.ups {w w' : World} {v : Value} {ds : List (List UInt8)} (h : DS w v ds) (hb : Below w.heap.size w w') : DS w' v ds := by
  obtain ⟨h1, h2 | ⟨g, o, cap, h3, h4, h5, h6, h7⟩⟩ := h
  · exact ⟨h1, .inl h2⟩
  · exact ⟨h1, .inr ⟨g, o, cap, h3, h4, h5, h6.ups hb, Nat.lt_of_lt_of_le h7 hb.size⟩⟩
theorem DS.pos {w : World} {v : Value} {ds : List (List UInt8)} (h : DS w v ds) (h0 : 0 < ds.length) : ∃ g o cap, v = .slice (some ⟨g, o, none⟩) ds.length cap ∧ ds.length ≤ cap ∧ cap < 9223372036854775808 ∧ Cells w ⟨g, o, none⟩ (ds.flatten.map vb) ∧ g < w.heap.size ∧ (∀ d ∈ ds, d.length = 32) := by
  obtain ⟨h1, ⟨rfl, _⟩ | ⟨g, o, cap, h3, h4, h5, h6, h7⟩⟩ := h
  · simp at h0
  · exact ⟨g, o, cap, h3, h4, h5, h6, h7, h1⟩
theorem DS.form {w : World} {v : Value} {ds : List (List UInt8)} (h : DS w v ds) : ∃ p cap, v = .slice p ds.length cap ∧ ds.length ≤ cap ∧ cap < 9223372036854775808 := by
  obtain ⟨h1, ⟨rfl, p, c, rfl, h⟩ | ⟨g, o, cap, h3, h4, h5, h6, h7⟩⟩ := h
  · exact ⟨p, c, rfl, by simp, h⟩
  · exact ⟨_, cap, h3, h4, h5⟩
theorem DS.take {w : World} {g o cap : Nat} {ds : List (List UInt8)} (h : Cells w ⟨g, o, none⟩ (ds.flatten.map vb)) (hg : g < w.heap.size) (ha : ∀ d ∈ ds, d.length = 32) (k : Nat) (hk : k ≤ ds.length) (hc : k ≤ cap) (hm : cap < 9223372036854775808) : DS w (.slice (some ⟨g, o, none⟩) k cap) (ds.take k) := by
  refine ⟨fun d hd => ha d (List.mem_of_mem_take hd), .inr ⟨g, o, cap, by rw [List.length_take, Nat.min_eq_left hk], by rw [List.length_take]; omega, hm, ?_, hg⟩⟩
  rw [flat_take ds k ha, List.map_take]; exact Cells.take h _
theorem DS.drop {w : World} {g o cap : Nat} {ds : List (List UInt8)} (h : Cells w ⟨g, o, none⟩ (ds.flatten.map vb)) (hg : g < w.heap.size) (ha : ∀ d ∈ ds, d.length = 32) (k : Nat) (hc : ds.length ≤ cap) (hm : cap < 9223372036854775808) : DS w (.slice (some ⟨g, o + k * 32, none⟩) (ds.length - k) (cap - k)) (ds.drop k) := by
  refine ⟨fun d hd => ha d (List.mem_of_mem_drop hd), .inr ⟨g, o + k * 32, cap - k, by rw [List.length_drop], by rw [List.length_drop]; omega, by omega, ?_, hg⟩⟩
  rw [flat_drop ds k ha, List.map_drop, ← lit_add]; exact Cells.drop h _
theorem cells_elem {w : World} {g o : Nat} {ds : List (List UInt8)} (h : Cells w ⟨g, o, none⟩ (ds.flatten.map vb)) (ha : ∀ d ∈ ds, d.length = 32) {k : Nat} {d : List UInt8} (hk : ds[k]? = some d) : Cells w ⟨g, o + k * 32, none⟩ (d.map vb) ∧ IsD d (d.map vb) := by
  have h1 := flat_get ds k d ha hk
  refine ⟨?_, isD_of (ha d (List.mem_of_getElem? hk))⟩
  rw [← h1, List.map_take, List.map_drop, ← lit_add]; exact Cells.take (Cells.drop h _) _
set_option maxRecDepth 100000 in
set_option maxHeartbeats 4000000 in
theorem tree0_any (v : Value) (w : World) (hv : DS w v []) (hk : Konst w) : Calls Tryd.prog 34 #[v] w (RetD w (tree [])) := by
  obtain ⟨p, cap, rfl, h1, h2⟩ := hv.form
  have HK := hid hk; clear hk hv
  rw [tree_nil]
  go_enter Tryd.func34, Tryd.ntmps34
  go_upto_region 1 with (fail)
  refine code_alloc ?_
  intro W hz hf hb hs
  obtain ⟨g, hg⟩ : ∃ g, g = w.heap.size := ⟨_, rfl⟩
  rw [← hg] at hz hf hs ⊢
  have HR := hid (Room.mk' hz rfl hf (by omega)); have HB := hid hb
  have hgg : w.heap.size ≤ g := by omega
  clear hz hf hb hs hg
  go_wp2_with fail
  refine (Tagged_any ⟨#[101, 109, 112, 116, 121]⟩ _ [] _ (.inl ⟨rfl, rfl⟩) (HK.out.ups HB.out) (by decide) (by simp)).mono ?_
  rintro e w1 ⟨us, hd1, rfl, hb1⟩
  obtain ⟨w2, hst, hc2, hbb⟩ := (HR.out.ups hb1).store hd1
  have HC2 := hid hc2
  have HB2 := hid (hbb _ _ (by omega) (below_tr HB.out hb1))
  have hlen := hd1.len'
  clear hb1 hbb hc2
  go_wp2
  exact bodyPost_ret (v := .agg us.toArray) (results_cell_mid Tryd.results34 _ _ g us _ (by simp only [Array.getD]; rfl) HC2.out.range Tryd.underlying35 rfl (info26 hlen)) rfl ⟨us, hd1, rfl, HB2.out⟩
set_option maxRecDepth 100000 in
set_option maxHeartbeats 4000000 in
theorem tree1_any (v : Value) (d : List UInt8) (w : World) (hv : DS w v [d]) (hk : Konst w) : Calls Tryd.prog 34 #[v] w (RetD w (tree [d])) := by
  obtain ⟨gl, o, cap, rfl, h1, h2, h3, h4, h5⟩ := hv.pos (by simp)
  have HK := hid hk; have HV := hid (cells_elem h3 h5 (k := 0) rfl); have HGL := hid h4
  clear hk hv h3 h4 h5
  rw [tree_one]
  have hle : (1 : Nat) ≤ cap := h1
  clear h1
  rw [show [d].length = 1 from rfl]
  go_enter Tryd.func34, Tryd.ntmps34
  go_upto_region 1 with (fail)
  refine code_alloc ?_
  intro W hz hf hb hs
  obtain ⟨g, hg⟩ : ∃ g, g = w.heap.size := ⟨_, rfl⟩
  have HC := hid (HV.out.1.ups hb)
  rw [← hg] at hz hf hs ⊢
  have HR := hid (Room.mk' hz rfl hf (by omega)); have HB := hid hb
  have hgg : w.heap.size ≤ g := by omega
  clear hz hf hb hs hg
  have hl1 := info26 HV.out.2.len'
  go_wp2_with (refine wpList_load_mid rfl 35 (.tmp 12) rfl gl o rfl (d.map vb) _ HC.out.range Tryd.underlying35 rfl hl1 ?_)
  refine (leaf_any d _ _ HV.out.2 (HK.out.ups HB.out)).mono ?_
  rintro e w1 ⟨us, hd1, rfl, hb1⟩
  obtain ⟨w2, hst, hc2, hbb⟩ := (HR.out.ups hb1).store hd1
  have HC2 := hid hc2
  have HB2 := hid (hbb _ _ (by omega) (below_tr HB.out hb1))
  have hlen := hd1.len'
  clear hb1 hbb hc2
  go_wp2
  exact bodyPost_ret (v := .agg us.toArray) (results_cell_mid Tryd.results34 _ _ g us _ (by simp only [Array.getD]; rfl) HC2.out.range Tryd.underlying35 rfl (info26 hlen)) rfl ⟨us, hd1, rfl, HB2.out⟩
end Go.Proofs.YtaoehkoffhnidaaDoor.Dg
namespace Go.Proofs.YtaoehkoffhnidaaDoor.Dg
open Go.RowKit Go
set_option linter.unusedVariables false
set_option maxRecDepth 20000
set_option linter.unusedSimpArgs false
theorem Below.dr {w W : World} (h : Below w.heap.size w W) : Below w.heap.size w W.drew := h.drew
set_option maxRecDepth 100000 in
set_option maxHeartbeats 4000000 in
theorem tree_step (n k cap gl o : Nat) (t1 t2 : List UInt8) (w : World) (hk : Konst w) (hf : fp n = k) (h2 : 2 ≤ n) (h3 : k < n) (h0 : 0 < k) (h4 : n ≤ cap) (h5 : cap < 9223372036854775808)
    (c1 : ∀ W, Below w.heap.size w W → Calls Tryd.prog 34 #[.slice (some ⟨gl, o, none⟩) k cap] W (RetD W t1))
    (c2 : ∀ W, Below w.heap.size w W → Calls Tryd.prog 34 #[.slice (some ⟨gl, o + k * 32, none⟩) (n - k) (cap - k)] W (RetD W t2)) :
    Calls Tryd.prog 34 #[.slice (some ⟨gl, o, none⟩) n cap] w (RetD w (tagd nodeS (t1 ++ t2))) := by
  have HK := hid hk; have HF := hid hf; have C1 := hid c1; have C2 := hid c2
  clear hk hf c1 c2
  have hd : ((n : Int) == 0) = false := by simp; omega
  have hd1 : ((n : Int) == 1) = false := by simp; omega
  go_enter Tryd.func34, Tryd.ntmps34
  go_upto_region 1 with (fail)
  refine code_alloc ?_
  intro W hz hf hb hs
  obtain ⟨g, hg⟩ : ∃ g, g = w.heap.size := ⟨_, rfl⟩
  rw [← hg] at hz hf hs ⊢
  have HR := hid (Room.mk' hz rfl hf (by omega)); have HB := hid hb
  have hgg : w.heap.size ≤ g := by omega
  clear hz hf hb hs hg
  go_wp2_with fail
  refine (firstPart_any n _ h2 (by omega)).mono ?_
  rintro e w' ⟨rfl, rfl⟩
  rw [HF.out]
  have e1 : k ≤ cap := by omega
  have e2 : ¬ cap = k := by omega
  have e3 : k ≤ n := by omega
  go_wp2_with fail
  go_region_with (first
    | (go_at_call 68; refine (node_any _ _ _ _ _ hda hdb (HK.out.ups HB2.out)).mono ?_; rintro e w5 ⟨us, hd, rfl, hb5⟩; obtain ⟨w6, hst, hc6, hbb⟩ := (HR2.out.ups hb5).store hd; have hlen := hd.len'; have HB6 := hid (hbb _ _ (by omega) (below_tr HB2.out hb5)); have HC6 := hid hc6; clear hb5 hbb hc6)
    | (go_at_call_of 34 (Value.slice (some ⟨gl, o, none⟩) k cap); refine (C1.out _ HB.out.drew).mono ?_; rintro e w1 ⟨ua, hda, rfl, hb1⟩; have HB1 := hid (below_tr HB.out.drew hb1); have HR1 := hid (HR.out.ups ((below_drewN (Below.refl _ _) 1).trans hb1)); clear hb1)
    | (go_at_call 34; refine (C2.out _ HB1.out).mono ?_; rintro e w2 ⟨ub, hdb, rfl, hb2⟩; have HB2 := hid (below_tr HB1.out hb2); have HR2 := hid (HR1.out.ups hb2); clear hb2))
  all_goals
    go_wp2
    exact bodyPost_ret (v := .agg us.toArray) (results_cell_mid Tryd.results34 _ _ g us _ (by simp only [Array.getD]; rfl) HC6.out.range Tryd.underlying35 rfl (info26 hlen)) rfl ⟨us, hd, rfl, HB6.out⟩
theorem tree_any (N : Nat) : ∀ (ds : List (List UInt8)) (v : Value) (w : World), ds.length ≤ N → DS w v ds → Konst w → Calls Tryd.prog 34 #[v] w (RetD w (tree ds)) := by
  induction N with
  | zero =>
    intro ds v w hn hv hk
    obtain rfl : ds = [] := List.eq_nil_of_length_eq_zero (by omega)
    exact tree0_any v w hv hk
  | succ N ih =>
    intro ds v w hn hv hk
    by_cases h2 : ds.length < 2
    · match ds, h2 with
      | [], _ => exact tree0_any v w hv hk
      | [d], _ => exact tree1_any v d w hv hk
    · obtain ⟨gl, o, cap, rfl, h3, h4, h5, h6, h7⟩ := hv.pos (by omega)
      have h8 := fp_lt ds.length (by omega); have h9 := fp_pos ds.length (by omega)
      rw [tree_two ds (by omega)]
      exact tree_step ds.length _ cap gl o _ _ w hk rfl (by omega) h8 h9 h3 h4
        (fun W hb => ih _ _ W (by rw [List.length_take]; omega) ((DS.take h5 h6 h7 _ (by omega) (by omega) h4).ups hb) (hk.ups hb))
        (fun W hb => ih _ _ W (by rw [List.length_drop]; omega) ((DS.drop h5 h6 h7 _ h3 h4).ups hb) (hk.ups hb))
end Go.Proofs.YtaoehkoffhnidaaDoor.Dg

/- Lists of digests in memory; contract of the digest of a list. -/
import Derived.Test.YtilnecckgjjcgaaDoorDJ
import Derived.Test.YtilnecckgjjcgaaDoorDK
namespace Go.Proofs.YtilnecckgjjcgaaDoor.Dg
open Go.RowKit Go
set_option linter.unusedVariables false
set_option linter.unusedSimpArgs false
theorem flat_drop : ∀ (ds : List (List UInt8)) (k : Nat), (∀ d ∈ ds, d.length = 32) → (ds.drop k).flatten = ds.flatten.drop (k * 32)
  | ds, 0, _ => by simp
  | [], k + 1, _ => by simp
  | d :: ds, k + 1, h => by
    have h0 := h d (by simp)
    rw [List.drop_succ_cons, flat_drop ds k (fun x hx => h x (by simp [hx])), List.flatten_cons, show (k + 1) * 32 = d.length + k * 32 from by omega, List.drop_length_add_append]
theorem flat_take : ∀ (ds : List (List UInt8)) (k : Nat), (∀ d ∈ ds, d.length = 32) → (ds.take k).flatten = ds.flatten.take (k * 32)
  | ds, 0, _ => by simp
  | [], k + 1, _ => by simp
  | d :: ds, k + 1, h => by
    have h0 := h d (by simp)
    rw [List.take_succ_cons, List.flatten_cons, flat_take ds k (fun x hx => h x (by simp [hx])), List.flatten_cons, show (k + 1) * 32 = d.length + k * 32 from by omega, List.take_length_add_append]
theorem flat_length : ∀ (ds : List (List UInt8)), (∀ d ∈ ds, d.length = 32) → ds.flatten.length = ds.length * 32
  | [], _ => rfl
  | d :: ds, h => by
    rw [List.flatten_cons, List.length_append, flat_length ds (fun x hx => h x (by simp [hx])), h d (by simp), List.length_cons]; omega
theorem flat_get (ds : List (List UInt8)) (k : Nat) (d : List UInt8) (h : ∀ d ∈ ds, d.length = 32) (hk : ds[k]? = some d) : (ds.flatten.drop (k * 32)).take 32 = d := by
  have h1 := flat_drop ds k h
  rw [← h1]
  obtain ⟨hlt, rfl⟩ := List.getElem?_eq_some_iff.1 hk
  rw [List.drop_eq_getElem_cons hlt, List.flatten_cons]
  have h2 := h ds[k] (List.getElem_mem hlt)
  rw [List.take_append, List.take_of_length_le (by omega), h2]; simp
/-- the value is a list of these digests -/
def DS (w : World) (v : Value) (ds : List (List UInt8)) : Prop := (∀ d ∈ ds, d.length = 32) ∧
  ((ds = [] ∧ ∃ p c, v = .slice p 0 c ∧ c < 9223372036854775808) ∨ ∃ g o cap, v = .slice (some ⟨g, o, none⟩) ds.length cap ∧ ds.length ≤ cap ∧ cap < 9223372036854775808 ∧ Cells w ⟨g, o, none⟩ (ds.flatten.map vb) ∧ g < w.heap.size)
theorem DS.nil (w : World) : DS w (.slice none 0 0) [] := ⟨by simp, .inl ⟨rfl, none, 0, rfl, by omega⟩⟩
theorem DS.ups {w w' : World} {v : Value} {ds : List (List UInt8)} (h : DS w v ds) (hb : Below w.heap.size w w') : DS w' v ds := by
  obtain ⟨h1, h2 | ⟨g, o, cap, h3, h4, h5, h6, h7⟩⟩ := h
  · exact ⟨h1, .inl h2⟩
  · exact ⟨h1, .inr ⟨g, o, cap, h3, h4, h5, h6.ups hb, Nat.lt_of_lt_of_le h7 hb.size⟩⟩
theorem DS.pos {w : World} {v : Value} {ds : List (List UInt8)} (h : DS w v ds) (h0 : 0 < ds.length) : ∃ g o cap, v = .slice (some ⟨g, o, none⟩) ds.length cap ∧ ds.length ≤ cap ∧ cap < 9223372036854775808 ∧ Cells w ⟨g, o, none⟩ (ds.flatten.map vb) ∧ g < w.heap.size ∧ (∀ d ∈ ds, d.length = 32) := by
  obtain ⟨h1, ⟨rfl, _⟩ | ⟨g, o, cap, h3, h4, h5, h6, h7⟩⟩ := h
  · simp at h0
  · exact ⟨g, o, cap, h3, h4, h5, h6, h7, h1⟩
theorem DS.form {w : World} {v : Value} {ds : List (List UInt8)} (h : DS w v ds) : ∃ p cap, v = .slice p ds.length cap ∧ ds.length ≤ cap ∧ cap < 9223372036854775808 := by
  obtain ⟨h1, ⟨rfl, p, c, rfl, h⟩ | ⟨g, o, cap, h3, h4, h5, h6, h7⟩⟩ := h
  · exact ⟨p, c, rfl, by simp, h⟩
  · exact ⟨_, cap, h3, h4, h5⟩
theorem DS.take {w : World} {g o cap : Nat} {ds : List (List UInt8)} (h : Cells w ⟨g, o, none⟩ (ds.flatten.map vb)) (hg : g < w.heap.size) (ha : ∀ d ∈ ds, d.length = 32) (k : Nat) (hk : k ≤ ds.length) (hc : k ≤ cap) (hm : cap < 9223372036854775808) : DS w (.slice (some ⟨g, o, none⟩) k cap) (ds.take k) := by
  refine ⟨fun d hd => ha d (List.mem_of_mem_take hd), .inr ⟨g, o, cap, by rw [List.length_take, Nat.min_eq_left hk], by rw [List.length_take]; omega, hm, ?_, hg⟩⟩
  rw [flat_take ds k ha, List.map_take]; exact Cells.take h _
theorem DS.drop {w : World} {g o cap : Nat} {ds : List (List UInt8)} (h : Cells w ⟨g, o, none⟩ (ds.flatten.map vb)) (hg : g < w.heap.size) (ha : ∀ d ∈ ds, d.length = 32) (k : Nat) (hc : ds.length ≤ cap) (hm : cap < 9223372036854775808) : DS w (.slice (some ⟨g, o + k * 32, none⟩) (ds.length - k) (cap - k)) (ds.drop k) := by
  refine ⟨fun d hd => ha d (List.mem_of_mem_drop hd), .inr ⟨g, o + k * 32, cap - k, by rw [List.length_drop], by rw [List.length_drop]; omega, by omega, ?_, hg⟩⟩
  rw [flat_drop ds k ha, List.map_drop, ← lit_add]; exact Cells.drop h _
theorem cells_elem {w : World} {g o : Nat} {ds : List (List UInt8)} (h : Cells w ⟨g, o, none⟩ (ds.flatten.map vb)) (ha : ∀ d ∈ ds, d.length = 32) {k : Nat} {d : List UInt8} (hk : ds[k]? = some d) : Cells w ⟨g, o + k * 32, none⟩ (d.map vb) ∧ IsD d (d.map vb) := by
  have h1 := flat_get ds k d ha hk
  refine ⟨?_, isD_of (ha d (List.mem_of_getElem? hk))⟩
  rw [← h1, List.map_take, List.map_drop, ← lit_add]; exact Cells.take (Cells.drop h _) _
set_option maxRecDepth 100000 in
set_option maxHeartbeats 4000000 in
theorem tree0_any (v : Value) (w : World) (hv : DS w v []) (hk : Konst w) : Calls Tryd.prog 15 #[v] w (RetD w (tree [])) := by
  obtain ⟨p, cap, rfl, h1, h2⟩ := hv.form
  have HK := hid hk; clear hk hv
  rw [tree_nil]
  go_enter Tryd.func15, Tryd.ntmps15
  go_upto_region 1 with (fail)
  refine code_alloc ?_
  intro W hz hf hb hs
  obtain ⟨g, hg⟩ : ∃ g, g = w.heap.size := ⟨_, rfl⟩
  rw [← hg] at hz hf hs ⊢
  have HR := hid (Room.mk' hz rfl hf (by omega)); have HB := hid hb
  have hgg : w.heap.size ≤ g := by omega
  clear hz hf hb hs hg
  go_wp2_with fail
  refine (Tagged_any ⟨#[101, 109, 112, 116, 121]⟩ _ [] _ (.inl ⟨rfl, rfl⟩) (HK.out.ups HB.out) (by decide) (by simp)).mono ?_
  rintro e w1 ⟨us, hd1, rfl, hb1⟩
  obtain ⟨w2, hst, hc2, hbb⟩ := (HR.out.ups hb1).store hd1
  have HC2 := hid hc2
  have HB2 := hid (hbb _ _ (by omega) (below_tr HB.out hb1))
  have hlen := hd1.len'
  clear hb1 hbb hc2
  go_wp2
  exact bodyPost_ret (v := .agg us.toArray) (results_cell_mid Tryd.results15 _ _ g us _ (by simp only [Array.getD]; rfl) HC2.out.range Tryd.underlying26 rfl (info26 hlen)) rfl ⟨us, hd1, rfl, HB2.out⟩
set_option maxRecDepth 100000 in
set_option maxHeartbeats 4000000 in
theorem tree1_any (v : Value) (d : List UInt8) (w : World) (hv : DS w v [d]) (hk : Konst w) : Calls Tryd.prog 15 #[v] w (RetD w (tree [d])) := by
  obtain ⟨gl, o, cap, rfl, h1, h2, h3, h4, h5⟩ := hv.pos (by simp)
  have HK := hid hk; have HV := hid (cells_elem h3 h5 (k := 0) rfl); have HGL := hid h4
  clear hk hv h3 h4 h5
  rw [tree_one]
  have hle : (1 : Nat) ≤ cap := h1
  clear h1
  rw [show [d].length = 1 from rfl]
  go_enter Tryd.func15, Tryd.ntmps15
  go_upto_region 1 with (fail)
  refine code_alloc ?_
  intro W hz hf hb hs
  obtain ⟨g, hg⟩ : ∃ g, g = w.heap.size := ⟨_, rfl⟩
  have HC := hid (HV.out.1.ups hb)
  rw [← hg] at hz hf hs ⊢
  have HR := hid (Room.mk' hz rfl hf (by omega)); have HB := hid hb
  have hgg : w.heap.size ≤ g := by omega
  clear hz hf hb hs hg
  have hl1 := info26 HV.out.2.len'
  go_wp2_with (refine wpList_load_mid rfl 26 (.tmp 12) rfl gl o rfl (d.map vb) _ HC.out.range Tryd.underlying26 rfl hl1 ?_)
  refine (leaf_any d _ _ HV.out.2 (HK.out.ups HB.out)).mono ?_
  rintro e w1 ⟨us, hd1, rfl, hb1⟩
  obtain ⟨w2, hst, hc2, hbb⟩ := (HR.out.ups hb1).store hd1
  have HC2 := hid hc2
  have HB2 := hid (hbb _ _ (by omega) (below_tr HB.out hb1))
  have hlen := hd1.len'
  clear hb1 hbb hc2
  go_wp2
  exact bodyPost_ret (v := .agg us.toArray) (results_cell_mid Tryd.results15 _ _ g us _ (by simp only [Array.getD]; rfl) HC2.out.range Tryd.underlying26 rfl (info26 hlen)) rfl ⟨us, hd1, rfl, HB2.out⟩
end Go.Proofs.YtilnecckgjjcgaaDoor.Dg

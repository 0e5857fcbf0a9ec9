/- The padded bytes, step by step, and byte slices in memory. -/
import Derived.Test.YtaoehkoffhnidaaDoorDSta
import Derived.Laws.CopyOwn
import Derived.Laws.MakeOwn
namespace Go.Proofs.YtaoehkoffhnidaaDoor.Dg
open Go.RowKit Go
set_option linter.unusedVariables false
set_option linter.unusedSimpArgs false
/-- a slice value that holds the bytes l -/
def BS (w : World) (v : Value) (l : List UInt8) : Prop := (v = .slice none 0 0 ∧ l = []) ∨ ∃ a cap, v = .slice (some a) l.length cap ∧ l.length ≤ cap ∧ cap ≤ maxLen ∧ Cells w a (l.map vb) ∧ a.block < w.heap.size
theorem BS.ups {w w' : World} {v : Value} {l : List UInt8} (h : BS w v l) (hb : Below w.heap.size w w') : BS w' v l := by
  rcases h with h | ⟨a, cap, h1, h2, h3, h4, h5⟩
  · exact .inl h
  · exact .inr ⟨a, cap, h1, h2, h3, h4.ups hb, Nat.lt_of_lt_of_le h5 hb.size⟩
/-- the bytes after k of the last eight have been written -/
def ends (l : List UInt8) (z c k : Nat) : List UInt8 := (l ++ 128 :: List.replicate z 0) ++ (List.replicate (8 - k) 0 ++ (be8 c).drop (8 - k))
theorem be8_length (c : Nat) : (be8 c).length = 8 := by simp [be8]
theorem ends_length (l : List UInt8) (z c k : Nat) (hk : k ≤ 8) : (ends l z c k).length = l.length + z + 9 := by
  simp [ends, be8_length]; omega
theorem ends_zero (l : List UInt8) (z c : Nat) : ends l z c 0 = l ++ 128 :: List.replicate (z + 8) 0 := by
  have : (be8 c).drop 8 = [] := by rw [List.drop_eq_nil_iff]; rw [be8_length]; omega
  simp only [ends, Nat.sub_zero, this, List.append_nil]
  rw [List.append_assoc, List.cons_append, List.replicate_append_replicate]
theorem ends_set (l : List UInt8) (z c k : Nat) (hk : k < 8) : (ends l z c k).set (l.length + z + 9 - 1 - k) (UInt8.ofNat (c >>> (8 * k))) = ends l z c (k + 1) := by
  unfold ends
  have hl : (l ++ 128 :: List.replicate z (0 : UInt8)).length = l.length + z + 1 := by simp; omega
  rw [List.set_append_right _ _ (by rw [hl]; omega), hl]
  congr 1
  rw [show l.length + z + 9 - 1 - k - (l.length + z + 1) = 7 - k from by omega, show 8 - k = (7 - k) + 1 from by omega, List.replicate_succ']
  rw [List.append_assoc, List.set_append_right _ _ (by simp), List.length_replicate, Nat.sub_self, show 8 - (k + 1) = 7 - k from by omega]
  congr 1
  rw [List.singleton_append, List.set_cons_zero, List.drop_eq_getElem_cons (i := 7 - k) (by rw [be8_length]; omega)]
  congr 1
  simp [be8, show 7 - (7 - k) = k from by omega]
theorem ends_last (l : List UInt8) (n : Nat) (h : l.length = n % 64) (z : Nat) (hz : z = (119 - n % 64) % 64) : ends l z (8 * n) 8 = l ++ tail n := by
  subst hz; simp [ends, tail]
theorem splice_zero (l : List UInt8) (z : Nat) : splice ((List.replicate (l.length + z + 9) (0 : UInt8)).map vb) 0 (l.map vb) = (l ++ List.replicate (z + 9) 0).map vb := by
  simp only [splice, List.take_zero, List.nil_append, List.length_map, Nat.zero_add, List.map_append, List.map_replicate, List.drop_replicate]
  congr 2; omega
theorem set_mark (l : List UInt8) (z : Nat) : (l ++ List.replicate (z + 9) (0 : UInt8)).set l.length 128 = l ++ 128 :: List.replicate (z + 8) 0 := by
  rw [List.set_append_right _ _ (Nat.le_refl _), Nat.sub_self, List.replicate_succ, List.set_cons_zero]
theorem cells_of_block {w : World} {g : Nat} {vs : List Value} {t : TypeId} {fr : Nat × Nat} (h : w.heap[g]? = some (.cells vs.toArray t fr)) : Cells w ⟨g, 0, none⟩ vs := fun j v hj => by
  rw [lit_add, Nat.zero_add, cell_of_row w g j _ t fr h]; simpa using hj
theorem free_of_block {w : World} {g : Nat} {vs : Array Value} {t : TypeId} (h : w.heap[g]? = some (.cells vs t (0, 0))) : Free w g := fun i => frozen_of_row w g i vs t h
theorem byte_put {w : World} {g t : Nat} {l : List UInt8} {r : Int} {c : UInt8} (h : Cells w ⟨g, 0, none⟩ (l.map vb)) (hr : r = (c.toNat : Int)) : Cells (w.setCell ⟨g, t, none⟩ (.int .u8 r)) ⟨g, 0, none⟩ ((l.set t c).map vb) := by
  subst hr; rw [List.map_set]; exact h.set t _
theorem byte_ofNat (c : Nat) : ((UInt8.ofNat c).toNat : Int) = (c : Int) % 256 := by
  simp
theorem byte_there {w : World} {g : Nat} {l : List UInt8} (h : Cells w ⟨g, 0, none⟩ (l.map vb)) {j : Nat} (hj : j < l.length) : ∃ x, w.cell? ⟨g, j, none⟩ = some x :=
  ⟨_, h.at0 (List.getElem?_eq_getElem (by simpa using hj))⟩
theorem one_vb (l : List UInt8) : ∀ v ∈ l.map vb, v.oneCell' = true := by
  intro v hv; simp at hv; obtain ⟨x, _, rfl⟩ := hv; rfl
end Go.Proofs.YtaoehkoffhnidaaDoor.Dg

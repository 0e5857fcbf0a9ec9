/- The frames' common part: what the arguments read as. -/
import Derived.Test.YtnbhihjhpomenaaA
import Derived.Test.YtnbhihjhpomenaaRows
import Derived.ChangeSlices
import Derived.WalkKit
import Derived.ProofKit
import Derived.OpenShut
import Derived.Carry
import Derived.Lib.SmallJoins
import Derived.Deep.SlicePairs
namespace Go.Proofs.Ytnbhihjhpomenaa
open Go Go.ChangeShapes Go.WideShapes Go.ChangeAt Go.RowKit
set_option linter.unusedVariables false
set_option linter.unusedSimpArgs false
theorem own : ownKnob Try.prog.godebug = none := by kernel_rfl
theorem laidOut : laidOutB Try.prog = true := by kernel_rfl
theorem shape_lt {w : World} {b : Nat} {x : TypeId × Nat} (h : w.shape? b = some x) : b < w.heap.size := by
  unfold World.shape? at h
  cases hb : w.heap[b]? with
  | none => rw [hb] at h; simp at h
  | some o => exact (Array.getElem?_eq_some_iff.1 hb).1
theorem ends_map (n : Nat) (A B : Nat → Int) : T.ends ((List.range n).map fun i => (A i, B i)) = (List.range n).flatMap fun i => [A i, B i] := by
  simp [T.ends, List.flatMap_map]
theorem sc_at (n : Nat) (A B : Nat → Int) (V0 V1 : Nat → Value) (h0 : ∀ i, i < n → V0 i = .int .i64 (A i)) (h1 : ∀ i, i < n → V1 i = .int .i64 (B i)) (j : Nat) (v : Value) (h : (sc ((List.range n).map fun i => (A i, B i)))[j]? = some v) :
    ∃ i, i < n ∧ ((j = i * 2 ∧ v = V0 i) ∨ (j = i * 2 + 1 ∧ v = V1 i)) := by
  have hj : j < 2 * n := by
    have := (List.getElem?_eq_some_iff.1 h).1
    rw [sc_length] at this
    simpa using this
  refine ⟨j / 2, by omega, ?_⟩
  have hg : ((List.range n).map fun i => (A i, B i))[j / 2]? = some (A (j / 2), B (j / 2)) := by
    rw [List.getElem?_map, List.getElem?_range (by omega)]; rfl
  obtain ⟨g0, g1⟩ := sc_get _ _ _ _ hg
  rcases (by omega : j = 2 * (j / 2) ∨ j = 2 * (j / 2) + 1) with e | e
  · left
    refine ⟨by omega, ?_⟩
    rw [← e, h] at g0
    rw [h0 _ (by omega)]
    simpa using g0
  · right
    refine ⟨by omega, ?_⟩
    rw [← e, h] at g1
    rw [h1 _ (by omega)]
    simpa using g1
section
variable {H : Type} {enc : TypeId × Value → H}
/-- spans that came in -/
theorem open_spans {W : World} {base : Nat} {v1 : Value} {d1 : DataW H} {p1 : List MemPlace} (hval : Value.okWide Try.prog W .any base 22 v1) (h1 : DataW.Trod enc Try.prog W 0 (fun _ => true) true 22 v1 d1 p1) : ∃ l, SS W v1 l := by
  obtain ⟨a1, len, cap, rfl⟩ := okWide_slice Try.underlying22 hval
  obtain ⟨fuel, hf⟩ := h1
  rcases Go.Deep.open_slice_pairs Try.underlying22 Try.underlying35 (by kernel_rfl) (by kernel_rfl) (by kernel_rfl) (by kernel_rfl) (by kernel_rfl) hf with ⟨hcs, hx⟩ | ⟨a, len', cap', m, n, V0, V1, D0, D1, P0, P1, hcs, _, hl, hm, hmm, _, hcell⟩
  · simp [Value.cells] at hcs
    obtain ⟨rfl, rfl, rfl⟩ := hcs
    exact ⟨[], .inl ⟨rfl, rfl⟩⟩
  · simp [Value.cells] at hcs
    obtain ⟨rfl, rfl, rfl⟩ := hcs
    have hlm : len ≤ m := by rw [hmm]; split <;> omega
    have hh : W.has Try.prog .any base a 35 cap := by
      unfold Value.okWide at hval
      rw [Try.underlying22] at hval
      simp only [Cell.okWide, Cell.ok, Try.underlying22] at hval
      exact hval.2.2
    obtain ⟨_, hsp, row, cells, hsh, _⟩ := hh
    have each : ∀ i, i < len → ∃ q : Int × Int, V0 i = .int .i64 q.1 ∧ V1 i = .int .i64 q.2 := by
      intro i hi
      obtain ⟨c0, c1, t0, t1⟩ := hcell i (by omega)
      obtain ⟨x, e0, _, w0⟩ := DataW.trod_int Try.underlying3 t0
      obtain ⟨y, e1, _, w1⟩ := DataW.trod_int Try.underlying3 t1
      exact ⟨(x, y), by simpa using e0, by simpa using e1⟩
    obtain ⟨q, hq⟩ := Go.Deep.choose_lt each
    have hlen : ((List.range len).map fun i => ((q i).1, (q i).2)).length = len := by simp
    refine ⟨(List.range len).map fun i => ((q i).1, (q i).2), .inr ⟨a, cap, by rw [hlen], by rw [hlen]; exact hl, hm, ?_, shape_lt hsh⟩⟩
    intro j v hj
    obtain ⟨i, hi, (⟨rfl, rfl⟩ | ⟨rfl, rfl⟩)⟩ := sc_at len (fun i => (q i).1) (fun i => (q i).2) V0 V1 (fun i hi => (hq i hi).1) (fun i hi => (hq i hi).2) j v hj
    · exact (hcell i (by omega)).1
    · exact (hcell i (by omega)).2.1
end
end Go.Proofs.Ytnbhihjhpomenaa

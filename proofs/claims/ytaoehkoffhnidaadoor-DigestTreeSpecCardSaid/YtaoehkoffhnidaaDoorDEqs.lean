/- Comparison of digests. -/
import Derived.Test.YtaoehkoffhnidaaDoorDI
import Derived.Stop.BytesEq
namespace Go.Proofs.YtaoehkoffhnidaaDoor.Dg
open Go.RowKit Go
set_option linter.unusedVariables false
set_option maxRecDepth 20000
set_option linter.unusedSimpArgs false
theorem cell_vb (l : List UInt8) : l.map Extern.Stop.cell = l.map vb := rfl
theorem size5 (w : World) : (sizeOf 5).run Tryd.prog w = .ok 1 w := by
  obtain ⟨i, hi, hf⟩ := Option.map_eq_some_iff.1 Tryd.info5
  simp only [Prod.mk.injEq] at hf
  simp [sizeOf, typeInfo, hi, hf.2.1]
theorem eqD {l1 l2 : List UInt8} {v1 v2 : List Value} (h1 : IsD l1 v1) (h2 : IsD l2 v2) (w : World) : (Op.equalIn 10000 35 (.agg v1.toArray) (.agg v2.toArray)).run Tryd.prog w = .ok (l1 == l2) w := by
  have := run_equalIn_bytes (P := Tryd.prog) w 9998 35 5 32 Tryd.underlying35 Tryd.underlying5 size5 l1 l2 h1.len h2.len
  rw [cell_vb, cell_vb, ← h1.eq, ← h2.eq] at this
  exact this
theorem eqD_true {l1 l2 : List UInt8} {v1 v2 : List Value} (h1 : IsD l1 v1) (h2 : IsD l2 v2) (h : l1 = l2) : ∀ w : World, (Op.equalIn 10000 35 (.agg v1.toArray) (.agg v2.toArray)).run Tryd.prog w = .ok true w := fun w => by
  rw [eqD h1 h2, h, beq_self_eq_true]
end Go.Proofs.YtaoehkoffhnidaaDoor.Dg

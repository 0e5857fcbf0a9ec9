/- Contract: the reader's number. -/
import Derived.Test.YtgckigolbajhoaaDoorK
import Derived.Lib.SmallJoins
namespace Go.Proofs.YtgckigolbajhoaaDoor
open Go.RowKit Go
set_option linter.unusedVariables false
set_option linter.unusedSimpArgs false
theorem vn_app (l m : List UInt8) : L9.vn l ≤ L9.vn (l ++ m) := by
  refine L9.snoc_ind (M := fun m => L9.vn l ≤ L9.vn (l ++ m)) (by simp) (fun m c ih => ?_) m
  rw [← List.append_assoc, L9.vn_snoc]; omega
theorem vn_take_le (l : List UInt8) (k : Nat) : L9.vn (l.take k) ≤ L9.vn l := by
  conv => rhs; rw [← List.take_append_drop k l]
  exact vn_app _ _
theorem vn_step {l : List UInt8} {k : Nat} {c : UInt8} (h : l[k]? = some c) : L9.vn (l.take (k + 1)) = 10 * L9.vn (l.take k) + (c.toNat - 48) := by
  rw [take_snoc h, L9.vn_snoc]
/-- what the reader makes of digits -/
def nst (t : List UInt8) : L9.Stp := if (t.head? = some 48 ∧ 1 < t.length) ∨ 1099511627776 < L9.vn t then .bad else .tok 2 [] (L9.vn t) t.length
theorem u8w (c : UInt8) (h : L9.isD c = true) : IntKind.u8.wrap ((c.toNat : Int) - 48) = ((c.toNat - 48 : Nat) : Int) := by
  simp only [L9.isD, decide_eq_true_eq] at h
  have : IntKind.u8.wrap ((c.toNat : Int) - 48) = ((c.toNat : Int) - 48) % 256 := by rw [IntKind.wrap_u8]
  rw [this]; omega
end Go.Proofs.YtgckigolbajhoaaDoor

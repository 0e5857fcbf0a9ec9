/- The assertion on what was recovered. -/
import Derived.Test.YtgckigolbajhoaaDoorN2
namespace Go.Proofs.YtgckigolbajhoaaDoor
open Go.RowKit Go
theorem ta_none (w : World) : (Instr.typeAssert .nilIface 20 42 true).run Tryd.prog w = .ok (.tuple #[.int .i64 0, .bool false]) w := by
  unfold Instr.typeAssert
  go_simp
theorem ta_some (x : Value) (w : World) : (Instr.typeAssert (.iface 42 x) 20 42 true).run Tryd.prog w = .ok (.tuple #[x, .bool true]) w := by
  unfold Instr.typeAssert
  go_simp
end Go.Proofs.YtgckigolbajhoaaDoor

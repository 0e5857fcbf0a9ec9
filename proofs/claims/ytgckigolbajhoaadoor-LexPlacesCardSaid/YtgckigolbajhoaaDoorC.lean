/- Contracts: classOf, slices.Index and Contains over classes, count. -/
import Derived.Test.YtgckigolbajhoaaDoorRg
namespace Go.Proofs.YtgckigolbajhoaaDoor
open Go.RowKit Go
set_option linter.unusedVariables false
set_option linter.unusedSimpArgs false
theorem u8_lt (c : UInt8) : c.toNat < 256 := c.toNat_lt
/-- the class of a byte -/
def kl (c : UInt8) : Int := if c.toNat < 128 then cls c.toNat else 0
set_option maxRecDepth 100000 in
set_option maxHeartbeats 4000000 in
theorem classOf_any (n : Nat) (w : World) (hk : Konst w) (hn : n < 256) : Calls Tryd.prog 25 #[.int .u8 n] w fun e w' => e = .returned (.int .u8 (if n < 128 then cls n else 0)) ∧ w = w' := by
  by_cases h : n < 128
  · rw [if_pos h]
    have hc := hk.c n h
    generalize cls n = z at hc ⊢
    have h1 : ¬ (128 : Int) ≤ n := by omega
    clear hk
    go_enter Tryd.func25, Tryd.ntmps25
    go_wp2
    go_ret
    exact ⟨rfl, rfl⟩
  · rw [if_neg h]
    have h1 : (128 : Int) ≤ n := by omega
    clear hk
    go_enter Tryd.func25, Tryd.ntmps25
    go_wp2
    go_ret
    exact ⟨rfl, rfl⟩
end Go.Proofs.YtgckigolbajhoaaDoor

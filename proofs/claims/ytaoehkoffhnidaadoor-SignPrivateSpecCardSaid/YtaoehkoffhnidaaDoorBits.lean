/- The bits of a number, the highest one first, and a power over them; no program. -/
import Derived.Test.YtaoehkoffhnidaaDoorPure
import Derived.Lib.BitFns
namespace Go.Proofs.YtaoehkoffhnidaaDoor
set_option linter.unusedVariables false

/-- n bits of k, the highest one first -/
def bl (k : Nat) : Nat → List Bool
  | 0 => []
  | n + 1 => (k / 2 ^ n % 2 == 1) :: bl k n
theorem bl_length (k n : Nat) : (bl k n).length = n := by induction n with
  | zero => rfl
  | succ n ih => simp [bl, ih]
/-- a round of the power -/
def st (a c : Nat) (b : Bool) : Nat := if b then c * c % 4611686018427377339 * a % 4611686018427377339 else c * c % 4611686018427377339
def cf (a : Nat) (l : List Bool) : Nat := l.foldl (st a) 1
theorem cf_snoc (a : Nat) (l : List Bool) (b : Bool) : cf a (l ++ [b]) = st a (cf a l) b := by simp [cf]
theorem st_lt (a c : Nat) (b : Bool) : st a c b < 4611686018427377339 := by
  unfold st; split <;> exact Nat.mod_lt _ (by decide)
theorem cf_lt (a : Nat) (l : List Bool) : cf a l < 4611686018427377339 := by
  rcases List.eq_nil_or_concat l with rfl | ⟨m, b, rfl⟩
  · show 1 < _; decide
  · rw [List.concat_eq_append, cf_snoc]; exact st_lt _ _ _
theorem fold_bl (a k : Nat) : ∀ n c, c = a ^ (k / 2 ^ n) % 4611686018427377339 → (bl k n).foldl (st a) c = a ^ k % 4611686018427377339 := by
  intro n; induction n with
  | zero => intro c h; simpa [bl] using h
  | succ n ih =>
    intro c h
    rw [bl, List.foldl_cons]
    refine ih _ ?_
    have e : k / 2 ^ n / 2 = k / 2 ^ (n + 1) := by rw [Nat.div_div_eq_div_mul, Nat.pow_succ]
    have hs : c * c % 4611686018427377339 = a ^ (2 * (k / 2 ^ (n + 1))) % 4611686018427377339 := by
      rw [h, ← Nat.mul_mod, ← Nat.pow_add]; congr 2; omega
    unfold st
    rw [hs]
    by_cases hb : k / 2 ^ n % 2 = 1
    · rw [if_pos (by simpa using hb), Nat.mod_mul_mod, ← Nat.pow_succ]
      congr 2; omega
    · rw [if_neg (by simpa using hb)]
      congr 2; omega
theorem bitLenAux_lt : ∀ f x, x < 2 ^ f → x < 2 ^ (Lib.bitLenAux f x) := by
  intro f; induction f with
  | zero => intro x h; simpa [Lib.bitLenAux] using h
  | succ f ih =>
    intro x h
    rw [Lib.bitLenAux]
    by_cases hx : x = 0
    · simp [hx]
    · rw [if_neg hx, Nat.pow_add]
      have := ih (x / 2) (by rw [Nat.pow_succ] at h; omega)
      omega
theorem bitLen_lt (x : Nat) (h : x < 2 ^ 64) : x < 2 ^ Lib.bitLen x := bitLenAux_lt 64 x h
theorem bitLenAux_le : ∀ f x, Lib.bitLenAux f x ≤ f := by
  intro f; induction f with
  | zero => intro x; simp [Lib.bitLenAux]
  | succ f ih => intro x; rw [Lib.bitLenAux]; have := ih (x / 2); split <;> omega
theorem bitLen_le (x : Nat) : Lib.bitLen x ≤ 64 := bitLenAux_le 64 x
theorem cf_bl (a k : Nat) (h : k < 2 ^ 64) : cf a (bl k (Lib.bitLen k)) = mp 4611686018427377339 a k := by
  rw [mp_eq _ _ _ h]
  refine fold_bl a k _ _ ?_
  rw [Nat.div_eq_of_lt (bitLen_lt k h), Nat.pow_zero]
end Go.Proofs.YtaoehkoffhnidaaDoor

/- Numerals to the base 128, as lists of integers. -/
namespace Go.Proofs.Ytiklpimnmbjenaa

/-- the numeral of u -/
def num (u : Nat) : List Int := if u < 128 then [(u : Int)] else ((u % 128 + 128 : Nat) : Int) :: num (u / 128)
  termination_by u

theorem num_lt {u : Nat} (h : u < 128) : num u = [(u : Int)] := by rw [num]; simp [h]
theorem num_ge {u : Nat} (h : ¬ u < 128) : num u = ((u % 128 + 128 : Nat) : Int) :: num (u / 128) := by rw [num]; simp [h]

theorem num_pos (u : Nat) : 1 ≤ (num u).length := by
  rw [num]; split <;> simp

theorem num_bits (n : Nat) : ∀ u, u < 128 ^ (n + 1) → (num u).length ≤ n + 1 := by
  induction n with
  | zero => intro u h; rw [num_lt (by simpa using h)]; simp
  | succ n ih =>
    intro u h
    by_cases hu : u < 128
    · rw [num_lt hu]; simp
    · rw [num_ge hu]
      have := ih (u / 128) (by rw [Nat.div_lt_iff_lt_mul (by omega)]; rw [Nat.pow_succ] at h; omega)
      simp; omega

theorem num_ten {u : Nat} (h : u < 18446744073709551616) : (num u).length ≤ 10 := num_bits 9 u (by omega)

theorem num_mono : ∀ v u : Nat, u ≤ v → (num u).length ≤ (num v).length := by
  intro v
  induction v using Nat.strongRecOn with
  | ind v ih =>
    intro u h
    by_cases hu : u < 128
    · rw [num_lt hu]; simpa using num_pos v
    · have hv : ¬ v < 128 := by omega
      rw [num_ge hu, num_ge hv]
      have := ih (v / 128) (by omega) (u / 128) (Nat.div_le_div_right h)
      simp; omega

/-- the unsigned form -/
def uns (a : Int) : Nat := if 0 ≤ a then (2 * a).toNat else (-2 * a - 1).toNat

theorem uns_lt {a : Int} (h0 : -9223372036854775808 ≤ a) (h1 : a ≤ 9223372036854775807) : uns a < 18446744073709551616 := by
  unfold uns; split <;> omega

def sig (u : Nat) : Int := if u % 2 = 0 then (u / 2 : Nat) else -((u / 2 : Nat) : Int) - 1
theorem sig_uns (a : Int) : sig (uns a) = a := by
  unfold sig uns; split <;> split <;> omega

theorem num_room {a d s : Nat} (h1 : a < 2 ^ s) (h2 : a < 18446744073709551616) (h3 : d * 2 ^ s < 18446744073709551616) : a + d * 2 ^ s < 18446744073709551616 := by
  by_cases hd : d = 0
  · subst hd; simpa using h2
  · have hs : s < 64 := by
      apply Decidable.by_contra; intro hs
      have : 2 ^ 64 ≤ 2 ^ s := Nat.pow_le_pow_right (by omega) (by omega)
      have : 1 * 2 ^ s ≤ d * 2 ^ s := Nat.mul_le_mul_right _ (by omega)
      omega
    have e : 2 ^ 64 = 2 ^ (64 - s) * 2 ^ s := by rw [← Nat.pow_add]; congr 1; omega
    have hlt : d < 2 ^ (64 - s) := by
      apply Decidable.by_contra; intro h
      have : 2 ^ (64 - s) * 2 ^ s ≤ d * 2 ^ s := Nat.mul_le_mul_right _ (by omega)
      omega
    have : (d + 1) * 2 ^ s ≤ 2 ^ (64 - s) * 2 ^ s := Nat.mul_le_mul_right _ hlt
    rw [Nat.add_mul, Nat.one_mul] at this
    omega

end Go.Proofs.Ytiklpimnmbjenaa

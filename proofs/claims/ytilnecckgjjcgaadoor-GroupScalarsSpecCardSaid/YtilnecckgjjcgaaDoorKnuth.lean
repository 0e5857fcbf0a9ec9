/- Plain lemmas on the division of a number of two digits by one of one digit (digits of 32 bits, with a first guess); no program. -/
namespace Go.Proofs.YtilnecckgjjcgaaDoor
set_option linter.unusedVariables false

/-- between two rounds: q is no less than the quotient, r what the first digit leaves -/
structure Gu (y1 y0 u d q r : Nat) : Prop where
  rest : q * y1 + r = u
  rl : r < 4294967296
  up : u * 4294967296 + d < (q + 1) * (y1 * 4294967296 + y0)
  ql : q ≤ 4294967297
/-- behind the loop: q is the quotient -/
structure Gd (y1 y0 u d q : Nat) : Prop where
  lo : q * (y1 * 4294967296 + y0) ≤ u * 4294967296 + d
  up : u * 4294967296 + d < (q + 1) * (y1 * 4294967296 + y0)

theorem gu_start {y1 y0 u d : Nat} (h1 : 2147483648 ≤ y1) (h2 : y1 < 4294967296) (h0 : y0 < 4294967296) (hd : d < 4294967296) (hu : u < y1 * 4294967296 + y0) : Gu y1 y0 u d (u / y1) (u - u / y1 * y1) := by
  have hm : u / y1 * y1 ≤ u := Nat.div_mul_le_self u y1
  have hr : u - u / y1 * y1 < y1 := by
    have := Nat.mod_lt u (by omega : y1 > 0)
    rw [Nat.mod_eq_sub, Nat.mul_comm] at this; exact this
  have hq : u / y1 ≤ 4294967297 := by
    have : u / y1 < 4294967298 := by rw [Nat.div_lt_iff_lt_mul (by omega)]; omega
    omega
  refine ⟨by omega, by omega, ?_, hq⟩
  generalize u / y1 = q at *
  have : (q + 1) * y1 = q * y1 + y1 := by rw [Nat.add_mul, Nat.one_mul]
  have h3 : (q + 1) * (y1 * 4294967296 + y0) = (q + 1) * y1 * 4294967296 + (q + 1) * y0 := by rw [Nat.mul_add, Nat.mul_assoc]
  rw [h3, this]
  omega
theorem gu_pos {y1 y0 u d q r : Nat} (g : Gu y1 y0 u d q r) (hc : 4294967296 ≤ q ∨ r * 4294967296 + d < q * y0) : 1 ≤ q := by
  rcases hc with h | h
  · omega
  · rcases Nat.eq_zero_or_pos q with rfl | h'
    · omega
    · exact h'
theorem gu_less {y1 y0 u d q r : Nat} (g : Gu y1 y0 u d q r) (hd : d < 4294967296) (hu : u < y1 * 4294967296 + y0) (hc : 4294967296 ≤ q ∨ r * 4294967296 + d < q * y0) : u * 4294967296 + d < (q - 1 + 1) * (y1 * 4294967296 + y0) := by
  have hp := gu_pos g hc
  rw [Nat.sub_add_cancel hp]
  have hr := g.rest
  rcases hc with h | h
  · have := Nat.mul_le_mul_right (y1 * 4294967296 + y0) h
    omega
  · rw [Nat.mul_add, ← Nat.mul_assoc]
    rw [← hr, Nat.add_mul, Nat.add_assoc]
    exact Nat.add_lt_add_left h _
theorem gu_next {y1 y0 u d q r : Nat} (g : Gu y1 y0 u d q r) (hd : d < 4294967296) (hu : u < y1 * 4294967296 + y0) (hc : 4294967296 ≤ q ∨ r * 4294967296 + d < q * y0) (hr : r + y1 < 4294967296) : Gu y1 y0 u d (q - 1) (r + y1) := by
  have hp := gu_pos g hc
  have h1 := g.rest
  have h2 := g.ql
  refine ⟨?_, hr, gu_less g hd hu hc, by omega⟩
  rw [Nat.sub_mul, Nat.one_mul]
  have := Nat.mul_le_mul_right y1 hp
  omega
theorem gu_break {y1 y0 u d q r : Nat} (g : Gu y1 y0 u d q r) (h0 : y0 < 4294967296) (hd : d < 4294967296) (hu : u < y1 * 4294967296 + y0) (hc : 4294967296 ≤ q ∨ r * 4294967296 + d < q * y0) (hr : 4294967296 ≤ r + y1) : Gd y1 y0 u d (q - 1) := by
  have hp := gu_pos g hc
  have h1 := g.rest
  have h2 := g.ql
  refine ⟨?_, gu_less g hd hu hc⟩
  obtain ⟨p, rfl⟩ : ∃ p, q = p + 1 := ⟨q - 1, by omega⟩
  simp only [Nat.add_sub_cancel]
  rw [Nat.add_mul, Nat.one_mul] at h1
  have hb : p < 4294967296 := by
    rcases Nat.lt_or_ge p 4294967296 with h | h
    · exact h
    · have := Nat.mul_le_mul_right y1 h; omega
  have : p * y0 ≤ 4294967296 * 4294967296 := Nat.mul_le_mul (by omega) (by omega)
  rw [Nat.mul_add, ← Nat.mul_assoc]
  omega
theorem gu_done {y1 y0 u d q r : Nat} (g : Gu y1 y0 u d q r) (h : q * y0 ≤ r * 4294967296 + d) : Gd y1 y0 u d q := by
  have h1 := g.rest
  refine ⟨?_, g.up⟩
  rw [Nat.mul_add, ← Nat.mul_assoc]
  omega
theorem gd_quo {y1 y0 u d q : Nat} (g : Gd y1 y0 u d q) : (u * 4294967296 + d) / (y1 * 4294967296 + y0) = q :=
  Nat.div_eq_of_lt_le g.lo g.up
theorem gd_rest {y1 y0 u d q : Nat} (g : Gd y1 y0 u d q) : u * 4294967296 + d = q * (y1 * 4294967296 + y0) + (u * 4294967296 + d) % (y1 * 4294967296 + y0) := by
  have := gd_quo g
  have h2 := Nat.div_add_mod (u * 4294967296 + d) (y1 * 4294967296 + y0)
  rw [this, Nat.mul_comm] at h2
  exact h2.symm
end Go.Proofs.YtilnecckgjjcgaaDoor

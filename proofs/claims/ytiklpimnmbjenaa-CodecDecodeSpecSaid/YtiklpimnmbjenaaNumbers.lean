/- Contracts of the functions of package codec and lemmas for them: what each call returns and what becomes of memory, for every input within the bounds that each theorem states. -/
import Derived.WalkKit
import Derived.Laws.BitsAllLaws
import Derived.Test.YtiklpimnmbjenaaPure
namespace Go.Proofs.Ytiklpimnmbjenaa
open Go.RowKit Go
set_option linter.unusedVariables false
set_option linter.unusedSimpArgs false

theorem or_128 (t : Nat) : bits BinOp.or IntKind.u8 ((t : Int) % 256) 128 = ((t % 128 + 128 : Nat) : Int) := by
  have h : ∀ m : Fin 256, bits BinOp.or IntKind.u8 ((m.val : Nat) : Int) 128 = ((m.val % 128 + 128 : Nat) : Int) := by decide +kernel
  have := h ⟨t % 256, by omega⟩
  simp only at this
  rw [show ((t : Int) % 256) = ((t % 256 : Nat) : Int) from by omega, this]
  omega

theorem and_127 (t : Nat) (h : t < 256) : bits BinOp.and IntKind.u8 (t : Int) 127 = ((t % 128 : Nat) : Int) := by
  have h : ∀ m : Fin 256, bits BinOp.and IntKind.u8 ((m.val : Nat) : Int) 127 = ((m.val % 128 : Nat) : Int) := by decide +kernel
  exact h ⟨t, by omega⟩

theorem uns_bits (a : Int) (h0 : -9223372036854775808 ≤ a) (h1 : a ≤ 9223372036854775807) :
    bits BinOp.xor IntKind.u64 (IntKind.u64.wrap (IntKind.u64.wrap a * 2)) (IntKind.u64.wrap (a / 9223372036854775808)) = (uns a : Int) := by
  have wr : ∀ n : Int, IntKind.u64.wrap n = n % 18446744073709551616 := fun n => by simp [IntKind.wrap, IntKind.bits, IntKind.signed]
  unfold uns
  by_cases h : 0 ≤ a
  · rw [if_pos h]
    obtain ⟨n, rfl⟩ := Int.eq_ofNat_of_zero_le h
    rw [wr, wr, wr, show ((n : Int) % 18446744073709551616 * 2 % 18446744073709551616) = ((2 * n : Nat) : Int) from by omega, show ((n : Int) / 9223372036854775808 % 18446744073709551616) = ((0 : Nat) : Int) from by omega,
      u64_xor_nat _ _ (by omega) (by omega)]
    simp; omega
  · rw [if_neg h]
    obtain ⟨n, hn⟩ : ∃ n : Nat, (-2 * a - 1) = (n : Int) := ⟨(-2 * a - 1).toNat, by omega⟩
    rw [wr, wr, wr, show (a % 18446744073709551616 * 2 % 18446744073709551616) = ((18446744073709551615 - n : Nat) : Int) from by omega, show (a / 9223372036854775808 % 18446744073709551616) = 18446744073709551615 from by omega, hn]
    show IntKind.u64.wrap ((BitVec.ofInt 64 ((18446744073709551615 - n : Nat) : Int) ^^^ BitVec.ofInt 64 18446744073709551615).toNat : Int) = _
    have hones : BitVec.ofInt 64 18446744073709551615 = BitVec.allOnes 64 := by decide
    rw [hones, BitVec.xor_allOnes, BitVec.toNat_not, BitVec.ofInt_natCast, BitVec.toNat_ofNat, wr]
    omega

theorem sig_bits (u : Nat) (h : u < 18446744073709551616) :
    bits BinOp.xor IntKind.i64 (wrap64 ((u : Int) / 2)) (wrap64 (-wrap64 (bits BinOp.and IntKind.u64 (u : Int) 1))) = sig u := by
  have hand : bits BinOp.and IntKind.u64 (u : Int) 1 = ((u % 2 : Nat) : Int) := by
    rw [show (1 : Int) = ((1 : Nat) : Int) from rfl, u64_and_nat _ _ h (by omega), Nat.and_one_is_mod]
  rw [hand]
  have w1 : wrap64 ((u : Int) / 2) = ((u / 2 : Nat) : Int) := by unfold wrap64; omega
  rw [w1]
  have hlt : u / 2 < 9223372036854775808 := by omega
  generalize hm : u / 2 = m at *
  have wr : ∀ n : Int, IntKind.i64.wrap n = wrap64 n := fun n => by simp [wrap64, IntKind.wrap, IntKind.bits, IntKind.signed]; split <;> omega
  unfold sig
  by_cases h2 : u % 2 = 0
  · rw [if_pos h2, h2]
    show IntKind.i64.wrap ((BitVec.ofInt 64 (m : Int) ^^^ BitVec.ofInt 64 (wrap64 (-wrap64 ((0 : Nat) : Int)))).toNat : Int) = _
    have hz : BitVec.ofInt 64 (wrap64 (-wrap64 ((0 : Nat) : Int))) = 0#64 := by decide +kernel
    rw [hz, BitVec.xor_zero, BitVec.ofInt_natCast, BitVec.toNat_ofNat, wr, hm]
    unfold wrap64; omega
  · rw [if_neg h2, show u % 2 = 1 from by omega]
    show IntKind.i64.wrap ((BitVec.ofInt 64 (m : Int) ^^^ BitVec.ofInt 64 (wrap64 (-wrap64 ((1 : Nat) : Int)))).toNat : Int) = _
    have hz : BitVec.ofInt 64 (wrap64 (-wrap64 ((1 : Nat) : Int))) = BitVec.allOnes 64 := by decide +kernel
    rw [hz, BitVec.xor_allOnes, BitVec.toNat_not, BitVec.ofInt_natCast, BitVec.toNat_ofNat, wr, hm]
    unfold wrap64; omega

theorem or_digit (u d s : Nat) (hu : u < 2 ^ s) (h : u + d * 2 ^ s < 18446744073709551616) :
    bits BinOp.or IntKind.u64 (u : Int) ((d * 2 ^ s : Nat) : Int) = ((u + d * 2 ^ s : Nat) : Int) := by
  rw [u64_or_nat _ _ (by omega) (by omega)]
  congr 1
  rw [Nat.or_comm, ← Nat.shiftLeft_eq, ← Nat.shiftLeft_add_eq_or_of_lt hu, Nat.add_comm]

theorem wrap_u64' (n : Int) : IntKind.u64.wrap n = n % 18446744073709551616 := by simp [IntKind.wrap, IntKind.bits, IntKind.signed]

theorem shl_val {d s : Nat} (h : d * 2 ^ s < 18446744073709551616) : IntKind.u64.wrap ((d : Int) * 2 ^ min s 64) = ((d * 2 ^ s : Nat) : Int) := by
  by_cases h0 : d = 0
  · subst h0; simp [wrap_u64']
  · have hs : s ≤ 64 := by
      apply Nat.le_of_lt; apply Decidable.by_contra; intro hs
      have : 2 ^ 64 ≤ 2 ^ s := Nat.pow_le_pow_right (by omega) (by omega)
      have : 1 * 2 ^ s ≤ d * 2 ^ s := Nat.mul_le_mul_right _ (by omega)
      omega
    rw [Nat.min_eq_left hs, wrap_u64']
    have e : ((d : Int) * 2 ^ s) = ((d * 2 ^ s : Nat) : Int) := by push_cast; rfl
    rw [e]
    generalize d * 2 ^ s = x at *
    omega
theorem shl_ok {d s : Nat} (h : d * 2 ^ s < 18446744073709551616) : (IntKind.u64.wrap ((d : Int) * 2 ^ min s 64) / 2 ^ min s 64 != (d : Int)) = false := by
  rw [shl_val h]
  by_cases h0 : d = 0
  · subst h0; simp
  · have hs : s ≤ 64 := by
      apply Nat.le_of_lt; apply Decidable.by_contra; intro hs
      have : 2 ^ 64 ≤ 2 ^ s := Nat.pow_le_pow_right (by omega) (by omega)
      have : 1 * 2 ^ s ≤ d * 2 ^ s := Nat.mul_le_mul_right _ (by omega)
      omega
    rw [Nat.min_eq_left hs]
    have e : ((d * 2 ^ s : Nat) : Int) / 2 ^ s = (d : Int) := by
      rw [show (2 : Int) ^ s = ((2 ^ s : Nat) : Int) from by push_cast; rfl, ← Int.natCast_ediv, Nat.mul_div_cancel _ (Nat.two_pow_pos s)]
    rw [e]; simp
theorem shl_bad {d s : Nat} (h : 18446744073709551616 ≤ d * 2 ^ s) : (IntKind.u64.wrap ((d : Int) * 2 ^ min s 64) / 2 ^ min s 64 != (d : Int)) = true := by
  rw [bne_iff_ne, wrap_u64']
  by_cases hs : s ≤ 64
  · rw [Nat.min_eq_left hs]
    have e : ((d : Int) * 2 ^ s) = ((d * 2 ^ s : Nat) : Int) := by push_cast; rfl
    rw [e]
    have hx : ((d * 2 ^ s : Nat) : Int) % 18446744073709551616 = ((d * 2 ^ s % 18446744073709551616 : Nat) : Int) := by omega
    rw [hx, show (2 : Int) ^ s = ((2 ^ s : Nat) : Int) from by push_cast; rfl, ← Int.natCast_ediv]
    have hlt : d * 2 ^ s % 18446744073709551616 / 2 ^ s < d := by
      rw [Nat.div_lt_iff_lt_mul (Nat.two_pow_pos s)]
      have := Nat.mod_lt (d * 2 ^ s) (y := 18446744073709551616) (by omega)
      omega
    omega
  · rw [Nat.min_eq_right (by omega)]
    have hd : d ≠ 0 := by intro h0; subst h0; simp at h
    have : ((d : Int) * 2 ^ 64) % 18446744073709551616 = 0 := by omega
    rw [this]
    simp; omega

end Go.Proofs.Ytiklpimnmbjenaa

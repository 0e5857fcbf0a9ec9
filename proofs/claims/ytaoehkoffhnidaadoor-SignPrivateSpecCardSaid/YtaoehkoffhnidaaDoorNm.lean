/- Elements: closed under products and powers. -/
import Derived.Test.YtaoehkoffhnidaaDoorGrp
namespace Go.Proofs.YtaoehkoffhnidaaDoor
set_option linter.unusedVariables false
theorem mpP (a k : Nat) (h : k < 2 ^ 64) : mp 4611686018427377339 a k = a ^ k % 4611686018427377339 := mp_eq _ _ _ h
theorem not_dvd {x P : Nat} (h0 : x ≠ 0) (h1 : x < P) : ¬ P ∣ x := fun h => by
  have := Nat.le_of_dvd (by omega) h; omega
theorem el_iff (n P Q : Nat) (hP : P = 4611686018427377339) (hQ : Q = 2305843009213688669) : El n ↔ n < P ∧ n ^ Q % P = 1 := by
  unfold El
  rw [← hP, ← hQ, mp_eq _ _ _ (by omega)]
  refine ⟨fun h => h.2, fun h => ⟨?_, h⟩⟩
  rcases Nat.eq_zero_or_pos n with rfl | h0
  · have := h.2
    rw [Nat.zero_pow (by omega), Nat.zero_mod] at this
    omega
  · exact h0
theorem el_pow {a : Nat} (h : El a) (k : Nat) : El (a ^ k % 4611686018427377339) := by
  obtain ⟨P, hP⟩ : ∃ P, P = 4611686018427377339 := ⟨_, rfl⟩
  obtain ⟨Q, hQ⟩ : ∃ Q, Q = 2305843009213688669 := ⟨_, rfl⟩
  rw [← hP, el_iff _ P Q hP hQ]
  rw [el_iff _ P Q hP hQ] at h
  refine ⟨Nat.mod_lt _ (by omega), ?_⟩
  rw [← Nat.pow_mod, ← Nat.pow_mul, Nat.mul_comm, Nat.pow_mul, Nat.pow_mod, h.2, Nat.one_pow, Nat.mod_eq_of_lt (by omega)]
theorem el_mul {a b : Nat} (ha : El a) (hb : El b) : El (a * b % 4611686018427377339) := by
  obtain ⟨P, hP⟩ : ∃ P, P = 4611686018427377339 := ⟨_, rfl⟩
  obtain ⟨Q, hQ⟩ : ∃ Q, Q = 2305843009213688669 := ⟨_, rfl⟩
  rw [← hP, el_iff _ P Q hP hQ]
  rw [el_iff _ P Q hP hQ] at ha hb
  refine ⟨Nat.mod_lt _ (by omega), ?_⟩
  rw [← Nat.pow_mod, Nat.mul_pow, Nat.mul_mod, ha.2, hb.2, Nat.mul_one, Nat.mod_eq_of_lt (by omega)]
theorem fermatP (P Q x : Nat) (hP : P = 4611686018427377339) (hQ : Q = 2305843009213688669) (h : ¬ P ∣ x) : x ^ (2 * Q) % P = 1 := by
  have hp : Pr P := by rw [hP]; exact prP
  have := fermat1 hp h
  rwa [show P - 1 = 2 * Q by omega] at this
theorem el_square {x : Nat} (h0 : x ≠ 0) (h1 : x < 4611686018427377339) : El (x * x % 4611686018427377339) := by
  obtain ⟨P, hP⟩ : ∃ P, P = 4611686018427377339 := ⟨_, rfl⟩
  obtain ⟨Q, hQ⟩ : ∃ Q, Q = 2305843009213688669 := ⟨_, rfl⟩
  rw [← hP, el_iff _ P Q hP hQ]
  refine ⟨Nat.mod_lt _ (by omega), ?_⟩
  rw [← Nat.pow_mod, ← Nat.pow_two, ← Nat.pow_mul]
  exact fermatP P Q x hP hQ (not_dvd h0 (by omega))
theorem pow_modQ {a : Nat} (h : El a) (n : Nat) : a ^ n % 4611686018427377339 = a ^ (n % 2305843009213688669) % 4611686018427377339 := by
  obtain ⟨P, hP⟩ : ∃ P, P = 4611686018427377339 := ⟨_, rfl⟩
  obtain ⟨Q, hQ⟩ : ∃ Q, Q = 2305843009213688669 := ⟨_, rfl⟩
  rw [← hP, ← hQ]
  rw [el_iff _ P Q hP hQ] at h
  have e : a ^ (Q * (n / Q)) % P = 1 := by rw [Nat.pow_mul, Nat.pow_mod, h.2, Nat.one_pow, Nat.mod_eq_of_lt (by omega)]
  conv => lhs; rw [← Nat.div_add_mod n Q, Nat.pow_add, Nat.mul_mod, e, Nat.one_mul, Nat.mod_mod]
theorem inv_mul {a : Nat} (h : El a) : a * mp 4611686018427377339 a 2305843009213688668 % 4611686018427377339 = 1 := by
  obtain ⟨P, hP⟩ : ∃ P, P = 4611686018427377339 := ⟨_, rfl⟩
  obtain ⟨Q, hQ⟩ : ∃ Q, Q = 2305843009213688669 := ⟨_, rfl⟩
  obtain ⟨q, hq⟩ : ∃ q, q = 2305843009213688668 := ⟨_, rfl⟩
  rw [← hP, ← hq, mp_eq _ _ _ (by omega), Nat.mul_mod_mod, ← Nat.pow_succ', show q.succ = Q by omega]
  rw [el_iff _ P Q hP hQ] at h
  exact h.2
theorem el_inv {a : Nat} (h : El a) : El (mp 4611686018427377339 a 2305843009213688668) := by
  obtain ⟨q, hq⟩ : ∃ q, q = 2305843009213688668 := ⟨_, rfl⟩
  rw [← hq, mpP _ _ (by omega)]; exact el_pow h q

theorem base_ne (k : Nat) (h0 : 0 < k) (h1 : k < 2305843009213688669) : mp 4611686018427377339 4 k ≠ 1 := by
  intro h
  obtain ⟨P, hP⟩ : ∃ P, P = 4611686018427377339 := ⟨_, rfl⟩
  obtain ⟨Q, hQ⟩ : ∃ Q, Q = 2305843009213688669 := ⟨_, rfl⟩
  have e4 := el4.out
  rw [el_iff 4 P Q hP hQ] at e4
  rw [mpP _ _ (by omega), ← hP] at h
  have hq : Pr Q := by rw [hQ]; exact prQ
  have hc : Nat.gcd Q k = 1 := hq.cop (fun hd => by have := Nat.le_of_dvd h0 hd; omega)
  have := pow_gcd (p := P) (b := 4) Q k (by rw [e4.2, Nat.mod_eq_of_lt (by omega)]) (by rw [h, Nat.mod_eq_of_lt (by omega)])
  rw [hc, Nat.pow_one, Nat.mod_eq_of_lt (by omega), Nat.mod_eq_of_lt (by omega)] at this
  omega
end Go.Proofs.YtaoehkoffhnidaaDoor

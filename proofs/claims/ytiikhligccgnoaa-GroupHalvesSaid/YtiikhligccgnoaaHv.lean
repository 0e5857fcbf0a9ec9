/- The law of halves: of a number and P minus it one is an element. -/
import Derived.Test.YtiikhligccgnoaaAx
namespace Go.Proofs.Ytiikhligccgnoaa
open Go.RowKit Go
set_option linter.unusedVariables false
set_option linter.unusedSimpArgs false
theorem neg_sq (d x : Nat) : d * d % (d + x) = x * x % (d + x) := by
  rcases Nat.le_total d x with h | h
  · obtain ⟨e, rfl⟩ : ∃ e, x = d + e := ⟨x - d, by omega⟩
    have : (d + e) * (d + e) = d * d + e * (d + (d + e)) := by
      simp only [Nat.add_mul, Nat.mul_add, Nat.mul_comm d e]; omega
    rw [this, Nat.add_mul_mod_self_right]
  · obtain ⟨e, rfl⟩ : ∃ e, d = x + e := ⟨d - x, by omega⟩
    have : (x + e) * (x + e) = x * x + e * (x + e + x) := by
      simp only [Nat.add_mul, Nat.mul_add, Nat.mul_comm x e]; omega
    rw [this, Nat.add_mul_mod_self_right]
theorem neg_odd (d x k : Nat) : (d ^ (2 * k + 1) + x ^ (2 * k + 1)) % (d + x) = 0 := by
  have e : d ^ (2 * k + 1) % (d + x) = x ^ (2 * k) * d % (d + x) := by
    rw [Nat.pow_succ, Nat.pow_mul, Nat.mul_mod, Nat.pow_mod, Nat.pow_two, neg_sq, ← Nat.pow_two, ← Nat.pow_mod, ← Nat.pow_mul, ← Nat.mul_mod]
  rw [Nat.add_mod, e, ← Nat.add_mod, Nat.pow_succ, ← Nat.mul_add, Nat.mul_mod_left]
theorem root_one (P y : Nat) (hp : Pr P) (hy : y < P) (h : y * y % P = 1) : y = 1 ∨ y + 1 = P := by
  have h2 := hp.1
  rcases Nat.eq_zero_or_pos y with rfl | h0
  · rw [Nat.mul_zero, Nat.zero_mod] at h; omega
  · obtain ⟨z, rfl⟩ : ∃ z, y = z + 1 := ⟨y - 1, by omega⟩
    have hd : P ∣ (z + 1) * (z + 1) - 1 := dvd_sub_of_mod (by rw [h, Nat.mod_eq_of_lt (by omega)]) (Nat.mul_pos (by omega) (by omega))
    have e : (z + 1) * (z + 1) - 1 = z * (z + 2) := by
      simp only [Nat.add_mul, Nat.mul_add]; omega
    rw [e] at hd
    rcases hp.mul hd with hd | hd
    · rcases Nat.eq_zero_or_pos z with rfl | hz
      · exact .inl rfl
      · have := Nat.le_of_dvd hz hd; omega
    · have := Nat.le_of_dvd (by omega) hd; exact .inr (by omega)
theorem el_half (x y : Nat) (h0 : 1 ≤ x) (h1 : x < 4611686018427377339) (hy : y + x = 4611686018427377339) : El x ↔ ¬ El y := by
  obtain ⟨P, hP⟩ : ∃ P, P = 4611686018427377339 := ⟨_, rfl⟩
  obtain ⟨Q, hQ⟩ : ∃ Q, Q = 2305843009213688669 := ⟨_, rfl⟩
  have hp : Pr P := by rw [hP]; exact prP
  rw [← hP] at h1 hy
  rw [el_iff x P Q hP hQ, el_iff y P Q hP hQ]
  have hf := fermatP P Q x hP hQ (not_dvd (by omega) h1)
  have hm : ∀ n, n % P < P := fun n => Nat.mod_lt _ (by omega)
  obtain ⟨k, hk⟩ : ∃ k, Q = 2 * k + 1 := ⟨1152921504606844334, by omega⟩
  have ho := neg_odd y x k
  rw [hy, ← hk, Nat.add_mod] at ho
  have hr := root_one P (x ^ Q % P) hp (hm _) (by rw [← Nat.mul_mod, ← Nat.pow_add, show Q + Q = 2 * Q by omega]; exact hf)
  have ha := hm (x ^ Q); have hb := hm (y ^ Q)
  generalize x ^ Q % P = u at *
  generalize y ^ Q % P = v at *
  have hs : u + v = P ∨ u + v = 0 := by
    obtain ⟨c, hc⟩ := Nat.dvd_of_mod_eq_zero ho
    rcases c with _ | _ | c
    · right; omega
    · left; omega
    · have : P * (c + 1 + 1) = P * c + P + P := by simp only [Nat.mul_add, Nat.mul_one]
      omega
  have h2 := hp.1
  constructor
  · rintro ⟨_, e⟩ ⟨_, e'⟩
    omega
  · intro h
    refine ⟨h1, ?_⟩
    rcases hr with hr | hr
    · exact hr
    · exact (h ⟨by omega, by omega⟩).elim
set_option maxRecDepth 100000 in
set_option maxHeartbeats 4000000 in
theorem halves_any (n : Nat) (hn : n < 18446744073709551616) (w : World) : Calls Try.prog 7 #[.int .u64 (n : Int)] w fun e w' => e = .returned (.bool true) ∧ Below w.heap.size w w' := by
  obtain ⟨x, hx⟩ : ∃ x, n % 4611686018427377339 = x := ⟨_, rfl⟩
  have hlt : x < 4611686018427377339 := by rw [← hx]; exact Nat.mod_lt _ (by decide)
  have e : (n : Int) % 4611686018427377339 = (x : Int) := by omega
  by_cases h0 : x = 0
  · have hz : ((n : Int) % 4611686018427377339 == 0) = true := by simp; omega
    have e0 : (n : Int) % 4611686018427377339 = 0 := by omega
    have E := Lib.hid e0; clear e e0 hx h0 hlt
    have N0 : Hid (Ne 0) := Lib.hid (fun m e hm => by have := hm.1; omega)
    go_enter Try.func7, Try.ntmps7
    go_wp2_with fail
    refine (sane_any _).mono ?_
    rintro y w1 ⟨rfl, h1⟩
    go_wp2_with fail
    rw [E.out]
    refine (Check_bad 0 N0 _).mono ?_
    rintro y w2 ⟨rfl, h2⟩
    have b2 := below_tr h1 h2
    go_wp2
    go_ret
    exact ⟨rfl, b2⟩
  · have hs := Lib.hid (el_square h0 hlt)
    have HX := Lib.hid hx
    obtain ⟨s, es⟩ : ∃ s, x * x % 4611686018427377339 = s := ⟨_, rfl⟩
    rw [es] at hs
    have hel : ∀ w, Calls Try.prog 19 #[.int .u64 (n : Int)] w fun e w' => e = pb s true ∧ w = w' :=
      element_b n x s true hn HX (Lib.hid es) (by have := hs.out.1; simp only [bne_iff_ne, ne_eq]; omega)
    have HE := Lib.hid hel
    obtain ⟨y, hy⟩ : ∃ y, y + x = 4611686018427377339 := ⟨4611686018427377339 - x, by omega⟩
    have hh := el_half x y (by omega) hlt hy
    have ey : 4611686018427377339 - (x : Int) = (y : Int) := by omega
    have hz : ((n : Int) % 4611686018427377339 == 0) = false := by simp; omega
    have E := Lib.hid e; have EY := Lib.hid ey
    clear e ey hx hy es hel h0
    by_cases hc : El x
    · have hc1 := Lib.hid hc
      have hc2 : Hid (Ne (y : Int)) := Lib.hid (fun m e hm => hh.1 hc (by rwa [show y = m by omega]))
      clear hh hc
      go_enter Try.func7, Try.ntmps7
      go_wp2_with fail
      refine (sane_any _).mono ?_
      rintro z w1 ⟨rfl, h1⟩
      go_wp2_with fail
      refine (HE.out _).mono ?_
      unfold pb
      rintro z u ⟨rfl, rfl⟩
      go_wp2_with fail
      refine (Check_ok s hs _).mono ?_
      rintro z w2 ⟨rfl, h2⟩
      have b2 := below_tr h1 h2
      go_wp2_with fail
      rw [E.out]
      refine (Check_ok x hc1 _).mono ?_
      rintro z w3 ⟨rfl, h3⟩
      have b3 := below_tr b2 h3
      go_wp2_with fail
      try rw [EY.out]
      refine (Check_bad y hc2 _).mono ?_
      rintro z w4 ⟨rfl, h4⟩
      have b4 := below_tr b3 h4
      go_wp2
      go_ret
      exact ⟨rfl, b4⟩
    · have hc1 : Hid (Ne (x : Int)) := Lib.hid (fun m e hm => hc (by rwa [show x = m by omega]))
      have hc2 : Hid (El y) := Lib.hid (Classical.byContradiction fun hn => hc (hh.2 hn))
      clear hh hc
      go_enter Try.func7, Try.ntmps7
      go_wp2_with fail
      refine (sane_any _).mono ?_
      rintro z w1 ⟨rfl, h1⟩
      go_wp2_with fail
      refine (HE.out _).mono ?_
      unfold pb
      rintro z u ⟨rfl, rfl⟩
      go_wp2_with fail
      refine (Check_ok s hs _).mono ?_
      rintro z w2 ⟨rfl, h2⟩
      have b2 := below_tr h1 h2
      go_wp2_with fail
      rw [E.out]
      refine (Check_bad x hc1 _).mono ?_
      rintro z w3 ⟨rfl, h3⟩
      have b3 := below_tr b2 h3
      go_wp2_with fail
      try rw [EY.out]
      refine (Check_ok y hc2 _).mono ?_
      rintro z w4 ⟨rfl, h4⟩
      have b4 := below_tr b3 h4
      go_wp2
      go_ret
      exact ⟨rfl, b4⟩
theorem halves_i (x : Int) (h0 : (Lit.int .u64 x).wf = true) (w : World) : Calls Try.prog 7 #[.int .u64 x] w fun e w' => e = .returned (.bool true) ∧ Below w.heap.size w w' := by
  obtain ⟨m, rfl, hm⟩ := u64_nat h0
  exact halves_any m hm w
end Go.Proofs.Ytiikhligccgnoaa

/- Both implementations answer alike; the law of elements. -/
import Derived.Test.YtiikhligccgnoaaSane
namespace Go.Proofs.Ytiikhligccgnoaa
open Go.RowKit Go
set_option linter.unusedVariables false
set_option linter.unusedSimpArgs false
theorem el_or (a : Int) : (∃ n : Nat, a = (n : Int) ∧ Hid (El n)) ∨ Hid (Ne a) := by
  by_cases h : ∃ n : Nat, a = (n : Int) ∧ El n
  · obtain ⟨n, h1, h2⟩ := h; exact .inl ⟨n, h1, Lib.hid h2⟩
  · exact .inr (Lib.hid fun n e hn => h ⟨n, e, hn⟩)
theorem sc_or (a : Int) : (∃ n : Nat, a = (n : Int) ∧ Hid (Sc n)) ∨ Hid (Ns a) := by
  by_cases h : ∃ n : Nat, a = (n : Int) ∧ Sc n
  · obtain ⟨n, h1, h2⟩ := h; exact .inl ⟨n, h1, Lib.hid h2⟩
  · exact .inr (Lib.hid fun n e hn => h ⟨n, e, hn⟩)
theorem mul_both (a b : Int) : ∃ c e : Int, (∀ w, Calls Try.prog 9 #[.int .i64 a, .int .i64 b] w fun x w' => x = pz c e ∧ Below w.heap.size w w') ∧ (∀ w, Calls Try.prog 10 #[.int .i64 a, .int .i64 b] w fun x w' => x = pz c e ∧ w = w') := by
  rcases el_or a with ⟨m, rfl, ha⟩ | ha
  · rcases el_or b with ⟨n, rfl, hb⟩ | hb
    · exact ⟨_, _, Mul_ok m n ha hb, rMul_ok m n ha hb⟩
    · exact ⟨_, _, Mul_bad2 m b ha hb, rMul_bad2 m b ha hb⟩
  · exact ⟨_, _, Mul_bad1 a b ha, rMul_bad1 a b ha⟩
theorem inv_both (a : Int) : ∃ c e : Int, (∀ w, Calls Try.prog 11 #[.int .i64 a] w fun x w' => x = pz c e ∧ Below w.heap.size w w') ∧ (∀ w, Calls Try.prog 12 #[.int .i64 a] w fun x w' => x = pz c e ∧ w = w') := by
  rcases el_or a with ⟨m, rfl, ha⟩ | ha
  · exact ⟨_, _, Inv_ok m ha, rInv_ok m ha⟩
  · exact ⟨_, _, Inv_bad a ha, rInv_bad a ha⟩
theorem exp_both (a k : Int) : ∃ c e : Int, (∀ w, Calls Try.prog 13 #[.int .i64 a, .int .i64 k] w fun x w' => x = pz c e ∧ Below w.heap.size w w') ∧ (∀ w, Calls Try.prog 14 #[.int .i64 a, .int .i64 k] w fun x w' => x = pz c e ∧ w = w') := by
  rcases el_or a with ⟨m, rfl, ha⟩ | ha
  · rcases sc_or k with ⟨n, rfl, hb⟩ | hb
    · exact ⟨_, _, Exp_ok m n ha hb, rExp_ok m n ha hb⟩
    · exact ⟨_, _, Exp_arg m k ha hb, rExp_arg m k ha hb⟩
  · exact ⟨_, _, Exp_bad a k ha, rExp_bad a k ha⟩
theorem base_both (k : Int) : ∃ c e : Int, (∀ w, Calls Try.prog 15 #[.int .i64 k] w fun x w' => x = pz c e ∧ Below w.heap.size w w') ∧ (∀ w, Calls Try.prog 16 #[.int .i64 k] w fun x w' => x = pz c e ∧ w = w') := by
  rcases sc_or k with ⟨n, rfl, hb⟩ | hb
  · exact ⟨_, _, Base_ok n hb, rBase_ok n hb⟩
  · exact ⟨_, _, Base_arg k hb, rBase_arg k hb⟩
theorem check_both (a : Int) : ∃ e : Int, (∀ w, Calls Try.prog 17 #[.int .i64 a] w fun x w' => x = .returned (.int .i64 e) ∧ Below w.heap.size w w') ∧ (∀ w, Calls Try.prog 18 #[.int .i64 a] w fun x w' => x = .returned (.int .i64 e) ∧ w = w') := by
  rcases el_or a with ⟨m, rfl, ha⟩ | ha
  · exact ⟨_, Check_ok m ha, rCheck_ok m ha⟩
  · exact ⟨_, Check_bad a ha, rCheck_bad a ha⟩

set_option maxRecDepth 100000 in
set_option maxHeartbeats 2000000 in
theorem elements_any (a b k : Int) (w : World) : Calls Try.prog 3 #[.int .i64 a, .int .i64 b, .int .i64 k] w fun e w' => e = .returned (.bool true) ∧ Below w.heap.size w w' := by
  obtain ⟨c, e, m1, m2⟩ := mul_both a b
  obtain ⟨i, g, i1, i2⟩ := inv_both a
  obtain ⟨x, l, x1, x2⟩ := exp_both a k
  obtain ⟨p, n, p1, p2⟩ := base_both k
  obtain ⟨s, s1, s2⟩ := check_both a
  have M1 := Lib.hid m1; have M2 := Lib.hid m2; have I1 := Lib.hid i1; have I2 := Lib.hid i2; have X1 := Lib.hid x1; have X2 := Lib.hid x2; have P1 := Lib.hid p1; have P2 := Lib.hid p2; have S1 := Lib.hid s1; have S2 := Lib.hid s2
  clear m1 m2 i1 i2 x1 x2 p1 p2 s1 s2
  have q1 : (c == c) = true := by simp
  have q2 : (e == e) = true := by simp
  have q3 : (i == i) = true := by simp
  have q4 : (g == g) = true := by simp
  have q5 : (x == x) = true := by simp
  have q6 : (l == l) = true := by simp
  have q7 : (p == p) = true := by simp
  have q8 : (n == n) = true := by simp
  have q9 : (s == s) = true := by simp
  go_enter Try.func3, Try.ntmps3
  go_wp2_with fail
  refine (sane_any _).mono ?_
  rintro y w1 ⟨rfl, h1⟩
  go_wp2_with fail
  refine (M1.out _).mono ?_
  unfold pz
  rintro y w2 ⟨rfl, h2⟩
  have b2 := below_tr h1 h2
  go_wp2_with fail
  refine (M2.out _).mono ?_
  unfold pz
  rintro y u ⟨rfl, rfl⟩
  go_wp2_with fail
  refine (I1.out _).mono ?_
  unfold pz
  rintro y w3 ⟨rfl, h3⟩
  have b3 := below_tr b2 h3
  go_wp2_with fail
  refine (I2.out _).mono ?_
  unfold pz
  rintro y u ⟨rfl, rfl⟩
  go_wp2_with fail
  refine (X1.out _).mono ?_
  unfold pz
  rintro y w4 ⟨rfl, h4⟩
  have b4 := below_tr b3 h4
  go_wp2_with fail
  refine (X2.out _).mono ?_
  unfold pz
  rintro y u ⟨rfl, rfl⟩
  go_wp2_with fail
  refine (P1.out _).mono ?_
  unfold pz
  rintro y w5 ⟨rfl, h5⟩
  have b5 := below_tr b4 h5
  go_wp2_with fail
  refine (P2.out _).mono ?_
  unfold pz
  rintro y u ⟨rfl, rfl⟩
  go_wp2_with fail
  refine (S1.out _).mono ?_
  rintro y w6 ⟨rfl, h6⟩
  have b6 := below_tr b5 h6
  go_wp2_with fail
  refine (S2.out _).mono ?_
  rintro y u ⟨rfl, rfl⟩
  go_wp2
  go_ret
  exact ⟨rfl, b6⟩
end Go.Proofs.Ytiikhligccgnoaa

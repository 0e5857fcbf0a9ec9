/- Contracts of the reference of layer 3: sums, products and powers by doubling. -/
import Derived.Test.YtaoehkoffhnidaaDoorGrp
namespace Go.Proofs.YtaoehkoffhnidaaDoor
open Go.RowKit Go
set_option linter.unusedVariables false
set_option linter.unusedSimpArgs false

set_option maxRecDepth 100000 in
theorem rsum (a b m r : Nat) (hm : m ≤ 4611686018427387904) (ha : a < m) (hb : b < m) (hr : Hid ((a + b) % m = r)) (w : World) :
    Calls Tryd.prog 83 #[.int .i64 (a : Int), .int .i64 (b : Int), .int .i64 (m : Int)] w fun e w' => e = .returned (.int .i64 (r : Int)) ∧ w = w' := by
  by_cases h : m ≤ a + b
  · have e : (a : Int) + (b : Int) - (m : Int) = (r : Int) := by
      have := hr.out
      rw [Nat.mod_eq_sub_mod h, Nat.mod_eq_of_lt (by omega)] at this
      omega
    have hd : decide ((m : Int) ≤ (a : Int) + (b : Int)) = true := decide_eq_true (by omega)
    have E := Lib.hid e; clear e
    go_enter Tryd.func83, Tryd.ntmps83
    go_wp2
    go_ret
    exact ⟨ret_int E.out, rfl⟩
  · have e : (a : Int) + (b : Int) = (r : Int) := by
      have := hr.out
      rw [Nat.mod_eq_of_lt (by omega)] at this
      omega
    have hd : decide ((m : Int) ≤ (a : Int) + (b : Int)) = false := decide_eq_false (by omega)
    have E := Lib.hid e; clear e
    go_enter Tryd.func83, Tryd.ntmps83
    go_wp2
    go_ret
    exact ⟨ret_int E.out, rfl⟩
theorem dbl (z x y m : Nat) (hy : y % 2 = 1) : ((z + x) % m + (x + x) % m * (y / 2)) % m = (z + x * y) % m := by
  have e : z + x * y = z + x + (x + x) * (y / 2) := by
    have : y = 2 * (y / 2) + 1 := by omega
    conv => lhs; rw [this, Nat.mul_add, ← Nat.mul_assoc, Nat.mul_one]
    rw [show x * 2 = x + x by omega]; omega
  rw [e, Nat.add_mod, Nat.mod_mod, Nat.mod_mul_mod, ← Nat.add_mod]
theorem dbl0 (z x y m : Nat) (hy : y % 2 = 0) : (z + (x + x) % m * (y / 2)) % m = (z + x * y) % m := by
  have e : z + x * y = z + (x + x) * (y / 2) := by
    have : y = 2 * (y / 2) := by omega
    conv => lhs; rw [this, ← Nat.mul_assoc]
    rw [show x * 2 = x + x by omega]
  rw [e, Nat.add_mod, Nat.mod_mul_mod, ← Nat.add_mod]
set_option maxRecDepth 100000 in
set_option maxHeartbeats 1000000 in
theorem rmodular (a b m r : Nat) (hm : m ≤ 4611686018427387904) (ha : a < m) (hb : b < 9223372036854775808) (hr : Hid (a * b % m = r)) (w : World) :
    Calls Tryd.prog 82 #[.int .i64 (a : Int), .int .i64 (b : Int), .int .i64 (m : Int)] w fun e w' => e = .returned (.int .i64 (r : Int)) ∧ w = w' := by
  have hm0 : 0 < m := by omega
  go_enter Tryd.func82, Tryd.ntmps82
  go_wp2_with fail
  go_loop [0, 1, 7] (fun s0 s1 s7 => ∃ x y z : Nat, s0 = .int .i64 (x : Int) ∧ s1 = .int .i64 (y : Int) ∧ s7 = .int .i64 (z : Int) ∧ x < m ∧ y < 9223372036854775808 ∧ z < m ∧ Hid ((z + x * y) % m = r)) (fun _ s1 _ => (RowKit.intOf s1).toNat)
  case atStart => exact ⟨a, b, 0, rfl, rfl, rfl, ha, hb, hm0, Lib.hid (by rw [Nat.zero_add]; exact hr.out)⟩
  case round =>
    obtain ⟨x, y, z, rfl, rfl, rfl, hx, hy, hz, H⟩ := hrel
    by_cases h0 : 0 < y
    · have e2 : (y : Int) / 2 = ((y / 2 : Nat) : Int) := rfl
      have E2 := Lib.hid e2; clear e2
      have hxx : (x + x) % m < m := Nat.mod_lt _ hm0
      have hzx : (z + x) % m < m := Nat.mod_lt _ hm0
      obtain ⟨x2, h2⟩ : ∃ x2, (x + x) % m = x2 := ⟨_, rfl⟩
      obtain ⟨z2, h3⟩ : ∃ z2, (z + x) % m = z2 := ⟨_, rfl⟩
      rw [h2] at hxx; rw [h3] at hzx
      have H2 := Lib.hid h2; have H3 := Lib.hid h3; clear h2 h3
      by_cases hp : y % 2 = 1
      · have hn : Hid ((z2 + x2 * (y / 2)) % m = r) := Lib.hid (by rw [← H2.out, ← H3.out, dbl _ _ _ _ hp]; exact H.out)
        have hb1 : ((y : Int) % 2 == 1) = true := by simp; omega
        clear hp
        go_wp2_with fail
        refine (rsum z x m z2 hm hz hx H3 _).mono ?_
        rintro e w' ⟨rfl, rfl⟩
        go_wp2_with fail
        refine (rsum x x m x2 hm hx hx H2 _).mono ?_
        rintro e w' ⟨rfl, rfl⟩
        go_wp2
        go_round
        case rel => exact ⟨x2, y / 2, z2, rfl, rfl, rfl, hxx, by omega, hzx, hn⟩
        case measure => simp [RowKit.intOf]; omega
      · have hn : Hid ((z + x2 * (y / 2)) % m = r) := Lib.hid (by rw [← H2.out, dbl0 _ _ _ _ (by omega)]; exact H.out)
        have hb1 : ((y : Int) % 2 == 1) = false := by simp; omega
        clear hp
        go_wp2_with fail
        refine (rsum x x m x2 hm hx hx H2 _).mono ?_
        rintro e w' ⟨rfl, rfl⟩
        go_wp2
        go_round
        case rel => exact ⟨x2, y / 2, z, rfl, rfl, rfl, hxx, by omega, hz, hn⟩
        case measure => simp [RowKit.intOf]; omega
    · obtain rfl : y = 0 := by omega
      have e : z = r := by have := H.out; rw [Nat.mul_zero, Nat.add_zero, Nat.mod_eq_of_lt hz] at this; exact this
      have E := Lib.hid e; clear e
      go_wp2
      go_ret
      exact ⟨ret_int (by rw [E.out]), rfl⟩
theorem pdbl (z x y m : Nat) (hy : y % 2 = 1) : (z * x % m * (x * x % m) ^ (y / 2)) % m = (z * x ^ y) % m := by
  have e : z * x ^ y = z * x * (x * x) ^ (y / 2) := by
    have : y = 1 + 2 * (y / 2) := by omega
    conv => lhs; rw [this, Nat.pow_add, Nat.pow_mul, ← Nat.mul_assoc, Nat.pow_one, show x ^ 2 = x * x by rw [Nat.pow_succ, Nat.pow_one]]
  rw [e, Nat.mod_mul_mod, Nat.mul_mod, ← Nat.pow_mod, ← Nat.mul_mod]
theorem pdbl0 (z x y m : Nat) (hy : y % 2 = 0) : (z * (x * x % m) ^ (y / 2)) % m = (z * x ^ y) % m := by
  have e : z * x ^ y = z * (x * x) ^ (y / 2) := by
    have : y = 2 * (y / 2) := by omega
    conv => lhs; rw [this, Nat.pow_mul, show x ^ 2 = x * x by rw [Nat.pow_succ, Nat.pow_one]]
  rw [e, Nat.mul_mod, ← Nat.pow_mod, ← Nat.mul_mod]
theorem rmodP (a b r : Nat) (ha : a < 4611686018427377339) (hb : b < 4611686018427377339) (hr : Hid (a * b % 4611686018427377339 = r)) (w : World) :
    Calls Tryd.prog 82 #[.int .i64 (a : Int), .int .i64 (b : Int), .int .i64 4611686018427377339] w fun e w' => e = .returned (.int .i64 (r : Int)) ∧ w = w' :=
  rmodular a b 4611686018427377339 r (by omega) ha (by omega) hr w
theorem rmodQ (a b r : Nat) (ha : a < 2305843009213688669) (hb : b < 2305843009213688669) (hr : Hid (a * b % 2305843009213688669 = r)) (w : World) :
    Calls Tryd.prog 82 #[.int .i64 (a : Int), .int .i64 (b : Int), .int .i64 2305843009213688669] w fun e w' => e = .returned (.int .i64 (r : Int)) ∧ w = w' :=
  rmodular a b 2305843009213688669 r (by omega) ha (by omega) hr w
/-- what the loop of the reference's power keeps -/
def Pk (z x y r : Nat) : Prop := z * x ^ y % 4611686018427377339 = r
set_option maxRecDepth 100000 in
set_option maxHeartbeats 1000000 in
theorem rpower (a k : Nat) (ha : a < 4611686018427377339) (hk : k < 9223372036854775808) (w : World) :
    Calls Tryd.prog 85 #[.int .i64 (a : Int), .int .i64 (k : Int)] w fun e w' => e = .returned (.int .i64 (mp 4611686018427377339 a k : Int)) ∧ w = w' := by
  have hp0 : Pk 1 a k (mp 4611686018427377339 a k) := by unfold Pk; rw [mp_eq _ _ _ (by omega), Nat.one_mul]
  obtain ⟨r, hr⟩ : ∃ r, r = mp 4611686018427377339 a k := ⟨_, rfl⟩
  rw [← hr] at hp0 ⊢
  clear hr
  go_enter Tryd.func85, Tryd.ntmps85
  go_wp2_with fail
  go_loop [0, 1, 5] (fun s0 s1 s5 => ∃ x y z : Nat, s0 = .int .i64 (x : Int) ∧ s1 = .int .i64 (y : Int) ∧ s5 = .int .i64 (z : Int) ∧ x < 4611686018427377339 ∧ y < 9223372036854775808 ∧ z < 4611686018427377339 ∧ Pk z x y r) (fun _ s1 _ => (RowKit.intOf s1).toNat)
  case atStart => exact ⟨a, k, 1, rfl, rfl, rfl, ha, hk, by decide, hp0⟩
  case round =>
    obtain ⟨x, y, z, rfl, rfl, rfl, hx, hy, hz, H⟩ := hrel
    by_cases h0 : 0 < y
    · have e2 : (y : Int) / 2 = ((y / 2 : Nat) : Int) := rfl
      have E2 := Lib.hid e2; clear e2
      have hxx : x * x % 4611686018427377339 < 4611686018427377339 := Nat.mod_lt _ (by decide)
      have hzx : z * x % 4611686018427377339 < 4611686018427377339 := Nat.mod_lt _ (by decide)
      obtain ⟨x2, h2⟩ : ∃ x2, x * x % 4611686018427377339 = x2 := ⟨_, rfl⟩
      obtain ⟨z2, h3⟩ : ∃ z2, z * x % 4611686018427377339 = z2 := ⟨_, rfl⟩
      rw [h2] at hxx; rw [h3] at hzx
      have H2 := Lib.hid h2; have H3 := Lib.hid h3; clear h2 h3
      by_cases hp : y % 2 = 1
      · have hn : Pk z2 x2 (y / 2) r := by unfold Pk at H ⊢; rw [← H2.out, ← H3.out, pdbl _ _ _ _ hp]; exact H
        have hb1 : ((y : Int) % 2 == 1) = true := by simp; omega
        clear hp H
        go_wp2_with fail
        refine (rmodP z x z2 hz hx H3 _).mono ?_
        rintro e w' ⟨rfl, rfl⟩
        go_wp2_with fail
        refine (rmodP x x x2 hx hx H2 _).mono ?_
        rintro e w' ⟨rfl, rfl⟩
        go_wp2
        go_round
        case rel => exact ⟨x2, y / 2, z2, rfl, rfl, rfl, hxx, by omega, hzx, hn⟩
        case measure => simp [RowKit.intOf]; omega
      · have hn : Pk z x2 (y / 2) r := by unfold Pk at H ⊢; rw [← H2.out, pdbl0 _ _ _ _ (by omega)]; exact H
        have hb1 : ((y : Int) % 2 == 1) = false := by simp; omega
        clear hp H
        go_wp2_with fail
        refine (rmodP x x x2 hx hx H2 _).mono ?_
        rintro e w' ⟨rfl, rfl⟩
        go_wp2
        go_round
        case rel => exact ⟨x2, y / 2, z, rfl, rfl, rfl, hxx, by omega, hz, hn⟩
        case measure => simp [RowKit.intOf]; omega
    · obtain rfl : y = 0 := by omega
      have e : z = r := by unfold Pk at H; rw [Nat.pow_zero, Nat.mul_one, Nat.mod_eq_of_lt hz] at H; exact H
      have E := Lib.hid e; clear e H
      go_wp2
      go_ret
      exact ⟨ret_int (by rw [E.out]), rfl⟩

set_option maxRecDepth 100000 in
theorem rCheck_ok (a : Nat) (h : Hid (El a)) (w : World) : Calls Tryd.prog 54 #[.int .i64 (a : Int)] w fun e w' => e = .returned (.int .i64 0) ∧ w = w' := by
  obtain ⟨h1, h2, h3⟩ := h.out
  have H3 := Lib.hid h3; clear h3
  have hd : decide ((a : Int) < 1) = false := decide_eq_false (by omega)
  have he : decide ((4611686018427377339 : Int) ≤ (a : Int)) = false := decide_eq_false (by omega)
  go_enter Tryd.func54, Tryd.ntmps54
  go_wp2_with fail
  refine (rpower a 2305843009213688669 h2 (by omega) _).mono ?_
  rintro e w' ⟨rfl, rfl⟩
  rw [H3.out]
  go_wp2
  go_ret
  exact ⟨rfl, rfl⟩
set_option maxRecDepth 100000 in
theorem rCheck_bad (a : Int) (h : Hid (Ne a)) (w : World) : Calls Tryd.prog 54 #[.int .i64 a] w fun e w' => e = .returned (.int .i64 30) ∧ w = w' := by
  by_cases h1 : a < 1
  · have hd : decide ((a : Int) < 1) = true := decide_eq_true (by omega)
    go_enter Tryd.func54, Tryd.ntmps54
    go_wp2
    go_ret
    exact ⟨rfl, rfl⟩
  · have hd : decide ((a : Int) < 1) = false := decide_eq_false (by omega)
    by_cases h2 : 4611686018427377339 ≤ a
    · have he : decide ((4611686018427377339 : Int) ≤ (a : Int)) = true := decide_eq_true (by omega)
      go_enter Tryd.func54, Tryd.ntmps54
      go_wp2
      go_ret
      exact ⟨rfl, rfl⟩
    · obtain ⟨n, rfl⟩ := Int.eq_ofNat_of_zero_le (by omega : 0 ≤ a)
      have h3 : ¬ mp 4611686018427377339 n 2305843009213688669 = 1 := fun e => h.out n rfl ⟨by omega, by omega, e⟩
      have he : decide ((4611686018427377339 : Int) ≤ (n : Int)) = false := decide_eq_false (by omega)
      obtain ⟨x, hx⟩ : ∃ x, x = mp 4611686018427377339 n 2305843009213688669 := ⟨_, rfl⟩
      rw [← hx] at h3
      have hne : ((x : Int) != 1) = true := by simp; omega
      have HX := Lib.hid hx; clear hx
      have hlt : n < 4611686018427377339 := by omega
      go_enter Tryd.func54, Tryd.ntmps54
      go_wp2_with fail
      refine (rpower n 2305843009213688669 hlt (by omega) _).mono ?_
      rintro e w' ⟨rfl, rfl⟩
      rw [← HX.out]
      go_wp2
      go_ret
      exact ⟨rfl, rfl⟩
set_option maxRecDepth 100000 in
theorem rMul_ok (a b : Nat) (ha : Hid (El a)) (hb : Hid (El b)) (w : World) : Calls Tryd.prog 56 #[.int .i64 (a : Int), .int .i64 (b : Int)] w fun e w' => e = pz ((a * b % 4611686018427377339 : Nat) : Int) 0 ∧ w = w' := by
  obtain ⟨c, hc⟩ : ∃ c, a * b % 4611686018427377339 = c := ⟨_, rfl⟩
  rw [hc]
  have HC := Lib.hid hc; clear hc
  have a2 := ha.out.2.1; have b2 := hb.out.2.1
  go_enter Tryd.func56, Tryd.ntmps56
  go_wp2_with fail
  refine (rCheck_ok a ha _).mono ?_
  rintro e w1 ⟨rfl, rfl⟩
  go_wp2_with fail
  refine (rCheck_ok b hb _).mono ?_
  rintro e w1 ⟨rfl, rfl⟩
  go_wp2_with fail
  refine (rmodP a b c a2 b2 HC _).mono ?_
  rintro e w1 ⟨rfl, rfl⟩
  go_wp2
  go_ret2
  exact ⟨rfl, rfl⟩
set_option maxRecDepth 100000 in
theorem rMul_bad1 (a b : Int) (ha : Hid (Ne a)) (w : World) : Calls Tryd.prog 56 #[.int .i64 a, .int .i64 b] w fun e w' => e = pz 0 30 ∧ w = w' := by
  go_enter Tryd.func56, Tryd.ntmps56
  go_wp2_with fail
  refine (rCheck_bad a ha _).mono ?_
  rintro e w1 ⟨rfl, rfl⟩
  go_wp2
  go_ret2
  exact ⟨rfl, rfl⟩
set_option maxRecDepth 100000 in
theorem rMul_bad2 (a : Nat) (b : Int) (ha : Hid (El a)) (hb : Hid (Ne b)) (w : World) : Calls Tryd.prog 56 #[.int .i64 (a : Int), .int .i64 b] w fun e w' => e = pz 0 30 ∧ w = w' := by
  go_enter Tryd.func56, Tryd.ntmps56
  go_wp2_with fail
  refine (rCheck_ok a ha _).mono ?_
  rintro e w1 ⟨rfl, rfl⟩
  go_wp2_with fail
  refine (rCheck_bad b hb _).mono ?_
  rintro e w1 ⟨rfl, rfl⟩
  go_wp2
  go_ret2
  exact ⟨rfl, rfl⟩
set_option maxRecDepth 100000 in
theorem isScalar_any (k : Int) (b : Bool) (hb : Hid (sc k = b)) (w : World) : Calls Tryd.prog 81 #[.int .i64 k] w fun e w' => e = .returned (.bool b) ∧ w = w' := by
  by_cases h1 : 0 ≤ k
  · have hd : decide ((0 : Int) ≤ k) = true := decide_eq_true h1
    by_cases h2 : k < 2305843009213688669
    · have he : decide (k < 2305843009213688669) = true := decide_eq_true h2
      have e : b = true := by rw [← hb.out]; unfold sc; rw [hd, he]; rfl
      have E := Lib.hid e; clear e
      go_enter Tryd.func81, Tryd.ntmps81
      go_wp2
      go_ret
      exact ⟨by rw [E.out]; rfl, rfl⟩
    · have he : decide (k < 2305843009213688669) = false := decide_eq_false h2
      have e : b = false := by rw [← hb.out]; unfold sc; rw [hd, he]; rfl
      have E := Lib.hid e; clear e
      go_enter Tryd.func81, Tryd.ntmps81
      go_wp2
      go_ret
      exact ⟨by rw [E.out]; rfl, rfl⟩
  · have hd : decide ((0 : Int) ≤ k) = false := decide_eq_false h1
    have e : b = false := by rw [← hb.out]; unfold sc; rw [hd]; rfl
    have E := Lib.hid e; clear e
    go_enter Tryd.func81, Tryd.ntmps81
    go_wp2
    go_ret
    exact ⟨by rw [E.out]; rfl, rfl⟩
set_option maxRecDepth 100000 in
theorem rExp_bad (a k : Int) (ha : Hid (Ne a)) (w : World) : Calls Tryd.prog 55 #[.int .i64 a, .int .i64 k] w fun e w' => e = pz 0 30 ∧ w = w' := by
  go_enter Tryd.func55, Tryd.ntmps55
  go_wp2_with fail
  refine (rCheck_bad a ha _).mono ?_
  rintro e w1 ⟨rfl, rfl⟩
  go_wp2
  go_ret2
  exact ⟨rfl, rfl⟩
set_option maxRecDepth 100000 in
theorem rExp_ok (a k : Nat) (ha : Hid (El a)) (hk : Hid (Sc k)) (w : World) : Calls Tryd.prog 55 #[.int .i64 (a : Int), .int .i64 (k : Int)] w fun e w' => e = pz (mp 4611686018427377339 a k : Int) 0 ∧ w = w' := by
  have a2 := ha.out.2.1
  have hk63 : k < 9223372036854775808 := by have := hk.out; unfold Sc at this; omega
  go_enter Tryd.func55, Tryd.ntmps55
  go_wp2_with fail
  refine (rCheck_ok a ha _).mono ?_
  rintro e w1 ⟨rfl, rfl⟩
  go_wp2_with fail
  refine (isScalar_any k true (Lib.hid (sc_ok hk.out)) _).mono ?_
  rintro e w1 ⟨rfl, rfl⟩
  go_wp2_with fail
  refine (rpower a k a2 hk63 _).mono ?_
  rintro e w1 ⟨rfl, rfl⟩
  go_wp2
  go_ret2
  exact ⟨rfl, rfl⟩
set_option maxRecDepth 100000 in
theorem rExp_arg (a : Nat) (k : Int) (ha : Hid (El a)) (hk : Hid (Ns k)) (w : World) : Calls Tryd.prog 55 #[.int .i64 (a : Int), .int .i64 k] w fun e w' => e = pz 0 1 ∧ w = w' := by
  go_enter Tryd.func55, Tryd.ntmps55
  go_wp2_with fail
  refine (rCheck_ok a ha _).mono ?_
  rintro e w1 ⟨rfl, rfl⟩
  go_wp2_with fail
  refine (isScalar_any k false (Lib.hid (sc_bad hk.out)) _).mono ?_
  rintro e w1 ⟨rfl, rfl⟩
  go_wp2
  go_ret2
  exact ⟨rfl, rfl⟩
set_option maxRecDepth 100000 in
theorem rBase_ok (k : Nat) (hk : Hid (Sc k)) (w : World) : Calls Tryd.prog 43 #[.int .i64 (k : Int)] w fun e w' => e = pz (mp 4611686018427377339 4 k : Int) 0 ∧ w = w' := by
  go_enter Tryd.func43, Tryd.ntmps43
  go_wp2_with fail
  refine (rExp_ok 4 k el4 hk _).mono ?_
  unfold pz
  rintro e w1 ⟨rfl, rfl⟩
  go_wp2
  go_ret2
  exact ⟨rfl, rfl⟩
set_option maxRecDepth 100000 in
theorem rBase_arg (k : Int) (hk : Hid (Ns k)) (w : World) : Calls Tryd.prog 43 #[.int .i64 k] w fun e w' => e = pz 0 1 ∧ w = w' := by
  go_enter Tryd.func43, Tryd.ntmps43
  go_wp2_with fail
  refine (rExp_arg 4 k el4 hk _).mono ?_
  unfold pz
  rintro e w1 ⟨rfl, rfl⟩
  go_wp2
  go_ret2
  exact ⟨rfl, rfl⟩
end Go.Proofs.YtaoehkoffhnidaaDoor

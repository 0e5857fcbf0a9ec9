/- Contracts of the reference of layer 3: sums, products and powers by doubling. -/
import Derived.Test.YtilnecckgjjcgaaDoorGrp
namespace Go.Proofs.YtilnecckgjjcgaaDoor
open Go.RowKit Go
set_option linter.unusedVariables false
set_option linter.unusedSimpArgs false

set_option maxRecDepth 100000 in
theorem rsum (a b m r : Nat) (hm : m ≤ 4611686018427387904) (ha : a < m) (hb : b < m) (hr : Hid ((a + b) % m = r)) (w : World) :
    Calls Tryd.prog 59 #[.int .i64 (a : Int), .int .i64 (b : Int), .int .i64 (m : Int)] w fun e w' => e = .returned (.int .i64 (r : Int)) ∧ w = w' := by
  by_cases h : m ≤ a + b
  · have e : (a : Int) + (b : Int) - (m : Int) = (r : Int) := by
      have := hr.out
      rw [Nat.mod_eq_sub_mod h, Nat.mod_eq_of_lt (by omega)] at this
      omega
    have hd : decide ((m : Int) ≤ (a : Int) + (b : Int)) = true := decide_eq_true (by omega)
    have E := Lib.hid e; clear e
    go_enter Tryd.func59, Tryd.ntmps59
    go_wp2
    go_ret
    exact ⟨ret_int E.out, rfl⟩
  · have e : (a : Int) + (b : Int) = (r : Int) := by
      have := hr.out
      rw [Nat.mod_eq_of_lt (by omega)] at this
      omega
    have hd : decide ((m : Int) ≤ (a : Int) + (b : Int)) = false := decide_eq_false (by omega)
    have E := Lib.hid e; clear e
    go_enter Tryd.func59, Tryd.ntmps59
    go_wp2
    go_ret
    exact ⟨ret_int E.out, rfl⟩
theorem dbl (z x y m : Nat) (hy : y % 2 = 1) : ((z + x) % m + (x + x) % m * (y / 2)) % m = (z + x * y) % m := by
  have e : z + x * y = z + x + (x + x) * (y / 2) := by
    have : y = 2 * (y / 2) + 1 := by omega
    conv => lhs; rw [this, Nat.mul_add, ← Nat.mul_assoc, Nat.mul_one]
    rw [show x * 2 = x + x by omega]; omega
  rw [e, Nat.add_mod, Nat.mod_mod, Nat.mod_mul_mod, ← Nat.add_mod]
theorem dbl0 (z x y m : Nat) (hy : y % 2 = 0) : (z + (x + x) % m * (y / 2)) % m = (z + x * y) % m := by
  have e : z + x * y = z + (x + x) * (y / 2) := by
    have : y = 2 * (y / 2) := by omega
    conv => lhs; rw [this, ← Nat.mul_assoc]
    rw [show x * 2 = x + x by omega]
  rw [e, Nat.add_mod, Nat.mod_mul_mod, ← Nat.add_mod]
set_option maxRecDepth 100000 in
set_option maxHeartbeats 1000000 in
theorem rmodular (a b m r : Nat) (hm : m ≤ 4611686018427387904) (ha : a < m) (hb : b < 9223372036854775808) (hr : Hid (a * b % m = r)) (w : World) :
    Calls Tryd.prog 61 #[.int .i64 (a : Int), .int .i64 (b : Int), .int .i64 (m : Int)] w fun e w' => e = .returned (.int .i64 (r : Int)) ∧ w = w' := by
  have hm0 : 0 < m := by omega
  go_enter Tryd.func61, Tryd.ntmps61
  go_wp2_with fail
  go_loop [0, 1, 7] (fun s0 s1 s7 => ∃ x y z : Nat, s0 = .int .i64 (x : Int) ∧ s1 = .int .i64 (y : Int) ∧ s7 = .int .i64 (z : Int) ∧ x < m ∧ y < 9223372036854775808 ∧ z < m ∧ Hid ((z + x * y) % m = r)) (fun _ s1 _ => (RowKit.intOf s1).toNat)
  case atStart => exact ⟨a, b, 0, rfl, rfl, rfl, ha, hb, hm0, Lib.hid (by rw [Nat.zero_add]; exact hr.out)⟩
  case round =>
    obtain ⟨x, y, z, rfl, rfl, rfl, hx, hy, hz, H⟩ := hrel
    by_cases h0 : 0 < y
    · have e2 : (y : Int) / 2 = ((y / 2 : Nat) : Int) := rfl
      have E2 := Lib.hid e2; clear e2
      have hxx : (x + x) % m < m := Nat.mod_lt _ hm0
      have hzx : (z + x) % m < m := Nat.mod_lt _ hm0
      obtain ⟨x2, h2⟩ : ∃ x2, (x + x) % m = x2 := ⟨_, rfl⟩
      obtain ⟨z2, h3⟩ : ∃ z2, (z + x) % m = z2 := ⟨_, rfl⟩
      rw [h2] at hxx; rw [h3] at hzx
      have H2 := Lib.hid h2; have H3 := Lib.hid h3; clear h2 h3
      by_cases hp : y % 2 = 1
      · have hn : Hid ((z2 + x2 * (y / 2)) % m = r) := Lib.hid (by rw [← H2.out, ← H3.out, dbl _ _ _ _ hp]; exact H.out)
        have hb1 : ((y : Int) % 2 == 1) = true := by simp; omega
        clear hp
        go_wp2_with fail
        refine (rsum z x m z2 hm hz hx H3 _).mono ?_
        rintro e w' ⟨rfl, rfl⟩
        go_wp2_with fail
        refine (rsum x x m x2 hm hx hx H2 _).mono ?_
        rintro e w' ⟨rfl, rfl⟩
        go_wp2
        go_round
        case rel => exact ⟨x2, y / 2, z2, rfl, rfl, rfl, hxx, by omega, hzx, hn⟩
        case measure => simp [RowKit.intOf]; omega
      · have hn : Hid ((z + x2 * (y / 2)) % m = r) := Lib.hid (by rw [← H2.out, dbl0 _ _ _ _ (by omega)]; exact H.out)
        have hb1 : ((y : Int) % 2 == 1) = false := by simp; omega
        clear hp
        go_wp2_with fail
        refine (rsum x x m x2 hm hx hx H2 _).mono ?_
        rintro e w' ⟨rfl, rfl⟩
        go_wp2
        go_round
        case rel => exact ⟨x2, y / 2, z, rfl, rfl, rfl, hxx, by omega, hz, hn⟩
        case measure => simp [RowKit.intOf]; omega
    · obtain rfl : y = 0 := by omega
      have e : z = r := by have := H.out; rw [Nat.mul_zero, Nat.add_zero, Nat.mod_eq_of_lt hz] at this; exact this
      have E := Lib.hid e; clear e
      go_wp2
      go_ret
      exact ⟨ret_int (by rw [E.out]), rfl⟩
theorem rmodP (a b r : Nat) (ha : a < 4611686018427377339) (hb : b < 4611686018427377339) (hr : Hid (a * b % 4611686018427377339 = r)) (w : World) :
    Calls Tryd.prog 61 #[.int .i64 (a : Int), .int .i64 (b : Int), .int .i64 4611686018427377339] w fun e w' => e = .returned (.int .i64 (r : Int)) ∧ w = w' :=
  rmodular a b 4611686018427377339 r (by omega) ha (by omega) hr w
theorem rmodQ (a b r : Nat) (ha : a < 2305843009213688669) (hb : b < 2305843009213688669) (hr : Hid (a * b % 2305843009213688669 = r)) (w : World) :
    Calls Tryd.prog 61 #[.int .i64 (a : Int), .int .i64 (b : Int), .int .i64 2305843009213688669] w fun e w' => e = .returned (.int .i64 (r : Int)) ∧ w = w' :=
  rmodular a b 2305843009213688669 r (by omega) ha (by omega) hr w
set_option maxRecDepth 100000 in
theorem isScalar_any (k : Int) (b : Bool) (hb : Hid (sc k = b)) (w : World) : Calls Tryd.prog 58 #[.int .i64 k] w fun e w' => e = .returned (.bool b) ∧ w = w' := by
  by_cases h1 : 0 ≤ k
  · have hd : decide ((0 : Int) ≤ k) = true := decide_eq_true h1
    by_cases h2 : k < 2305843009213688669
    · have he : decide (k < 2305843009213688669) = true := decide_eq_true h2
      have e : b = true := by rw [← hb.out]; unfold sc; rw [hd, he]; rfl
      have E := Lib.hid e; clear e
      go_enter Tryd.func58, Tryd.ntmps58
      go_wp2
      go_ret
      exact ⟨by rw [E.out]; rfl, rfl⟩
    · have he : decide (k < 2305843009213688669) = false := decide_eq_false h2
      have e : b = false := by rw [← hb.out]; unfold sc; rw [hd, he]; rfl
      have E := Lib.hid e; clear e
      go_enter Tryd.func58, Tryd.ntmps58
      go_wp2
      go_ret
      exact ⟨by rw [E.out]; rfl, rfl⟩
  · have hd : decide ((0 : Int) ≤ k) = false := decide_eq_false h1
    have e : b = false := by rw [← hb.out]; unfold sc; rw [hd]; rfl
    have E := Lib.hid e; clear e
    go_enter Tryd.func58, Tryd.ntmps58
    go_wp2
    go_ret
    exact ⟨by rw [E.out]; rfl, rfl⟩
end Go.Proofs.YtilnecckgjjcgaaDoor

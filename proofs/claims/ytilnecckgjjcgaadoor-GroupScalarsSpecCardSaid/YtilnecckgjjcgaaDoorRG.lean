/- The reference of layer 3: sums and products of scalars, and the scalar of a hash. -/
import Derived.Test.YtilnecckgjjcgaaDoorScl
import Derived.Test.YtilnecckgjjcgaaDoorRF
namespace Go.Proofs.YtilnecckgjjcgaaDoor
open Go.RowKit Go
open Dg (Konst BS RetD IsD tagd vb Tagged_any rTagged_any run_index_arr)
set_option linter.unusedVariables false
set_option linter.unusedSimpArgs false
set_option maxRecDepth 100000 in
theorem rSum_ok (a b : Nat) (ha : Hid (Sc a)) (hb : Hid (Sc b)) (w : World) : Calls Tryd.prog 26 #[.int .i64 (a : Int), .int .i64 (b : Int)] w fun e w' => e = pz (((a + b) % 2305843009213688669 : Nat) : Int) 0 ∧ w = w' := by
  have a2 : a < 2305843009213688669 := ha.out
  have b2 : b < 2305843009213688669 := hb.out
  obtain ⟨r, hr⟩ : ∃ r, (a + b) % 2305843009213688669 = r := ⟨_, rfl⟩
  rw [hr]
  have HR := Lib.hid hr; clear hr
  go_enter Tryd.func26, Tryd.ntmps26
  go_wp2_with fail
  refine (isScalar_any _ true (Lib.hid (sc_ok ha.out)) _).mono ?_
  rintro e w1 ⟨rfl, rfl⟩
  go_wp2_with fail
  refine (isScalar_any _ true (Lib.hid (sc_ok hb.out)) _).mono ?_
  rintro e w1 ⟨rfl, rfl⟩
  go_wp2_with fail
  refine (rsum a b 2305843009213688669 r (by omega) a2 b2 HR _).mono ?_
  rintro e w1 ⟨rfl, rfl⟩
  go_wp2
  go_ret2
  exact ⟨rfl, rfl⟩
set_option maxRecDepth 100000 in
theorem rProduct_ok (a b : Nat) (ha : Hid (Sc a)) (hb : Hid (Sc b)) (w : World) : Calls Tryd.prog 28 #[.int .i64 (a : Int), .int .i64 (b : Int)] w fun e w' => e = pz ((a * b % 2305843009213688669 : Nat) : Int) 0 ∧ w = w' := by
  have a2 : a < 2305843009213688669 := ha.out
  have b2 : b < 2305843009213688669 := hb.out
  obtain ⟨r, hr⟩ : ∃ r, a * b % 2305843009213688669 = r := ⟨_, rfl⟩
  rw [hr]
  have HR := Lib.hid hr; clear hr
  go_enter Tryd.func28, Tryd.ntmps28
  go_wp2_with fail
  refine (isScalar_any _ true (Lib.hid (sc_ok ha.out)) _).mono ?_
  rintro e w1 ⟨rfl, rfl⟩
  go_wp2_with fail
  refine (isScalar_any _ true (Lib.hid (sc_ok hb.out)) _).mono ?_
  rintro e w1 ⟨rfl, rfl⟩
  go_wp2_with fail
  refine (rmodQ a b r a2 b2 HR _).mono ?_
  rintro e w1 ⟨rfl, rfl⟩
  go_wp2
  go_ret2
  exact ⟨rfl, rfl⟩
set_option maxRecDepth 100000 in
theorem rSum_arg (a b : Int) (h : Hid ((sc a && sc b) = false)) (w : World) : Calls Tryd.prog 26 #[.int .i64 a, .int .i64 b] w fun e w' => e = pz 0 1 ∧ w = w' := by
  obtain ⟨x, hx⟩ : ∃ x, sc a = x := ⟨_, rfl⟩
  obtain ⟨y, hy⟩ : ∃ y, sc b = y := ⟨_, rfl⟩
  have hxy : (x && y) = false := by rw [← hx, ← hy]; exact h.out
  have HX := Lib.hid hx; have HY := Lib.hid hy; clear hx hy h
  cases x
  · go_enter Tryd.func26, Tryd.ntmps26
    go_wp2_with fail
    refine (isScalar_any _ false HX _).mono ?_
    rintro e w1 ⟨rfl, rfl⟩
    go_wp2
    go_ret2
    exact ⟨rfl, rfl⟩
  · obtain rfl : y = false := by simpa using hxy
    go_enter Tryd.func26, Tryd.ntmps26
    go_wp2_with fail
    refine (isScalar_any _ true HX _).mono ?_
    rintro e w1 ⟨rfl, rfl⟩
    go_wp2_with fail
    refine (isScalar_any _ false HY _).mono ?_
    rintro e w1 ⟨rfl, rfl⟩
    go_wp2
    go_ret2
    exact ⟨rfl, rfl⟩
set_option maxRecDepth 100000 in
theorem rProduct_arg (a b : Int) (h : Hid ((sc a && sc b) = false)) (w : World) : Calls Tryd.prog 28 #[.int .i64 a, .int .i64 b] w fun e w' => e = pz 0 1 ∧ w = w' := by
  obtain ⟨x, hx⟩ : ∃ x, sc a = x := ⟨_, rfl⟩
  obtain ⟨y, hy⟩ : ∃ y, sc b = y := ⟨_, rfl⟩
  have hxy : (x && y) = false := by rw [← hx, ← hy]; exact h.out
  have HX := Lib.hid hx; have HY := Lib.hid hy; clear hx hy h
  cases x
  · go_enter Tryd.func28, Tryd.ntmps28
    go_wp2_with fail
    refine (isScalar_any _ false HX _).mono ?_
    rintro e w1 ⟨rfl, rfl⟩
    go_wp2
    go_ret2
    exact ⟨rfl, rfl⟩
  · obtain rfl : y = false := by simpa using hxy
    go_enter Tryd.func28, Tryd.ntmps28
    go_wp2_with fail
    refine (isScalar_any _ true HX _).mono ?_
    rintro e w1 ⟨rfl, rfl⟩
    go_wp2_with fail
    refine (isScalar_any _ false HY _).mono ?_
    rintro e w1 ⟨rfl, rfl⟩
    go_wp2
    go_ret2
    exact ⟨rfl, rfl⟩
/-- both implementations of sums and of products answer alike -/
theorem sc_both (a b : Int) : ((∃ m n : Nat, a = (m : Int) ∧ b = (n : Int) ∧ Hid (Sc m) ∧ Hid (Sc n)) ∨ Hid ((sc a && sc b) = false)) := by
  by_cases h : (sc a && sc b) = true
  · obtain ⟨h1, h2⟩ := Bool.and_eq_true_iff.1 h
    unfold sc at h1 h2
    simp only [Bool.and_eq_true, decide_eq_true_eq] at h1 h2
    exact .inl ⟨a.toNat, b.toNat, by omega, by omega, Lib.hid (by unfold Sc; omega), Lib.hid (by unfold Sc; omega)⟩
  · exact .inr (Lib.hid (by simpa using h))
theorem sum_both (a b : Int) : ∃ c e : Int, (∀ w, Calls Tryd.prog 25 #[.int .i64 a, .int .i64 b] w fun x w' => x = pz c e ∧ Below w.heap.size w w') ∧ (∀ w, Calls Tryd.prog 26 #[.int .i64 a, .int .i64 b] w fun x w' => x = pz c e ∧ w = w') := by
  rcases sc_both a b with ⟨m, n, rfl, rfl, h1, h2⟩ | h
  · exact ⟨_, _, Sum_ok m n h1 h2, rSum_ok m n h1 h2⟩
  · exact ⟨_, _, Sum_arg a b h, rSum_arg a b h⟩
theorem product_both (a b : Int) : ∃ c e : Int, (∀ w, Calls Tryd.prog 27 #[.int .i64 a, .int .i64 b] w fun x w' => x = pz c e ∧ Below w.heap.size w w') ∧ (∀ w, Calls Tryd.prog 28 #[.int .i64 a, .int .i64 b] w fun x w' => x = pz c e ∧ w = w') := by
  rcases sc_both a b with ⟨m, n, rfl, rfl, h1, h2⟩ | h
  · exact ⟨_, _, Product_ok m n h1 h2, rProduct_ok m n h1 h2⟩
  · exact ⟨_, _, Product_arg a b h, rProduct_arg a b h⟩
end Go.Proofs.YtilnecckgjjcgaaDoor

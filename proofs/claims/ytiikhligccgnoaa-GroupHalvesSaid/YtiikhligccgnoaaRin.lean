/- The law of scalars: they are a commutative ring. -/
import Derived.Test.YtiikhligccgnoaaEls
namespace Go.Proofs.Ytiikhligccgnoaa
open Go.RowKit Go
set_option linter.unusedVariables false
set_option linter.unusedSimpArgs false
theorem i64_and62 (n : Int) : bits .and .i64 n 4611686018427387903 = n % 4611686018427387904 := by
  have h62 : (BitVec.ofInt 64 4611686018427387903).toNat = 2 ^ 62 - 1 := by decide
  have key : (BitVec.ofInt 64 n &&& BitVec.ofInt 64 4611686018427387903).toNat = (n % ((2 ^ 64 : Nat) : Int)).toNat % 2 ^ 62 := by
    rw [BitVec.toNat_and, BitVec.toNat_ofInt, h62, Nat.and_two_pow_sub_one_eq_mod]
  show IntKind.i64.wrap ((BitVec.ofInt 64 n &&& BitVec.ofInt 64 4611686018427387903).toNat : Nat) = n % 4611686018427387904
  rw [key, IntKind.wrap_i64]
  omega
/-- the scalar that a number determines -/
def ofN (n : Int) : Nat := (n % 4611686018427387904 % 2305843009213688669).toNat
theorem ofN_sc (n : Int) : Hid (Sc (ofN n)) := Lib.hid (by unfold Sc ofN; omega)
set_option maxRecDepth 100000 in
theorem Of_any (n : Int) (w : World) : Calls Try.prog 20 #[.int .i64 n] w fun e w' => e = .returned (.int .i64 (ofN n : Int)) ∧ w = w' := by
  have h1 : 0 ≤ n % 4611686018427387904 := by omega
  have h2 : n % 4611686018427387904 < 4611686018427387904 := by omega
  obtain ⟨z, hz⟩ : ∃ z, z = n % 4611686018427387904 := ⟨_, rfl⟩
  have e1 : bits .and .i64 n 4611686018427387903 = z := by rw [i64_and62, hz]
  have e2 : z % 2305843009213688669 = (ofN n : Int) := by unfold ofN; rw [← hz]; omega
  rw [← hz] at h1 h2
  have E2 := Lib.hid e2; clear e2 hz
  go_enter Try.func20, Try.ntmps20
  go_wp2
  go_ret
  exact ⟨ret_int E2.out, rfl⟩
set_option maxRecDepth 100000 in
theorem add_any (a b r : Nat) (ha : Hid (Sc a)) (hb : Hid (Sc b)) (hr : Hid ((a + b) % 2305843009213688669 = r)) (w : World) : Calls Try.prog 23 #[.int .i64 (a : Int), .int .i64 (b : Int)] w fun e w' => e = .returned (.int .i64 (r : Int)) ∧ Below w.heap.size w w' := by
  go_enter Try.func23, Try.ntmps23
  go_wp2_with fail
  refine (Sum_ok a b ha hb _).mono ?_
  unfold pz
  rintro e w1 ⟨rfl, h1⟩
  rw [hr.out]
  go_wp2
  go_ret
  exact ⟨rfl, h1⟩
set_option maxRecDepth 100000 in
theorem times_any (a b r : Nat) (ha : Hid (Sc a)) (hb : Hid (Sc b)) (hr : Hid (a * b % 2305843009213688669 = r)) (w : World) : Calls Try.prog 24 #[.int .i64 (a : Int), .int .i64 (b : Int)] w fun e w' => e = .returned (.int .i64 (r : Int)) ∧ Below w.heap.size w w' := by
  go_enter Try.func24, Try.ntmps24
  go_wp2_with fail
  refine (Product_ok a b ha hb _).mono ?_
  unfold pz
  rintro e w1 ⟨rfl, h1⟩
  rw [hr.out]
  go_wp2
  go_ret
  exact ⟨rfl, h1⟩
theorem sc_mod (n : Nat) : Sc (n % 2305843009213688669) := Nat.mod_lt _ (by decide)
theorem sc0 : Hid (Sc 0) := Lib.hid (by unfold Sc; omega)
theorem sc1' : Hid (Sc 1) := Lib.hid (by unfold Sc; omega)
set_option maxRecDepth 100000 in
set_option maxHeartbeats 4000000 in
theorem ring_any (x y z : Int) (w : World) : Calls Try.prog 6 #[.int .i64 x, .int .i64 y, .int .i64 z] w fun e w' => e = .returned (.bool true) ∧ Below w.heap.size w w' := by
  have sa := ofN_sc x; have sb := ofN_sc y; have sc := ofN_sc z
  have ox := Of_any x; have oy := Of_any y; have oz := Of_any z
  generalize ofN x = a at *
  generalize ofN y = b at *
  generalize ofN z = c at *
  have OX := Lib.hid ox; have OY := Lib.hid oy; have OZ := Lib.hid oz; clear ox oy oz
  obtain ⟨ab, eab⟩ : ∃ ab, (a + b) % 2305843009213688669 = ab := ⟨_, rfl⟩
  have sab : Hid (Sc ab) := Lib.hid (by rw [← eab]; exact sc_mod _)
  obtain ⟨bc, ebc⟩ : ∃ bc, (b + c) % 2305843009213688669 = bc := ⟨_, rfl⟩
  have sbc : Hid (Sc bc) := Lib.hid (by rw [← ebc]; exact sc_mod _)
  obtain ⟨s, es⟩ : ∃ s, (ab + c) % 2305843009213688669 = s := ⟨_, rfl⟩
  have ss : Hid (Sc s) := Lib.hid (by rw [← es]; exact sc_mod _)
  obtain ⟨p, ep⟩ : ∃ p, a * b % 2305843009213688669 = p := ⟨_, rfl⟩
  have sp : Hid (Sc p) := Lib.hid (by rw [← ep]; exact sc_mod _)
  obtain ⟨q, eq⟩ : ∃ q, b * c % 2305843009213688669 = q := ⟨_, rfl⟩
  have sq : Hid (Sc q) := Lib.hid (by rw [← eq]; exact sc_mod _)
  obtain ⟨t, et⟩ : ∃ t, p * c % 2305843009213688669 = t := ⟨_, rfl⟩
  have st : Hid (Sc t) := Lib.hid (by rw [← et]; exact sc_mod _)
  obtain ⟨r, er⟩ : ∃ r, a * c % 2305843009213688669 = r := ⟨_, rfl⟩
  have sr : Hid (Sc r) := Lib.hid (by rw [← er]; exact sc_mod _)
  obtain ⟨v, ev⟩ : ∃ v, a * bc % 2305843009213688669 = v := ⟨_, rfl⟩
  have sv : Hid (Sc v) := Lib.hid (by rw [← ev]; exact sc_mod _)
  have eba : (b + a) % 2305843009213688669 = ab := by rw [Nat.add_comm]; exact eab
  have es2 : (a + bc) % 2305843009213688669 = s := by rw [← es, ← ebc, ← eab, Nat.add_mod_mod, Nat.mod_add_mod, Nat.add_assoc]
  have epp : b * a % 2305843009213688669 = p := by rw [Nat.mul_comm]; exact ep
  have et2 : a * q % 2305843009213688669 = t := by rw [← et, ← eq, ← ep, Nat.mul_mod_mod, Nat.mod_mul_mod, Nat.mul_assoc]
  have ev2 : (p + r) % 2305843009213688669 = v := by rw [← ev, ← ep, ← er, ← ebc, Nat.mul_mod_mod, ← Nat.add_mod, Nat.mul_add]
  have ea0 : (a + 0) % 2305843009213688669 = a := Nat.mod_eq_of_lt sa.out
  have ea1 : a * 1 % 2305843009213688669 = a := by rw [Nat.mul_one]; exact Nat.mod_eq_of_lt sa.out
  have ez : a * 0 % 2305843009213688669 = 0 := by rw [Nat.mul_zero]
  have Hab := Lib.hid eab; have Hbc := Lib.hid ebc; have Hs := Lib.hid es; have Hp := Lib.hid ep; have Hq := Lib.hid eq; have Ht := Lib.hid et; have Hr := Lib.hid er; have Hv := Lib.hid ev; have Hba := Lib.hid eba; have Hs2 := Lib.hid es2; have Hpp := Lib.hid epp; have Ht2 := Lib.hid et2; have Hv2 := Lib.hid ev2; have Ha0 := Lib.hid ea0; have Ha1 := Lib.hid ea1; have Hz := Lib.hid ez
  clear eab ebc es ep eq et er ev eba es2 epp et2 ev2 ea0 ea1 ez
  have nab : ((ab : Int) != (ab : Int)) = false := by simp
  have ns : ((s : Int) != (s : Int)) = false := by simp
  have np : ((p : Int) != (p : Int)) = false := by simp
  have nt : ((t : Int) != (t : Int)) = false := by simp
  have nv : ((v : Int) == (v : Int)) = true := by simp
  have na : ((a : Int) == (a : Int)) = true := by simp
  go_enter Try.func6, Try.ntmps6
  go_wp2_with fail
  refine (sane_any _).mono ?_
  try unfold pz
  rintro y w1 ⟨rfl, h1⟩
  have b1 := h1
  clear h1
  go_wp2_with fail
  refine (OX.out _).mono ?_
  try unfold pz
  rintro y u ⟨rfl, rfl⟩
  go_wp2_with fail
  refine (OY.out _).mono ?_
  try unfold pz
  rintro y u ⟨rfl, rfl⟩
  go_wp2_with fail
  refine (OZ.out _).mono ?_
  try unfold pz
  rintro y u ⟨rfl, rfl⟩
  go_wp2_with fail
  refine (add_any a b ab sa sb Hab _).mono ?_
  try unfold pz
  rintro y w2 ⟨rfl, h2⟩
  have b2 := below_tr b1 h2
  clear b1
  clear h2
  go_wp2_with fail
  refine (add_any b a ab sb sa Hba _).mono ?_
  try unfold pz
  rintro y w3 ⟨rfl, h3⟩
  have b3 := below_tr b2 h3
  clear b2
  clear h3
  go_wp2_with fail
  refine (add_any a b ab sa sb Hab _).mono ?_
  try unfold pz
  rintro y w4 ⟨rfl, h4⟩
  have b4 := below_tr b3 h4
  clear b3
  clear h4
  go_wp2_with fail
  refine (add_any ab c s sab sc Hs _).mono ?_
  try unfold pz
  rintro y w5 ⟨rfl, h5⟩
  have b5 := below_tr b4 h5
  clear b4
  clear h5
  go_wp2_with fail
  refine (add_any b c bc sb sc Hbc _).mono ?_
  try unfold pz
  rintro y w6 ⟨rfl, h6⟩
  have b6 := below_tr b5 h6
  clear b5
  clear h6
  go_wp2_with fail
  refine (add_any a bc s sa sbc Hs2 _).mono ?_
  try unfold pz
  rintro y w7 ⟨rfl, h7⟩
  have b7 := below_tr b6 h7
  clear b6
  clear h7
  go_wp2_with fail
  refine (times_any a b p sa sb Hp _).mono ?_
  try unfold pz
  rintro y w8 ⟨rfl, h8⟩
  have b8 := below_tr b7 h8
  clear b7
  clear h8
  go_wp2_with fail
  refine (times_any b a p sb sa Hpp _).mono ?_
  try unfold pz
  rintro y w9 ⟨rfl, h9⟩
  have b9 := below_tr b8 h9
  clear b8
  clear h9
  go_wp2_with fail
  refine (times_any a b p sa sb Hp _).mono ?_
  try unfold pz
  rintro y w10 ⟨rfl, h10⟩
  have b10 := below_tr b9 h10
  clear b9
  clear h10
  go_wp2_with fail
  refine (times_any p c t sp sc Ht _).mono ?_
  try unfold pz
  rintro y w11 ⟨rfl, h11⟩
  have b11 := below_tr b10 h11
  clear b10
  clear h11
  go_wp2_with fail
  refine (times_any b c q sb sc Hq _).mono ?_
  try unfold pz
  rintro y w12 ⟨rfl, h12⟩
  have b12 := below_tr b11 h12
  clear b11
  clear h12
  go_wp2_with fail
  refine (times_any a q t sa sq Ht2 _).mono ?_
  try unfold pz
  rintro y w13 ⟨rfl, h13⟩
  have b13 := below_tr b12 h13
  clear b12
  clear h13
  go_wp2_with fail
  refine (add_any b c bc sb sc Hbc _).mono ?_
  try unfold pz
  rintro y w14 ⟨rfl, h14⟩
  have b14 := below_tr b13 h14
  clear b13
  clear h14
  go_wp2_with fail
  refine (times_any a bc v sa sbc Hv _).mono ?_
  try unfold pz
  rintro y w15 ⟨rfl, h15⟩
  have b15 := below_tr b14 h15
  clear b14
  clear h15
  go_wp2_with fail
  refine (times_any a b p sa sb Hp _).mono ?_
  try unfold pz
  rintro y w16 ⟨rfl, h16⟩
  have b16 := below_tr b15 h16
  clear b15
  clear h16
  go_wp2_with fail
  refine (times_any a c r sa sc Hr _).mono ?_
  try unfold pz
  rintro y w17 ⟨rfl, h17⟩
  have b17 := below_tr b16 h17
  clear b16
  clear h17
  go_wp2_with fail
  refine (add_any p r v sp sr Hv2 _).mono ?_
  try unfold pz
  rintro y w18 ⟨rfl, h18⟩
  have b18 := below_tr b17 h18
  clear b17
  clear h18
  go_wp2_with fail
  refine (add_any a 0 a sa sc0 Ha0 _).mono ?_
  try unfold pz
  rintro y w19 ⟨rfl, h19⟩
  have b19 := below_tr b18 h19
  clear b18
  clear h19
  go_wp2_with fail
  refine (times_any a 1 a sa sc1' Ha1 _).mono ?_
  try unfold pz
  rintro y w20 ⟨rfl, h20⟩
  have b20 := below_tr b19 h20
  clear b19
  clear h20
  go_wp2_with fail
  refine (times_any a 0 0 sa sc0 Hz _).mono ?_
  try unfold pz
  rintro y w21 ⟨rfl, h21⟩
  have b21 := below_tr b20 h21
  clear b20
  clear h21
  go_wp2
  go_ret
  exact ⟨rfl, b21⟩
end Go.Proofs.Ytiikhligccgnoaa

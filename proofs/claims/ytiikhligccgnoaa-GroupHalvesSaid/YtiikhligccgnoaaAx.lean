/- The laws of the group: axioms, powers, halves. -/
import Derived.Test.YtiikhligccgnoaaRin
namespace Go.Proofs.Ytiikhligccgnoaa
open Go.RowKit Go
set_option linter.unusedVariables false
set_option linter.unusedSimpArgs false
theorem mpP (a k : Nat) (h : k < 2 ^ 64) : mp 4611686018427377339 a k = a ^ k % 4611686018427377339 := mp_eq _ _ _ h
theorem not_dvd {x P : Nat} (h0 : x ≠ 0) (h1 : x < P) : ¬ P ∣ x := fun h => by
  have := Nat.le_of_dvd (by omega) h; omega
theorem el_iff (n P Q : Nat) (hP : P = 4611686018427377339) (hQ : Q = 2305843009213688669) : El n ↔ n < P ∧ n ^ Q % P = 1 := by
  unfold El
  rw [← hP, ← hQ, mp_eq _ _ _ (by omega)]
  refine ⟨fun h => h.2, fun h => ⟨?_, h⟩⟩
  rcases Nat.eq_zero_or_pos n with rfl | h0
  · have := h.2
    rw [Nat.zero_pow (by omega), Nat.zero_mod] at this
    omega
  · exact h0
theorem el_pow {a : Nat} (h : El a) (k : Nat) : El (a ^ k % 4611686018427377339) := by
  obtain ⟨P, hP⟩ : ∃ P, P = 4611686018427377339 := ⟨_, rfl⟩
  obtain ⟨Q, hQ⟩ : ∃ Q, Q = 2305843009213688669 := ⟨_, rfl⟩
  rw [← hP, el_iff _ P Q hP hQ]
  rw [el_iff _ P Q hP hQ] at h
  refine ⟨Nat.mod_lt _ (by omega), ?_⟩
  rw [← Nat.pow_mod, ← Nat.pow_mul, Nat.mul_comm, Nat.pow_mul, Nat.pow_mod, h.2, Nat.one_pow, Nat.mod_eq_of_lt (by omega)]
theorem el_mul {a b : Nat} (ha : El a) (hb : El b) : El (a * b % 4611686018427377339) := by
  obtain ⟨P, hP⟩ : ∃ P, P = 4611686018427377339 := ⟨_, rfl⟩
  obtain ⟨Q, hQ⟩ : ∃ Q, Q = 2305843009213688669 := ⟨_, rfl⟩
  rw [← hP, el_iff _ P Q hP hQ]
  rw [el_iff _ P Q hP hQ] at ha hb
  refine ⟨Nat.mod_lt _ (by omega), ?_⟩
  rw [← Nat.pow_mod, Nat.mul_pow, Nat.mul_mod, ha.2, hb.2, Nat.mul_one, Nat.mod_eq_of_lt (by omega)]
theorem fermatP (P Q x : Nat) (hP : P = 4611686018427377339) (hQ : Q = 2305843009213688669) (h : ¬ P ∣ x) : x ^ (2 * Q) % P = 1 := by
  have hp : Pr P := by rw [hP]; exact prP
  have := fermat1 hp h
  rwa [show P - 1 = 2 * Q by omega] at this
theorem el_square {x : Nat} (h0 : x ≠ 0) (h1 : x < 4611686018427377339) : El (x * x % 4611686018427377339) := by
  obtain ⟨P, hP⟩ : ∃ P, P = 4611686018427377339 := ⟨_, rfl⟩
  obtain ⟨Q, hQ⟩ : ∃ Q, Q = 2305843009213688669 := ⟨_, rfl⟩
  rw [← hP, el_iff _ P Q hP hQ]
  refine ⟨Nat.mod_lt _ (by omega), ?_⟩
  rw [← Nat.pow_mod, ← Nat.pow_two, ← Nat.pow_mul]
  exact fermatP P Q x hP hQ (not_dvd h0 (by omega))
theorem pow_modQ {a : Nat} (h : El a) (n : Nat) : a ^ n % 4611686018427377339 = a ^ (n % 2305843009213688669) % 4611686018427377339 := by
  obtain ⟨P, hP⟩ : ∃ P, P = 4611686018427377339 := ⟨_, rfl⟩
  obtain ⟨Q, hQ⟩ : ∃ Q, Q = 2305843009213688669 := ⟨_, rfl⟩
  rw [← hP, ← hQ]
  rw [el_iff _ P Q hP hQ] at h
  have e : a ^ (Q * (n / Q)) % P = 1 := by rw [Nat.pow_mul, Nat.pow_mod, h.2, Nat.one_pow, Nat.mod_eq_of_lt (by omega)]
  conv => lhs; rw [← Nat.div_add_mod n Q, Nat.pow_add, Nat.mul_mod, e, Nat.one_mul, Nat.mod_mod]
theorem inv_mul {a : Nat} (h : El a) : a * mp 4611686018427377339 a 2305843009213688668 % 4611686018427377339 = 1 := by
  obtain ⟨P, hP⟩ : ∃ P, P = 4611686018427377339 := ⟨_, rfl⟩
  obtain ⟨Q, hQ⟩ : ∃ Q, Q = 2305843009213688669 := ⟨_, rfl⟩
  obtain ⟨q, hq⟩ : ∃ q, q = 2305843009213688668 := ⟨_, rfl⟩
  rw [← hP, ← hq, mp_eq _ _ _ (by omega), Nat.mul_mod_mod, ← Nat.pow_succ', show q.succ = Q by omega]
  rw [el_iff _ P Q hP hQ] at h
  exact h.2
theorem el_inv {a : Nat} (h : El a) : El (mp 4611686018427377339 a 2305843009213688668) := by
  obtain ⟨q, hq⟩ : ∃ q, q = 2305843009213688668 := ⟨_, rfl⟩
  rw [← hq, mpP _ _ (by omega)]; exact el_pow h q

set_option maxRecDepth 100000 in
theorem Square_any (n x s : Nat) (hn : n < 18446744073709551616) (hx : Hid (n % 4611686018427377339 = x)) (hs : Hid (x * x % 4611686018427377339 = s)) (w : World) : Calls Try.prog 32 #[.int .u64 (n : Int)] w fun e w' => e = .returned (.int .i64 (s : Int)) ∧ w = w' := by
  have e : (n : Int) % 4611686018427377339 = (x : Int) := by have := hx.out; omega
  have hx' : x < 4611686018427377339 := by rw [← hx.out]; exact Nat.mod_lt _ (by decide)
  have E := Lib.hid e; clear e
  go_enter Try.func32, Try.ntmps32
  go_wp2_with fail
  rw [E.out]
  refine (rmodP x x s hx' hx' hs _).mono ?_
  rintro e w1 ⟨rfl, rfl⟩
  go_wp2
  go_ret
  exact ⟨rfl, rfl⟩
def pb (c : Int) (b : Bool) : Ending := .returned (.tuple #[.int .i64 c, .bool b])
set_option maxRecDepth 100000 in
theorem element_b (n x s : Nat) (b : Bool) (hn : n < 18446744073709551616) (hx : Hid (n % 4611686018427377339 = x)) (hs : Hid (x * x % 4611686018427377339 = s)) (hb : ((s : Int) != 0) = b) (w : World) : Calls Try.prog 19 #[.int .u64 (n : Int)] w fun e w' => e = pb s b ∧ w = w' := by
  have B := Lib.hid hb; clear hb
  go_enter Try.func19, Try.ntmps19
  go_wp2_with fail
  refine (Square_any n x s hn hx hs _).mono ?_
  rintro e w1 ⟨rfl, rfl⟩
  go_wp2
  rw [B.out]
  go_ret2
  exact ⟨rfl, rfl⟩
theorem element_or (n : Nat) (hn : n < 18446744073709551616) : (∃ s : Nat, Hid (El s) ∧ ∀ w, Calls Try.prog 19 #[.int .u64 (n : Int)] w fun e w' => e = pb s true ∧ w = w') ∨ (∀ w, Calls Try.prog 19 #[.int .u64 (n : Int)] w fun e w' => e = pb 0 false ∧ w = w') := by
  by_cases h0 : n % 4611686018427377339 = 0
  · exact .inr (element_b n 0 0 false hn (Lib.hid h0) (Lib.hid rfl) rfl)
  · have he := el_square h0 (Nat.mod_lt _ (by decide))
    refine .inl ⟨_, Lib.hid he, element_b n _ _ true hn (Lib.hid rfl) (Lib.hid rfl) ?_⟩
    have := he.1
    simp only [bne_iff_ne, ne_eq]
    omega
theorem u64_nat {a : Int} (h : (Lit.int .u64 a).wf = true) : ∃ n : Nat, a = (n : Int) ∧ n < 18446744073709551616 := by
  have : 0 ≤ a ∧ a < 18446744073709551616 := by
    simp [Lit.wf, IntKind.min, IntKind.max, IntKind.bits, IntKind.signed] at h
    omega
  obtain ⟨n, rfl⟩ := Int.eq_ofNat_of_zero_le this.1
  exact ⟨n, rfl, by omega⟩
theorem mulr (a b c : Nat) (ha : Hid (El a)) (hb : Hid (El b)) (hc : Hid (a * b % 4611686018427377339 = c)) (w : World) : Calls Try.prog 9 #[.int .i64 (a : Int), .int .i64 (b : Int)] w fun e w' => e = pz (c : Int) 0 ∧ Below w.heap.size w w' := by
  have := Mul_ok a b ha hb w; rwa [hc.out] at this
theorem expr (a k c : Nat) (ha : Hid (El a)) (hk : Hid (Sc k)) (hc : Hid (mp 4611686018427377339 a k = c)) (w : World) : Calls Try.prog 13 #[.int .i64 (a : Int), .int .i64 (k : Int)] w fun e w' => e = pz (c : Int) 0 ∧ Below w.heap.size w w' := by
  have := Exp_ok a k ha hk w; rwa [hc.out] at this
theorem invr (a c : Nat) (ha : Hid (El a)) (hc : Hid (mp 4611686018427377339 a 2305843009213688668 = c)) (w : World) : Calls Try.prog 11 #[.int .i64 (a : Int)] w fun e w' => e = pz (c : Int) 0 ∧ Below w.heap.size w w' := by
  have := Inv_ok a ha w; rwa [hc.out] at this
theorem sumr (a b c : Nat) (ha : Hid (Sc a)) (hb : Hid (Sc b)) (hc : Hid ((a + b) % 2305843009213688669 = c)) (w : World) : Calls Try.prog 21 #[.int .i64 (a : Int), .int .i64 (b : Int)] w fun e w' => e = pz (c : Int) 0 ∧ Below w.heap.size w w' := by
  have := Sum_ok a b ha hb w; rwa [hc.out] at this
theorem prodr (a b c : Nat) (ha : Hid (Sc a)) (hb : Hid (Sc b)) (hc : Hid (a * b % 2305843009213688669 = c)) (w : World) : Calls Try.prog 22 #[.int .i64 (a : Int), .int .i64 (b : Int)] w fun e w' => e = pz (c : Int) 0 ∧ Below w.heap.size w w' := by
  have := Product_ok a b ha hb w; rwa [hc.out] at this

set_option maxRecDepth 100000 in
set_option maxHeartbeats 4000000 in
theorem axioms_any (m n o : Nat) (hm : m < 18446744073709551616) (hn : n < 18446744073709551616) (ho : o < 18446744073709551616) (w : World) : Calls Try.prog 4 #[.int .u64 (m : Int), .int .u64 (n : Int), .int .u64 (o : Int)] w fun e w' => e = .returned (.bool true) ∧ Below w.heap.size w w' := by
  rcases element_or m hm with ⟨a, ha, x⟩ | x <;> have X := Lib.hid x <;> clear x
  all_goals (rcases element_or n hn with ⟨b, hb, y⟩ | y <;> have Y := Lib.hid y <;> clear y)
  all_goals (rcases element_or o ho with ⟨c, hc, z⟩ | z <;> have Z := Lib.hid z <;> clear z)
  · obtain ⟨ab, eab⟩ : ∃ ab, a * b % 4611686018427377339 = ab := ⟨_, rfl⟩
    obtain ⟨bc, ebc⟩ : ∃ bc, b * c % 4611686018427377339 = bc := ⟨_, rfl⟩
    obtain ⟨s, es⟩ : ∃ s, ab * c % 4611686018427377339 = s := ⟨_, rfl⟩
    have eab2 : El ab := by rw [← eab]; exact el_mul ha.out hb.out
    have ebc2 : El bc := by rw [← ebc]; exact el_mul hb.out hc.out
    obtain ⟨i, ei⟩ : ∃ i, mp 4611686018427377339 a 2305843009213688668 = i := ⟨_, rfl⟩
    have ei2 : El i := by rw [← ei]; exact el_inv ha.out
    have eai : a * i % 4611686018427377339 = 1 := by rw [← ei]; exact inv_mul ha.out
    have eba : b * a % 4611686018427377339 = ab := by rw [Nat.mul_comm]; exact eab
    have es2 : a * bc % 4611686018427377339 = s := by rw [← es, ← ebc, ← eab, Nat.mul_mod_mod, Nat.mod_mul_mod, Nat.mul_assoc]
    have ea1 : a * 1 % 4611686018427377339 = a := by rw [Nat.mul_one]; exact Nat.mod_eq_of_lt ha.out.2.1
    have Hab := Lib.hid eab; have Hbc := Lib.hid ebc; have Hs := Lib.hid es; have Hab2 := Lib.hid eab2; have Hbc2 := Lib.hid ebc2; have Hi := Lib.hid ei; have Hi2 := Lib.hid ei2; have Hai := Lib.hid eai; have Hba := Lib.hid eba; have Hs2 := Lib.hid es2; have Ha1 := Lib.hid ea1
    clear eab ebc es eab2 ebc2 ei ei2 eai eba es2 ea1
    have nab : ((ab : Int) == (ab : Int)) = true := by simp
    have ns : ((s : Int) == (s : Int)) = true := by simp
    have na : ((a : Int) == (a : Int)) = true := by simp
    go_enter Try.func4, Try.ntmps4
    go_wp2_with fail
    refine (sane_any _).mono ?_
    try unfold pz
    try unfold pb
    rintro y w1 ⟨rfl, h1⟩
    have b1 := h1
    clear h1
    go_wp2_with fail
    refine (X.out _).mono ?_
    try unfold pz
    try unfold pb
    rintro y u ⟨rfl, rfl⟩
    go_wp2_with fail
    refine (Y.out _).mono ?_
    try unfold pz
    try unfold pb
    rintro y u ⟨rfl, rfl⟩
    go_wp2_with fail
    refine (Z.out _).mono ?_
    try unfold pz
    try unfold pb
    rintro y u ⟨rfl, rfl⟩
    go_wp2_with fail
    refine (mulr a b ab ha hb Hab _).mono ?_
    try unfold pz
    try unfold pb
    rintro y w2 ⟨rfl, h2⟩
    have b2 := below_tr b1 h2
    clear b1
    clear h2
    go_wp2_with fail
    refine (mulr b a ab hb ha Hba _).mono ?_
    try unfold pz
    try unfold pb
    rintro y w3 ⟨rfl, h3⟩
    have b3 := below_tr b2 h3
    clear b2
    clear h3
    go_wp2_with fail
    refine (mulr b c bc hb hc Hbc _).mono ?_
    try unfold pz
    try unfold pb
    rintro y w4 ⟨rfl, h4⟩
    have b4 := below_tr b3 h4
    clear b3
    clear h4
    go_wp2_with fail
    refine (mulr ab c s Hab2 hc Hs _).mono ?_
    try unfold pz
    try unfold pb
    rintro y w5 ⟨rfl, h5⟩
    have b5 := below_tr b4 h5
    clear b4
    clear h5
    go_wp2_with fail
    refine (mulr a bc s ha Hbc2 Hs2 _).mono ?_
    try unfold pz
    try unfold pb
    rintro y w6 ⟨rfl, h6⟩
    have b6 := below_tr b5 h6
    clear b5
    clear h6
    go_wp2_with fail
    refine (mulr a 1 a ha el1 Ha1 _).mono ?_
    try unfold pz
    try unfold pb
    rintro y w7 ⟨rfl, h7⟩
    have b7 := below_tr b6 h7
    clear b6
    clear h7
    go_wp2_with fail
    refine (invr a i ha Hi _).mono ?_
    try unfold pz
    try unfold pb
    rintro y w8 ⟨rfl, h8⟩
    have b8 := below_tr b7 h8
    clear b7
    clear h8
    go_wp2_with fail
    refine (mulr a i 1 ha Hi2 Hai _).mono ?_
    try unfold pz
    try unfold pb
    rintro y w9 ⟨rfl, h9⟩
    have b9 := below_tr b8 h9
    clear b8
    clear h9
    go_wp2_with fail
    refine (Check_ok ab Hab2 _).mono ?_
    try unfold pz
    try unfold pb
    rintro y w10 ⟨rfl, h10⟩
    have b10 := below_tr b9 h10
    clear b9
    clear h10
    go_wp2_with fail
    refine (Check_ok i Hi2 _).mono ?_
    try unfold pz
    try unfold pb
    rintro y w11 ⟨rfl, h11⟩
    have b11 := below_tr b10 h11
    clear b10
    clear h11
    go_wp2
    go_ret
    exact ⟨rfl, b11⟩
  · go_enter Try.func4, Try.ntmps4
    go_wp2_with fail
    refine (sane_any _).mono ?_
    try unfold pz
    try unfold pb
    rintro y w1 ⟨rfl, h1⟩
    have b1 := h1
    clear h1
    go_wp2_with fail
    refine (X.out _).mono ?_
    try unfold pz
    try unfold pb
    rintro y u ⟨rfl, rfl⟩
    go_wp2_with fail
    refine (Y.out _).mono ?_
    try unfold pz
    try unfold pb
    rintro y u ⟨rfl, rfl⟩
    go_wp2_with fail
    refine (Z.out _).mono ?_
    try unfold pz
    try unfold pb
    rintro y u ⟨rfl, rfl⟩
    go_wp2
    go_ret
    exact ⟨rfl, b1⟩
  · go_enter Try.func4, Try.ntmps4
    go_wp2_with fail
    refine (sane_any _).mono ?_
    try unfold pz
    try unfold pb
    rintro y w1 ⟨rfl, h1⟩
    have b1 := h1
    clear h1
    go_wp2_with fail
    refine (X.out _).mono ?_
    try unfold pz
    try unfold pb
    rintro y u ⟨rfl, rfl⟩
    go_wp2_with fail
    refine (Y.out _).mono ?_
    try unfold pz
    try unfold pb
    rintro y u ⟨rfl, rfl⟩
    go_wp2_with fail
    refine (Z.out _).mono ?_
    try unfold pz
    try unfold pb
    rintro y u ⟨rfl, rfl⟩
    go_wp2
    go_ret
    exact ⟨rfl, b1⟩
  · go_enter Try.func4, Try.ntmps4
    go_wp2_with fail
    refine (sane_any _).mono ?_
    try unfold pz
    try unfold pb
    rintro y w1 ⟨rfl, h1⟩
    have b1 := h1
    clear h1
    go_wp2_with fail
    refine (X.out _).mono ?_
    try unfold pz
    try unfold pb
    rintro y u ⟨rfl, rfl⟩
    go_wp2_with fail
    refine (Y.out _).mono ?_
    try unfold pz
    try unfold pb
    rintro y u ⟨rfl, rfl⟩
    go_wp2_with fail
    refine (Z.out _).mono ?_
    try unfold pz
    try unfold pb
    rintro y u ⟨rfl, rfl⟩
    go_wp2
    go_ret
    exact ⟨rfl, b1⟩
  · go_enter Try.func4, Try.ntmps4
    go_wp2_with fail
    refine (sane_any _).mono ?_
    try unfold pz
    try unfold pb
    rintro y w1 ⟨rfl, h1⟩
    have b1 := h1
    clear h1
    go_wp2_with fail
    refine (X.out _).mono ?_
    try unfold pz
    try unfold pb
    rintro y u ⟨rfl, rfl⟩
    go_wp2_with fail
    refine (Y.out _).mono ?_
    try unfold pz
    try unfold pb
    rintro y u ⟨rfl, rfl⟩
    go_wp2_with fail
    refine (Z.out _).mono ?_
    try unfold pz
    try unfold pb
    rintro y u ⟨rfl, rfl⟩
    go_wp2
    go_ret
    exact ⟨rfl, b1⟩
  · go_enter Try.func4, Try.ntmps4
    go_wp2_with fail
    refine (sane_any _).mono ?_
    try unfold pz
    try unfold pb
    rintro y w1 ⟨rfl, h1⟩
    have b1 := h1
    clear h1
    go_wp2_with fail
    refine (X.out _).mono ?_
    try unfold pz
    try unfold pb
    rintro y u ⟨rfl, rfl⟩
    go_wp2_with fail
    refine (Y.out _).mono ?_
    try unfold pz
    try unfold pb
    rintro y u ⟨rfl, rfl⟩
    go_wp2_with fail
    refine (Z.out _).mono ?_
    try unfold pz
    try unfold pb
    rintro y u ⟨rfl, rfl⟩
    go_wp2
    go_ret
    exact ⟨rfl, b1⟩
  · go_enter Try.func4, Try.ntmps4
    go_wp2_with fail
    refine (sane_any _).mono ?_
    try unfold pz
    try unfold pb
    rintro y w1 ⟨rfl, h1⟩
    have b1 := h1
    clear h1
    go_wp2_with fail
    refine (X.out _).mono ?_
    try unfold pz
    try unfold pb
    rintro y u ⟨rfl, rfl⟩
    go_wp2_with fail
    refine (Y.out _).mono ?_
    try unfold pz
    try unfold pb
    rintro y u ⟨rfl, rfl⟩
    go_wp2_with fail
    refine (Z.out _).mono ?_
    try unfold pz
    try unfold pb
    rintro y u ⟨rfl, rfl⟩
    go_wp2
    go_ret
    exact ⟨rfl, b1⟩
  · go_enter Try.func4, Try.ntmps4
    go_wp2_with fail
    refine (sane_any _).mono ?_
    try unfold pz
    try unfold pb
    rintro y w1 ⟨rfl, h1⟩
    have b1 := h1
    clear h1
    go_wp2_with fail
    refine (X.out _).mono ?_
    try unfold pz
    try unfold pb
    rintro y u ⟨rfl, rfl⟩
    go_wp2_with fail
    refine (Y.out _).mono ?_
    try unfold pz
    try unfold pb
    rintro y u ⟨rfl, rfl⟩
    go_wp2_with fail
    refine (Z.out _).mono ?_
    try unfold pz
    try unfold pb
    rintro y u ⟨rfl, rfl⟩
    go_wp2
    go_ret
    exact ⟨rfl, b1⟩
theorem axioms_i (x y z : Int) (h0 : (Lit.int .u64 x).wf = true) (h1 : (Lit.int .u64 y).wf = true) (h2 : (Lit.int .u64 z).wf = true) (w : World) : Calls Try.prog 4 #[.int .u64 x, .int .u64 y, .int .u64 z] w fun e w' => e = .returned (.bool true) ∧ Below w.heap.size w w' := by
  obtain ⟨m, rfl, hm⟩ := u64_nat h0
  obtain ⟨n, rfl, hn⟩ := u64_nat h1
  obtain ⟨k, rfl, hk⟩ := u64_nat h2
  exact axioms_any m n k hm hn hk w

set_option maxRecDepth 100000 in
set_option maxHeartbeats 4000000 in
theorem powers_any (m : Nat) (x y : Int) (hm : m < 18446744073709551616) (w : World) : Calls Try.prog 5 #[.int .u64 (m : Int), .int .i64 x, .int .i64 y] w fun e w' => e = .returned (.bool true) ∧ Below w.heap.size w w' := by
  have sj := ofN_sc x; have sk := ofN_sc y
  have ox := Of_any x; have oy := Of_any y
  generalize ofN x = j at *
  generalize ofN y = k at *
  have OX := Lib.hid ox; have OY := Lib.hid oy; clear ox oy
  rcases element_or m hm with ⟨a, ha, x⟩ | x <;> have X := Lib.hid x <;> clear x
  · obtain ⟨p, ep⟩ : ∃ p, mp 4611686018427377339 a j = p := ⟨_, rfl⟩
    obtain ⟨q, eq⟩ : ∃ q, mp 4611686018427377339 a k = q := ⟨_, rfl⟩
    obtain ⟨su, esu⟩ : ∃ su, (j + k) % 2305843009213688669 = su := ⟨_, rfl⟩
    obtain ⟨pr, epr⟩ : ∃ pr, j * k % 2305843009213688669 = pr := ⟨_, rfl⟩
    obtain ⟨pq, epq⟩ : ∃ pq, p * q % 4611686018427377339 = pq := ⟨_, rfl⟩
    obtain ⟨t, et⟩ : ∃ t, mp 4611686018427377339 a pr = t := ⟨_, rfl⟩
    obtain ⟨i, ei⟩ : ∃ i, mp 4611686018427377339 a 2305843009213688668 = i := ⟨_, rfl⟩
    have ssu : Hid (Sc su) := Lib.hid (by rw [← esu]; exact sc_mod _)
    have spr : Hid (Sc pr) := Lib.hid (by rw [← epr]; exact sc_mod _)
    have bj : j < 2 ^ 64 := by have := sj.out; unfold Sc at this; omega
    have bk : k < 2 ^ 64 := by have := sk.out; unfold Sc at this; omega
    have bsu : su < 2 ^ 64 := by have := ssu.out; unfold Sc at this; omega
    have bpr : pr < 2 ^ 64 := by have := spr.out; unfold Sc at this; omega
    have ep2 : El p := by rw [← ep, mpP _ _ bj]; exact el_pow ha.out j
    have eq2 : El q := by rw [← eq, mpP _ _ bk]; exact el_pow ha.out k
    have es2 : mp 4611686018427377339 a su = pq := by rw [mpP _ _ bsu, ← esu, ← pow_modQ ha.out, ← epq, ← ep, ← eq, mpP _ _ bj, mpP _ _ bk, ← Nat.mul_mod, ← Nat.pow_add]
    have eu : mp 4611686018427377339 p k = t := by rw [mpP _ _ bk, ← et, mpP _ _ bpr, ← epr, ← pow_modQ ha.out, ← ep, mpP _ _ bj, ← Nat.pow_mod, ← Nat.pow_mul]
    have ez : mp 4611686018427377339 a 0 = 1 := by rw [mpP _ _ (by omega), Nat.pow_zero]
    have eo : mp 4611686018427377339 a 1 = a := by rw [mpP _ _ (by omega), Nat.pow_one]; exact Nat.mod_eq_of_lt ha.out.2.1
    have Hp := Lib.hid ep; have Hq := Lib.hid eq; have Hsu := Lib.hid esu; have Hpr := Lib.hid epr; have Hpq := Lib.hid epq; have Ht := Lib.hid et; have Hi := Lib.hid ei; have Hp2 := Lib.hid ep2; have Hq2 := Lib.hid eq2; have Hs2 := Lib.hid es2; have Hu := Lib.hid eu; have Hz := Lib.hid ez; have Ho := Lib.hid eo
    clear ep eq esu epr epq et ei ep2 eq2 es2 eu ez eo bj bk bsu bpr
    have npq : ((pq : Int) == (pq : Int)) = true := by simp
    have nt : ((t : Int) == (t : Int)) = true := by simp
    have na : ((a : Int) == (a : Int)) = true := by simp
    have ni : ((i : Int) == (i : Int)) = true := by simp
    go_enter Try.func5, Try.ntmps5
    go_wp2_with fail
    refine (sane_any _).mono ?_
    try unfold pz
    try unfold pb
    rintro y w1 ⟨rfl, h1⟩
    have b1 := h1
    clear h1
    go_wp2_with fail
    refine (X.out _).mono ?_
    try unfold pz
    try unfold pb
    rintro y u ⟨rfl, rfl⟩
    go_wp2_with fail
    refine (OX.out _).mono ?_
    try unfold pz
    try unfold pb
    rintro y u ⟨rfl, rfl⟩
    go_wp2_with fail
    refine (OY.out _).mono ?_
    try unfold pz
    try unfold pb
    rintro y u ⟨rfl, rfl⟩
    go_wp2_with fail
    refine (expr a j p ha sj Hp _).mono ?_
    try unfold pz
    try unfold pb
    rintro y w2 ⟨rfl, h2⟩
    have b2 := below_tr b1 h2
    clear b1
    clear h2
    go_wp2_with fail
    refine (expr a k q ha sk Hq _).mono ?_
    try unfold pz
    try unfold pb
    rintro y w3 ⟨rfl, h3⟩
    have b3 := below_tr b2 h3
    clear b2
    clear h3
    go_wp2_with fail
    refine (sumr j k su sj sk Hsu _).mono ?_
    try unfold pz
    try unfold pb
    rintro y w4 ⟨rfl, h4⟩
    have b4 := below_tr b3 h4
    clear b3
    clear h4
    go_wp2_with fail
    refine (prodr j k pr sj sk Hpr _).mono ?_
    try unfold pz
    try unfold pb
    rintro y w5 ⟨rfl, h5⟩
    have b5 := below_tr b4 h5
    clear b4
    clear h5
    go_wp2_with fail
    refine (mulr p q pq Hp2 Hq2 Hpq _).mono ?_
    try unfold pz
    try unfold pb
    rintro y w6 ⟨rfl, h6⟩
    have b6 := below_tr b5 h6
    clear b5
    clear h6
    go_wp2_with fail
    refine (expr a su pq ha ssu Hs2 _).mono ?_
    try unfold pz
    try unfold pb
    rintro y w7 ⟨rfl, h7⟩
    have b7 := below_tr b6 h7
    clear b6
    clear h7
    go_wp2_with fail
    refine (expr a pr t ha spr Ht _).mono ?_
    try unfold pz
    try unfold pb
    rintro y w8 ⟨rfl, h8⟩
    have b8 := below_tr b7 h8
    clear b7
    clear h8
    go_wp2_with fail
    refine (expr p k t Hp2 sk Hu _).mono ?_
    try unfold pz
    try unfold pb
    rintro y w9 ⟨rfl, h9⟩
    have b9 := below_tr b8 h9
    clear b8
    clear h9
    go_wp2_with fail
    refine (expr a 0 1 ha sc0 Hz _).mono ?_
    try unfold pz
    try unfold pb
    rintro y w10 ⟨rfl, h10⟩
    have b10 := below_tr b9 h10
    clear b9
    clear h10
    go_wp2_with fail
    refine (expr a 1 a ha sc1' Ho _).mono ?_
    try unfold pz
    try unfold pb
    rintro y w11 ⟨rfl, h11⟩
    have b11 := below_tr b10 h11
    clear b10
    clear h11
    go_wp2_with fail
    refine (expr a 2305843009213688668 i ha scQ1 Hi _).mono ?_
    try unfold pz
    try unfold pb
    rintro y w12 ⟨rfl, h12⟩
    have b12 := below_tr b11 h12
    clear b11
    clear h12
    go_wp2_with fail
    refine (invr a i ha Hi _).mono ?_
    try unfold pz
    try unfold pb
    rintro y w13 ⟨rfl, h13⟩
    have b13 := below_tr b12 h13
    clear b12
    clear h13
    go_wp2
    go_ret
    exact ⟨rfl, b13⟩
  · go_enter Try.func5, Try.ntmps5
    go_wp2_with fail
    refine (sane_any _).mono ?_
    try unfold pz
    try unfold pb
    rintro y w1 ⟨rfl, h1⟩
    have b1 := h1
    clear h1
    go_wp2_with fail
    refine (X.out _).mono ?_
    try unfold pz
    try unfold pb
    rintro y u ⟨rfl, rfl⟩
    go_wp2
    go_ret
    exact ⟨rfl, b1⟩
theorem powers_i (z x y : Int) (h0 : (Lit.int .u64 z).wf = true) (w : World) : Calls Try.prog 5 #[.int .u64 z, .int .i64 x, .int .i64 y] w fun e w' => e = .returned (.bool true) ∧ Below w.heap.size w w' := by
  obtain ⟨m, rfl, hm⟩ := u64_nat h0
  exact powers_any m x y hm w
end Go.Proofs.Ytiikhligccgnoaa

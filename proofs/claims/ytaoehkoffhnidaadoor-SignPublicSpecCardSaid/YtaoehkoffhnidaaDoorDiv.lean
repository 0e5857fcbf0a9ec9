/- Contracts of bits.Div64 and bits.Rem64 for divisors of 61 and 62 bits: quotient and remainder; memory is left as it was. -/
import Derived.Test.YtaoehkoffhnidaaDoorShelf
import Derived.Test.YtaoehkoffhnidaaDoorPure
import Derived.WalkKit
import Derived.WalkLawsBesides
import Derived.Deep.DeepCutAuto
import Derived.Deep.CutBlock
import Derived.Laws.BitsAllLaws
import Derived.Laws.Bits64b
import Derived.Lib.Hide
namespace Go.Proofs.YtaoehkoffhnidaaDoor
open Go.RowKit Go
set_option linter.unusedVariables false
set_option linter.unusedSimpArgs false
theorem ret_int {k : IntKind} {a b : Int} (h : a = b) : Ending.returned (.int k a) = .returned (.int k b) := by rw [h]
theorem ret2 {k l : IntKind} {a b c d : Int} (h : a = b) (g : c = d) : Ending.returned (.tuple #[.int k a, .int l c]) = .returned (.tuple #[.int k b, .int l d]) := by rw [h, g]
theorem wrap_u64 (n : Int) : IntKind.u64.wrap n = n % 18446744073709551616 := by simp [IntKind.wrap, IntKind.bits, IntKind.signed]
theorem wrap_i64 (n : Int) (h0 : -9223372036854775808 ≤ n) (h1 : n ≤ 9223372036854775807) : IntKind.i64.wrap n = n := by simp [IntKind.wrap, IntKind.bits, IntKind.signed]; omega
theorem and32 (a : Nat) (ha : a < 18446744073709551616) : bits .and .u64 (a : Int) 4294967295 = ((a % 4294967296 : Nat) : Int) := by
  rw [show (4294967295 : Int) = ((4294967295 : Nat) : Int) from rfl, u64_and_nat a 4294967295 ha (by omega), show 4294967295 = 2 ^ 32 - 1 from rfl, Nat.and_two_pow_sub_one_eq_mod]
theorem or_low (s a b : Nat) (hs : s < 64) (h : a * 2 ^ s + b < 18446744073709551616) (hb : b < 2 ^ s) : bits .or .u64 ((a : Int) * ((2 ^ s : Nat) : Int)) (b : Int) = ((a * 2 ^ s + b : Nat) : Int) := by
  have : a * 2 ^ s < 18446744073709551616 := by omega
  have h3 : 2 ^ s < 18446744073709551616 := Nat.pow_lt_pow_right (by omega) hs
  rw [← Int.natCast_mul, bits_or_u64_nat _ _ this (by omega), Nat.mul_comm a, Nat.two_pow_add_eq_or_of_lt hb]
theorem wrap3 (A D B R : Int) (h : A + D = B + R) (h0 : 0 ≤ R) (h1 : R < 18446744073709551616) : IntKind.u64.wrap (IntKind.u64.wrap (IntKind.u64.wrap A + D) - IntKind.u64.wrap B) = R := by
  simp only [wrap_u64]
  rw [Int.emod_add_emod, ← Int.sub_emod, h, show B + R - B = R by omega, Int.emod_eq_of_lt h0 h1]
theorem wrap2 (A D : Int) (h0 : 0 ≤ A + D) (h1 : A + D < 18446744073709551616) : IntKind.u64.wrap (IntKind.u64.wrap A + D) = A + D := by
  simp only [wrap_u64]
  rw [Int.emod_add_emod, Int.emod_eq_of_lt h0 h1]
theorem normM (M s N Y y u d1 d0 q1 q0 r : Nat) (hy : Y = y * 2 ^ s) (h0 : 0 < y) (hn : u * M * M + d1 * M + d0 = N * 2 ^ s)
    (h1 : u * M + d1 = q1 * Y + r) (g1 : q0 * Y ≤ r * M + d0) (g2 : r * M + d0 < (q0 + 1) * Y) :
    N / y = q1 * M + q0 ∧ (r * M + d0 - q0 * Y) / 2 ^ s = N % y := by
  have hs : 0 < 2 ^ s := Nat.two_pow_pos s
  subst hy
  have e : N * 2 ^ s = (q1 * M + q0) * (y * 2 ^ s) + (r * M + d0 - q0 * (y * 2 ^ s)) := by
    have h2 := congrArg (· * M) h1
    simp only [Nat.add_mul] at h2
    rw [← hn, Nat.add_mul, Nat.mul_right_comm q1]
    generalize q1 * (y * 2 ^ s) * M = A at *
    generalize q0 * (y * 2 ^ s) = B at *
    generalize r * M = R at *
    generalize u * M * M = U at *
    generalize d1 * M = D at *
    clear h1 hn
    omega
  have hlt : r * M + d0 - q0 * (y * 2 ^ s) < y * 2 ^ s := by
    rw [Nat.add_mul, Nat.one_mul] at g2
    clear h1 hn e
    generalize q0 * (y * 2 ^ s) = B at *
    omega
  generalize r * M + d0 - q0 * (y * 2 ^ s) = R at *
  generalize q1 * M + q0 = q at *
  have e1 : N * 2 ^ s / (y * 2 ^ s) = N / y := Nat.mul_div_mul_right _ _ hs
  have e2 : N * 2 ^ s % (y * 2 ^ s) = N % y * 2 ^ s := Nat.mul_mod_mul_right _ _ _
  have hp : 0 < y * 2 ^ s := Nat.mul_pos h0 hs
  rw [e, Nat.mul_comm q] at e1 e2
  rw [Nat.mul_add_div hp, Nat.div_eq_of_lt hlt] at e1
  rw [Nat.mul_add_mod, Nat.mod_eq_of_lt hlt] at e2
  exact ⟨e1.symm, by rw [e2, Nat.mul_div_cancel _ hs]⟩
/-- the normalized division says what the plain one does -/
theorem norm (s hi lo y y1 y0 u d1 d0 q1 q0 : Nat) (hy : y1 * 4294967296 + y0 = y * 2 ^ s) (h0 : 0 < y) (hn : u * 18446744073709551616 + d1 * 4294967296 + d0 = (hi * 18446744073709551616 + lo) * 2 ^ s) (r : Nat)
    (h1 : u * 4294967296 + d1 = q1 * (y1 * 4294967296 + y0) + r) (g : Gd y1 y0 r d0 q0) :
    (hi * 18446744073709551616 + lo) / y = q1 * 4294967296 + q0 ∧ (r * 4294967296 + d0 - q0 * (y1 * 4294967296 + y0)) / 2 ^ s = (hi * 18446744073709551616 + lo) % y :=
  normM 4294967296 s _ _ y u d1 d0 q1 q0 r hy h0 (by rw [← hn, Nat.mul_assoc]) h1 g.lo g.up
theorem quo_lt (hi lo y N : Nat) (h : hi < y) (hl : lo < 18446744073709551616) (hN : N = hi * 18446744073709551616 + lo) : N / y < 18446744073709551616 := by
  rw [Nat.div_lt_iff_lt_mul (by omega), hN]
  have h1 : (hi + 1) * 18446744073709551616 ≤ y * 18446744073709551616 := Nat.mul_le_mul_right _ h
  rw [Nat.add_mul, Nat.one_mul] at h1
  rw [Nat.mul_comm 18446744073709551616 y]
  exact Nat.lt_of_lt_of_le (Nat.add_lt_add_left hl _) h1
theorem digits (s t hi lo u l4 : Nat) (hts : 2 ^ s * t = 18446744073709551616) (hu : u = hi * 2 ^ s + lo / t) (hl : l4 = lo * 2 ^ s % 18446744073709551616) :
    u * 18446744073709551616 + l4 = (hi * 18446744073709551616 + lo) * 2 ^ s := by
  have hs : 0 < 2 ^ s := Nat.two_pow_pos s
  have ht : 0 < t := by rcases Nat.eq_zero_or_pos t with rfl | h; · simp at hts
                        · exact h
  have e : lo * 2 ^ s % 18446744073709551616 = lo % t * 2 ^ s := by rw [← hts, Nat.mul_comm (2 ^ s) t, Nat.mul_mod_mul_right]
  rw [hu, hl, e, Nat.add_mul, Nat.add_mul]
  have h1 : hi * 2 ^ s * 18446744073709551616 = hi * 18446744073709551616 * 2 ^ s := Nat.mul_right_comm _ _ _
  have h2 : lo / t * 18446744073709551616 + lo % t * 2 ^ s = lo * 2 ^ s := by
    rw [← hts, Nat.mul_comm (2 ^ s) t, ← Nat.mul_assoc, ← Nat.add_mul, Nat.mul_comm (lo / t), Nat.div_add_mod]
  rw [h1, Nat.add_assoc, h2]

set_option maxRecDepth 100000 in
set_option maxHeartbeats 4000000 in
theorem div2_any (N hi lo y : Nat) (hN0 : N = hi * 18446744073709551616 + lo) (h0 : 0 < hi) (h : hi < y) (hl : lo < 18446744073709551616) (hy : y < 4611686018427387904) (hy1 : 2305843009213693952 ≤ y) (hb : Lib.bitLen y = 62) (w : World) :
    Calls Tryd.prog 87 #[.int .u64 (hi : Int), .int .u64 (lo : Int), .int .u64 (y : Int)] w fun e w' => e = .returned (.tuple #[.int .u64 ((N / y : Nat) : Int), .int .u64 ((N % y : Nat) : Int)]) ∧ w = w' := by
  have hb1 : (64 - (Lib.bitLen ((y : Int).toNat) : Int)) = 2 := by rw [Int.toNat_natCast, hb]; rfl
  have HB := Lib.hid hb1; clear hb hb1
  -- the digits
  obtain ⟨y1, k1⟩ : ∃ y1, y1 = y * 4 / 4294967296 := ⟨_, rfl⟩
  obtain ⟨y0, k0⟩ : ∃ y0, y0 = y * 4 % 4294967296 := ⟨_, rfl⟩
  obtain ⟨u, ku⟩ : ∃ u, u = hi * 4 + lo / 4611686018427387904 := ⟨_, rfl⟩
  obtain ⟨l4, kl⟩ : ∃ l4, l4 = lo * 4 % 18446744073709551616 := ⟨_, rfl⟩
  obtain ⟨d1, kd1⟩ : ∃ d1, d1 = l4 / 4294967296 := ⟨_, rfl⟩
  obtain ⟨d0, kd0⟩ : ∃ d0, d0 = l4 % 4294967296 := ⟨_, rfl⟩
  have b1 : 2147483648 ≤ y1 := by omega
  have b2 : y1 < 4294967296 := by omega
  have b0 : y0 < 4294967296 := by omega
  have bd1 : d1 < 4294967296 := by omega
  have bd0 : d0 < 4294967296 := by omega
  have hyy : y1 * 4294967296 + y0 = y * 4 := by omega
  have hu : u < y1 * 4294967296 + y0 := by omega
  have hN : u * 18446744073709551616 + d1 * 4294967296 + d0 = (hi * 18446744073709551616 + lo) * 2 ^ 2 := by
    have := digits 2 4611686018427387904 hi lo u l4 (by decide) ku kl
    have h2 := Nat.div_add_mod l4 4294967296
    rw [← kd1, ← kd0, Nat.mul_comm] at h2
    rw [Nat.add_assoc, h2]
    exact this
  have bu : u < 18446744073709551616 := by omega
  have r1 : (y : Int) * 4 / 4294967296 = (y1 : Int) := by omega
  have r2 : bits .and .u64 ((y : Int) * 4) 4294967295 = (y0 : Int) := by
    rw [show (y : Int) * 4 = ((y * 4 : Nat) : Int) from rfl, and32 _ (by omega), k0]
  have r3 : bits .or .u64 ((hi : Int) * 4) ((lo : Int) / 4611686018427387904) = (u : Int) := by
    rw [show (lo : Int) / 4611686018427387904 = ((lo / 4611686018427387904 : Nat) : Int) from rfl]
    exact (or_low 2 hi _ (by omega) (by show hi * 4 + _ < _; omega) (by show _ < 4; omega)).trans (by rw [ku])
  have r4 : IntKind.u64.wrap ((lo : Int) * 4) = (l4 : Int) := by rw [wrap_u64]; omega
  have r5 : (l4 : Int) / 4294967296 = (d1 : Int) := by omega
  have r6 : bits .and .u64 (l4 : Int) 4294967295 = (d0 : Int) := by rw [and32 _ (by omega), kd0]
  have g0 := gu_start b1 b2 b0 bd1 hu
  obtain ⟨q1, kq1⟩ : ∃ q1, q1 = u / y1 := ⟨_, rfl⟩
  rw [← kq1] at g0
  have gm : q1 * y1 ≤ u := by rw [kq1]; exact Nat.div_mul_le_self _ _
  have gq : q1 ≤ u := by rw [kq1]; exact Nat.div_le_self _ _
  have r7 : IntKind.u64.wrap (((u : Int)).tdiv (y1 : Int)) = (q1 : Int) := by
    rw [wrap_u64, show ((u : Int)).tdiv (y1 : Int) = ((u / y1 : Nat) : Int) from rfl, ← kq1]; omega
  have r8 : IntKind.u64.wrap ((u : Int) - IntKind.u64.wrap ((q1 : Int) * (y1 : Int))) = ((u - q1 * y1 : Nat) : Int) := by
    rw [← Int.natCast_mul, wrap_u64, wrap_u64]; omega
  have G0 := Lib.hid g0; have HN := Lib.hid hN; have HY := Lib.hid hyy
  have HU := Lib.hid hu
  have HQ := Lib.hid (quo_lt hi lo y N h hl hN0)
  have HN0 := Lib.hid hN0; clear hN0
  have HP := Lib.hid (by omega : 0 < y)
  have R1 := Lib.hid r1; have R2 := Lib.hid r2; have R3 := Lib.hid r3; have R4 := Lib.hid r4; have R5 := Lib.hid r5; have R6 := Lib.hid r6; have R7 := Lib.hid r7; have R8 := Lib.hid r8
  have hne : ¬ (y : Int) * 4 / 4294967296 = 0 := by omega
  clear g0 hN hyy hu gm gq ku kl kd1 kd0 k1 k0 kq1 r1 r2 r3 r4 r5 r6 r7 r8
  go_enter Tryd.func87, Tryd.ntmps87
  go_wp2_with fail
  refine (Tryd.bits_LeadingZeros64 _ _ (by omega) (by omega)).mono ?_
  rintro e w' ⟨rfl, hw⟩
  obtain rfl : w = w' := hw.symm
  clear hw
  rw [HB.out]
  go_upto_block 0 with fail
  simp only [R1.out, R2.out, R3.out, R4.out, R5.out, R6.out, R7.out, R8.out]
  go_cut [15] (fun s15 wx => w = wx ∧ ∃ q : Nat, s15 = .int .u64 (q : Int) ∧ Gd y1 y0 u d1 q)
  case first =>
    go_wp2_with fail
    clear hne hl hy hy1 h h0 bu
    go_loop [15, 16] (fun s15 s16 => ∃ q r : Nat, s15 = .int .u64 (q : Int) ∧ s16 = .int .u64 (r : Int) ∧ Gu y1 y0 u d1 q r) (fun s15 _ => (RowKit.intOf s15).toNat)
    case atStart => exact ⟨q1, _, rfl, rfl, G0.out⟩
    case round =>
      obtain ⟨q, r, rfl, rfl, g⟩ := hrel
      have ql := g.ql
      have rl := g.rl
      have qm : (q : Int) < 4294967296 → (q : Int) * (y0 : Int) ≤ 18446744065119617025 := fun h => by
        have := Nat.mul_le_mul (show q ≤ 4294967295 by omega) (show y0 ≤ 4294967295 by omega)
        rw [← Int.natCast_mul]; exact Int.ofNat_le.2 this
      have qp : 0 ≤ (q : Int) * (y0 : Int) := by rw [← Int.natCast_mul]; exact Int.natCast_nonneg _
      have G := Lib.hid g; clear g
      by_cases hc : 4294967296 ≤ q ∨ r * 4294967296 + d1 < q * y0
      · have hp := gu_pos G.out hc
        have HC := Lib.hid hc
        have ec1 : ((q : Int) - 1) = ((q - 1 : Nat) : Int) := by omega
        have EC1 := Lib.hid ec1; clear ec1
        have hcI : ¬ (4294967296 : Int) ≤ q → (4294967296 : Int) * (r : Int) + (d1 : Int) < (q : Int) * (y0 : Int) := by
          intro h1
          rcases hc with h | h
          · omega
          · rw [← Int.natCast_mul]; omega
        clear hc
        by_cases hr : r + y1 < 4294967296
        · have g1 := Lib.hid (gu_next G.out bd1 HU.out HC.out hr)
          have he : decide ((4294967296 : Int) ≤ (r : Int) + (y1 : Int)) = false := decide_eq_false (by omega)
          by_cases h5 : 4294967296 ≤ q
          · have hd : decide ((4294967296 : Int) ≤ (q : Int)) = true := decide_eq_true (by omega)
            clear hcI h5 hr qp qm
            go_wp2
            go_round
            case rel => exact ⟨q - 1, r + y1, by rw [EC1.out], rfl, g1.out⟩
            case measure => simp [RowKit.intOf]; omega
          · have hd : decide ((4294967296 : Int) ≤ (q : Int)) = false := decide_eq_false (by omega)
            have hcI := hcI (by omega)
            have qm := qm (by omega)
            have hf : decide ((4294967296 : Int) * (r : Int) + (d1 : Int) < (q : Int) * (y0 : Int)) = true := decide_eq_true hcI
            clear hcI h5 hr
            go_wp2
            go_round
            case rel => exact ⟨q - 1, r + y1, by rw [EC1.out], rfl, g1.out⟩
            case measure => simp [RowKit.intOf]; omega
        · have g1 := Lib.hid (gu_break G.out b0 bd1 HU.out HC.out (by omega))
          have he : decide ((4294967296 : Int) ≤ (r : Int) + (y1 : Int)) = true := decide_eq_true (by omega)
          by_cases h5 : 4294967296 ≤ q
          · have hd : decide ((4294967296 : Int) ≤ (q : Int)) = true := decide_eq_true (by omega)
            clear hcI h5 hr qp qm
            go_wp2_with fail
            go_meet
            exact ⟨rfl, q - 1, by rw [EC1.out], g1.out⟩
          · have hd : decide ((4294967296 : Int) ≤ (q : Int)) = false := decide_eq_false (by omega)
            have hcI := hcI (by omega)
            have qm := qm (by omega)
            have hf : decide ((4294967296 : Int) * (r : Int) + (d1 : Int) < (q : Int) * (y0 : Int)) = true := decide_eq_true hcI
            clear hcI h5 hr
            go_wp2_with fail
            go_meet
            exact ⟨rfl, q - 1, by rw [EC1.out], g1.out⟩
      · have c1 : ¬ 4294967296 ≤ q := fun h => hc (.inl h)
        have c2 : q * y0 ≤ r * 4294967296 + d1 := by
          rcases Nat.lt_or_ge (r * 4294967296 + d1) (q * y0) with h | h
          · exact (hc (.inr h)).elim
          · exact h
        have g1 := Lib.hid (gu_done G.out c2)
        have c2I : (q : Int) * (y0 : Int) ≤ (4294967296 : Int) * (r : Int) + (d1 : Int) := by rw [← Int.natCast_mul]; omega
        have hf : decide ((4294967296 : Int) * (r : Int) + (d1 : Int) < (q : Int) * (y0 : Int)) = false := decide_eq_false (Int.not_lt.2 c2I)
        have hd : decide ((4294967296 : Int) ≤ (q : Int)) = false := decide_eq_false (by omega)
        have qm := qm (by omega)
        clear hc c2 c1 c2I
        go_wp2_with fail
        go_meet
        exact ⟨rfl, q, rfl, g1.out⟩
  case rest =>
    obtain ⟨rfl, qa, rfl, ga⟩ := hcut
    obtain ⟨v, kr⟩ : ∃ v, v = u * 4294967296 + d1 - qa * (y1 * 4294967296 + y0) := ⟨_, rfl⟩
    have er : u * 4294967296 + d1 = qa * (y1 * 4294967296 + y0) + v := by
      rw [kr]; exact (Nat.add_sub_cancel' ga.lo).symm
    have hr : v < y1 * 4294967296 + y0 := by
      have := ga.up
      rw [Nat.add_mul, Nat.one_mul, er] at this
      exact Nat.lt_of_add_lt_add_left this
    have br : v < 18446744073709551616 := by clear er kr ga; omega
    have w1 : IntKind.u64.wrap (IntKind.u64.wrap (IntKind.u64.wrap ((u : Int) * 4294967296) + (d1 : Int)) - IntKind.u64.wrap ((qa : Int) * ((y : Int) * 4))) = (v : Int) :=
      wrap3 _ _ _ _ (by
        rw [show (qa : Int) * ((y : Int) * 4) = ((qa * (y * 4) : Nat) : Int) by rw [Int.natCast_mul, Int.natCast_mul]; rfl, ← HY.out]
        have := congrArg (fun n : Nat => (n : Int)) er
        simp only [Int.natCast_add, Int.natCast_mul] at this ⊢
        exact this) (Int.natCast_nonneg _) (by clear er kr ga; omega)
    obtain ⟨qb, kqb⟩ : ∃ qb, qb = v / y1 := ⟨_, rfl⟩
    have g0 := gu_start b1 b2 b0 bd0 hr
    rw [← kqb] at g0
    have gm : qb * y1 ≤ v := by rw [kqb]; exact Nat.div_mul_le_self _ _
    have gq : qb ≤ v := by rw [kqb]; exact Nat.div_le_self _ _
    have w2 : IntKind.u64.wrap (((v : Int)).tdiv (y1 : Int)) = (qb : Int) := by
      rw [wrap_u64, show ((v : Int)).tdiv (y1 : Int) = ((v / y1 : Nat) : Int) from rfl, ← kqb]; clear er kr ga; omega
    have w3 : IntKind.u64.wrap ((v : Int) - IntKind.u64.wrap ((qb : Int) * (y1 : Int))) = ((v - qb * y1 : Nat) : Int) := by
      rw [← Int.natCast_mul, wrap_u64, wrap_u64]; clear er kr ga; omega
    have G2 := Lib.hid g0; have HR := Lib.hid hr; have W1 := Lib.hid w1; have W2 := Lib.hid w2; have W3 := Lib.hid w3; have GA := Lib.hid ga; have ER := Lib.hid er
    clear g0 hr w1 w2 w3 ga er kr gm gq kqb hl hy hy1 h h0 bu br hne
    go_upto_block 2 with fail
    simp only [W1.out, W2.out, W3.out]
    go_cut [18] (fun s15 wx => w = wx ∧ ∃ q : Nat, s15 = .int .u64 (q : Int) ∧ Gd y1 y0 v d0 q)
    case first =>
      go_wp2_with fail
      clear b1
      go_loop [18, 16] (fun s15 s16 => ∃ q r : Nat, s15 = .int .u64 (q : Int) ∧ s16 = .int .u64 (r : Int) ∧ Gu y1 y0 v d0 q r) (fun s15 _ => (RowKit.intOf s15).toNat)
      case atStart => exact ⟨qb, _, rfl, rfl, G2.out⟩
      case round =>
        obtain ⟨q, r, rfl, rfl, g⟩ := hrel
        have ql := g.ql
        have rl := g.rl
        have qm : (q : Int) < 4294967296 → (q : Int) * (y0 : Int) ≤ 18446744065119617025 := fun h => by
          have := Nat.mul_le_mul (show q ≤ 4294967295 by omega) (show y0 ≤ 4294967295 by omega)
          rw [← Int.natCast_mul]; exact Int.ofNat_le.2 this
        have qp : 0 ≤ (q : Int) * (y0 : Int) := by rw [← Int.natCast_mul]; exact Int.natCast_nonneg _
        have G := Lib.hid g; clear g
        by_cases hc : 4294967296 ≤ q ∨ r * 4294967296 + d0 < q * y0
        · have hp := gu_pos G.out hc
          have HC := Lib.hid hc
          have ec1 : ((q : Int) - 1) = ((q - 1 : Nat) : Int) := by omega
          have EC1 := Lib.hid ec1; clear ec1
          have hcI : ¬ (4294967296 : Int) ≤ q → (4294967296 : Int) * (r : Int) + (d0 : Int) < (q : Int) * (y0 : Int) := by
            intro h1
            rcases hc with h | h
            · omega
            · rw [← Int.natCast_mul]; omega
          clear hc
          by_cases hr : r + y1 < 4294967296
          · have g1 := Lib.hid (gu_next G.out bd0 HR.out HC.out hr)
            have he : decide ((4294967296 : Int) ≤ (r : Int) + (y1 : Int)) = false := decide_eq_false (by omega)
            by_cases h5 : 4294967296 ≤ q
            · have hd : decide ((4294967296 : Int) ≤ (q : Int)) = true := decide_eq_true (by omega)
              clear hcI h5 hr qp qm
              go_wp2
              go_round
              case rel => exact ⟨q - 1, r + y1, by rw [EC1.out], rfl, g1.out⟩
              case measure => simp [RowKit.intOf]; omega
            · have hd : decide ((4294967296 : Int) ≤ (q : Int)) = false := decide_eq_false (by omega)
              have hcI := hcI (by omega)
              have qm := qm (by omega)
              have hf : decide ((4294967296 : Int) * (r : Int) + (d0 : Int) < (q : Int) * (y0 : Int)) = true := decide_eq_true hcI
              clear hcI h5 hr
              go_wp2
              go_round
              case rel => exact ⟨q - 1, r + y1, by rw [EC1.out], rfl, g1.out⟩
              case measure => simp [RowKit.intOf]; omega
          · have g1 := Lib.hid (gu_break G.out b0 bd0 HR.out HC.out (by omega))
            have he : decide ((4294967296 : Int) ≤ (r : Int) + (y1 : Int)) = true := decide_eq_true (by omega)
            by_cases h5 : 4294967296 ≤ q
            · have hd : decide ((4294967296 : Int) ≤ (q : Int)) = true := decide_eq_true (by omega)
              clear hcI h5 hr qp qm
              go_wp2_with fail
              go_meet
              exact ⟨rfl, q - 1, by rw [EC1.out], g1.out⟩
            · have hd : decide ((4294967296 : Int) ≤ (q : Int)) = false := decide_eq_false (by omega)
              have hcI := hcI (by omega)
              have qm := qm (by omega)
              have hf : decide ((4294967296 : Int) * (r : Int) + (d0 : Int) < (q : Int) * (y0 : Int)) = true := decide_eq_true hcI
              clear hcI h5 hr
              go_wp2_with fail
              go_meet
              exact ⟨rfl, q - 1, by rw [EC1.out], g1.out⟩
        · have c1 : ¬ 4294967296 ≤ q := fun h => hc (.inl h)
          have c2 : q * y0 ≤ r * 4294967296 + d0 := by
            rcases Nat.lt_or_ge (r * 4294967296 + d0) (q * y0) with h | h
            · exact (hc (.inr h)).elim
            · exact h
          have g1 := Lib.hid (gu_done G.out c2)
          have c2I : (q : Int) * (y0 : Int) ≤ (4294967296 : Int) * (r : Int) + (d0 : Int) := by rw [← Int.natCast_mul]; omega
          have hf : decide ((4294967296 : Int) * (r : Int) + (d0 : Int) < (q : Int) * (y0 : Int)) = false := decide_eq_false (Int.not_lt.2 c2I)
          have hd : decide ((4294967296 : Int) ≤ (q : Int)) = false := decide_eq_false (by omega)
          have qm := qm (by omega)
          clear hc c2 c1 c2I
          go_wp2_with fail
          go_meet
          exact ⟨rfl, q, rfl, g1.out⟩
    case rest =>
      obtain ⟨rfl, qc, rfl, gc⟩ := hcut
      obtain ⟨n1, n2⟩ := norm 2 hi lo y y1 y0 u d1 d0 qa qc (by rw [HY.out]) HP.out HN.out v ER.out gc
      rw [← HN0.out] at n1 n2
      have hq : N / y < 18446744073709551616 := HQ.out
      obtain ⟨x, kx⟩ : ∃ x, x = v * 4294967296 + d0 - qc * (y1 * 4294967296 + y0) := ⟨_, rfl⟩
      have ex : v * 4294967296 + d0 = qc * (y1 * 4294967296 + y0) + x := by
        rw [kx]; exact (Nat.add_sub_cancel' gc.lo).symm
      have hx : x < y1 * 4294967296 + y0 := by
        have := gc.up
        rw [Nat.add_mul, Nat.one_mul, ex] at this
        exact Nat.lt_of_add_lt_add_left this
      have w1 : IntKind.u64.wrap (IntKind.u64.wrap (IntKind.u64.wrap ((v : Int) * 4294967296) + (d0 : Int)) - IntKind.u64.wrap ((qc : Int) * ((y : Int) * 4))) = (x : Int) :=
        wrap3 _ _ _ _ (by
          rw [show (qc : Int) * ((y : Int) * 4) = ((qc * (y * 4) : Nat) : Int) by rw [Int.natCast_mul, Int.natCast_mul]; rfl, ← HY.out]
          have := congrArg (fun n : Nat => (n : Int)) ex
          simp only [Int.natCast_add, Int.natCast_mul] at this ⊢
          exact this) (Int.natCast_nonneg _) (by clear ex kx n1 n2 hq; omega)
      have w2 : IntKind.u64.wrap (IntKind.u64.wrap ((qa : Int) * 4294967296) + (qc : Int)) = ((N / y : Nat) : Int) := by
        rw [n1] at hq ⊢
        have e : (qa : Int) * 4294967296 + (qc : Int) = ((qa * 4294967296 + qc : Nat) : Int) := by simp only [Int.natCast_add, Int.natCast_mul]; rfl
        rw [wrap2 _ _ (by rw [e]; exact Int.natCast_nonneg _) (by rw [e]; exact Int.ofNat_lt.2 hq), e]
      have w3 : (x : Int) / 4 = ((N % y : Nat) : Int) := by
        rw [← n2, ← kx]; rfl
      have W4 := Lib.hid w1; have W5 := Lib.hid w2; have W6 := Lib.hid w3
      clear w1 w2 w3 n1 n2 hq kx ex hx gc
      go_wp2
      simp only [W4.out, W5.out, W6.out]
      go_ret2
      exact ⟨rfl, rfl⟩

set_option maxRecDepth 100000 in
set_option maxHeartbeats 4000000 in
theorem div3_any (N hi lo y : Nat) (hN0 : N = hi * 18446744073709551616 + lo) (h0 : 0 < hi) (h : hi < y) (hl : lo < 18446744073709551616) (hy : y < 2305843009213693952) (hy1 : 1152921504606846976 ≤ y) (hb : Lib.bitLen y = 61) (w : World) :
    Calls Tryd.prog 87 #[.int .u64 (hi : Int), .int .u64 (lo : Int), .int .u64 (y : Int)] w fun e w' => e = .returned (.tuple #[.int .u64 ((N / y : Nat) : Int), .int .u64 ((N % y : Nat) : Int)]) ∧ w = w' := by
  have hb1 : (64 - (Lib.bitLen ((y : Int).toNat) : Int)) = 3 := by rw [Int.toNat_natCast, hb]; rfl
  have HB := Lib.hid hb1; clear hb hb1
  -- the digits
  obtain ⟨y1, k1⟩ : ∃ y1, y1 = y * 8 / 4294967296 := ⟨_, rfl⟩
  obtain ⟨y0, k0⟩ : ∃ y0, y0 = y * 8 % 4294967296 := ⟨_, rfl⟩
  obtain ⟨u, ku⟩ : ∃ u, u = hi * 8 + lo / 2305843009213693952 := ⟨_, rfl⟩
  obtain ⟨l4, kl⟩ : ∃ l4, l4 = lo * 8 % 18446744073709551616 := ⟨_, rfl⟩
  obtain ⟨d1, kd1⟩ : ∃ d1, d1 = l4 / 4294967296 := ⟨_, rfl⟩
  obtain ⟨d0, kd0⟩ : ∃ d0, d0 = l4 % 4294967296 := ⟨_, rfl⟩
  have b1 : 2147483648 ≤ y1 := by omega
  have b2 : y1 < 4294967296 := by omega
  have b0 : y0 < 4294967296 := by omega
  have bd1 : d1 < 4294967296 := by omega
  have bd0 : d0 < 4294967296 := by omega
  have hyy : y1 * 4294967296 + y0 = y * 8 := by omega
  have hu : u < y1 * 4294967296 + y0 := by omega
  have hN : u * 18446744073709551616 + d1 * 4294967296 + d0 = (hi * 18446744073709551616 + lo) * 2 ^ 3 := by
    have := digits 3 2305843009213693952 hi lo u l4 (by decide) ku kl
    have h2 := Nat.div_add_mod l4 4294967296
    rw [← kd1, ← kd0, Nat.mul_comm] at h2
    rw [Nat.add_assoc, h2]
    exact this
  have bu : u < 18446744073709551616 := by omega
  have r1 : (y : Int) * 8 / 4294967296 = (y1 : Int) := by omega
  have r2 : bits .and .u64 ((y : Int) * 8) 4294967295 = (y0 : Int) := by
    rw [show (y : Int) * 8 = ((y * 8 : Nat) : Int) from rfl, and32 _ (by omega), k0]
  have r3 : bits .or .u64 ((hi : Int) * 8) ((lo : Int) / 2305843009213693952) = (u : Int) := by
    rw [show (lo : Int) / 2305843009213693952 = ((lo / 2305843009213693952 : Nat) : Int) from rfl]
    exact (or_low 3 hi _ (by omega) (by show hi * 8 + _ < _; omega) (by show _ < 8; omega)).trans (by rw [ku])
  have r4 : IntKind.u64.wrap ((lo : Int) * 8) = (l4 : Int) := by rw [wrap_u64]; omega
  have r5 : (l4 : Int) / 4294967296 = (d1 : Int) := by omega
  have r6 : bits .and .u64 (l4 : Int) 4294967295 = (d0 : Int) := by rw [and32 _ (by omega), kd0]
  have g0 := gu_start b1 b2 b0 bd1 hu
  obtain ⟨q1, kq1⟩ : ∃ q1, q1 = u / y1 := ⟨_, rfl⟩
  rw [← kq1] at g0
  have gm : q1 * y1 ≤ u := by rw [kq1]; exact Nat.div_mul_le_self _ _
  have gq : q1 ≤ u := by rw [kq1]; exact Nat.div_le_self _ _
  have r7 : IntKind.u64.wrap (((u : Int)).tdiv (y1 : Int)) = (q1 : Int) := by
    rw [wrap_u64, show ((u : Int)).tdiv (y1 : Int) = ((u / y1 : Nat) : Int) from rfl, ← kq1]; omega
  have r8 : IntKind.u64.wrap ((u : Int) - IntKind.u64.wrap ((q1 : Int) * (y1 : Int))) = ((u - q1 * y1 : Nat) : Int) := by
    rw [← Int.natCast_mul, wrap_u64, wrap_u64]; omega
  have G0 := Lib.hid g0; have HN := Lib.hid hN; have HY := Lib.hid hyy
  have HU := Lib.hid hu
  have HQ := Lib.hid (quo_lt hi lo y N h hl hN0)
  have HN0 := Lib.hid hN0; clear hN0
  have HP := Lib.hid (by omega : 0 < y)
  have R1 := Lib.hid r1; have R2 := Lib.hid r2; have R3 := Lib.hid r3; have R4 := Lib.hid r4; have R5 := Lib.hid r5; have R6 := Lib.hid r6; have R7 := Lib.hid r7; have R8 := Lib.hid r8
  have hne : ¬ (y : Int) * 8 / 4294967296 = 0 := by omega
  clear g0 hN hyy hu gm gq ku kl kd1 kd0 k1 k0 kq1 r1 r2 r3 r4 r5 r6 r7 r8
  go_enter Tryd.func87, Tryd.ntmps87
  go_wp2_with fail
  refine (Tryd.bits_LeadingZeros64 _ _ (by omega) (by omega)).mono ?_
  rintro e w' ⟨rfl, hw⟩
  obtain rfl : w = w' := hw.symm
  clear hw
  rw [HB.out]
  go_upto_block 0 with fail
  simp only [R1.out, R2.out, R3.out, R4.out, R5.out, R6.out, R7.out, R8.out]
  go_cut [15] (fun s15 wx => w = wx ∧ ∃ q : Nat, s15 = .int .u64 (q : Int) ∧ Gd y1 y0 u d1 q)
  case first =>
    go_wp2_with fail
    clear hne hl hy hy1 h h0 bu
    go_loop [15, 16] (fun s15 s16 => ∃ q r : Nat, s15 = .int .u64 (q : Int) ∧ s16 = .int .u64 (r : Int) ∧ Gu y1 y0 u d1 q r) (fun s15 _ => (RowKit.intOf s15).toNat)
    case atStart => exact ⟨q1, _, rfl, rfl, G0.out⟩
    case round =>
      obtain ⟨q, r, rfl, rfl, g⟩ := hrel
      have ql := g.ql
      have rl := g.rl
      have qm : (q : Int) < 4294967296 → (q : Int) * (y0 : Int) ≤ 18446744065119617025 := fun h => by
        have := Nat.mul_le_mul (show q ≤ 4294967295 by omega) (show y0 ≤ 4294967295 by omega)
        rw [← Int.natCast_mul]; exact Int.ofNat_le.2 this
      have qp : 0 ≤ (q : Int) * (y0 : Int) := by rw [← Int.natCast_mul]; exact Int.natCast_nonneg _
      have G := Lib.hid g; clear g
      by_cases hc : 4294967296 ≤ q ∨ r * 4294967296 + d1 < q * y0
      · have hp := gu_pos G.out hc
        have HC := Lib.hid hc
        have ec1 : ((q : Int) - 1) = ((q - 1 : Nat) : Int) := by omega
        have EC1 := Lib.hid ec1; clear ec1
        have hcI : ¬ (4294967296 : Int) ≤ q → (4294967296 : Int) * (r : Int) + (d1 : Int) < (q : Int) * (y0 : Int) := by
          intro h1
          rcases hc with h | h
          · omega
          · rw [← Int.natCast_mul]; omega
        clear hc
        by_cases hr : r + y1 < 4294967296
        · have g1 := Lib.hid (gu_next G.out bd1 HU.out HC.out hr)
          have he : decide ((4294967296 : Int) ≤ (r : Int) + (y1 : Int)) = false := decide_eq_false (by omega)
          by_cases h5 : 4294967296 ≤ q
          · have hd : decide ((4294967296 : Int) ≤ (q : Int)) = true := decide_eq_true (by omega)
            clear hcI h5 hr qp qm
            go_wp2
            go_round
            case rel => exact ⟨q - 1, r + y1, by rw [EC1.out], rfl, g1.out⟩
            case measure => simp [RowKit.intOf]; omega
          · have hd : decide ((4294967296 : Int) ≤ (q : Int)) = false := decide_eq_false (by omega)
            have hcI := hcI (by omega)
            have qm := qm (by omega)
            have hf : decide ((4294967296 : Int) * (r : Int) + (d1 : Int) < (q : Int) * (y0 : Int)) = true := decide_eq_true hcI
            clear hcI h5 hr
            go_wp2
            go_round
            case rel => exact ⟨q - 1, r + y1, by rw [EC1.out], rfl, g1.out⟩
            case measure => simp [RowKit.intOf]; omega
        · have g1 := Lib.hid (gu_break G.out b0 bd1 HU.out HC.out (by omega))
          have he : decide ((4294967296 : Int) ≤ (r : Int) + (y1 : Int)) = true := decide_eq_true (by omega)
          by_cases h5 : 4294967296 ≤ q
          · have hd : decide ((4294967296 : Int) ≤ (q : Int)) = true := decide_eq_true (by omega)
            clear hcI h5 hr qp qm
            go_wp2_with fail
            go_meet
            exact ⟨rfl, q - 1, by rw [EC1.out], g1.out⟩
          · have hd : decide ((4294967296 : Int) ≤ (q : Int)) = false := decide_eq_false (by omega)
            have hcI := hcI (by omega)
            have qm := qm (by omega)
            have hf : decide ((4294967296 : Int) * (r : Int) + (d1 : Int) < (q : Int) * (y0 : Int)) = true := decide_eq_true hcI
            clear hcI h5 hr
            go_wp2_with fail
            go_meet
            exact ⟨rfl, q - 1, by rw [EC1.out], g1.out⟩
      · have c1 : ¬ 4294967296 ≤ q := fun h => hc (.inl h)
        have c2 : q * y0 ≤ r * 4294967296 + d1 := by
          rcases Nat.lt_or_ge (r * 4294967296 + d1) (q * y0) with h | h
          · exact (hc (.inr h)).elim
          · exact h
        have g1 := Lib.hid (gu_done G.out c2)
        have c2I : (q : Int) * (y0 : Int) ≤ (4294967296 : Int) * (r : Int) + (d1 : Int) := by rw [← Int.natCast_mul]; omega
        have hf : decide ((4294967296 : Int) * (r : Int) + (d1 : Int) < (q : Int) * (y0 : Int)) = false := decide_eq_false (Int.not_lt.2 c2I)
        have hd : decide ((4294967296 : Int) ≤ (q : Int)) = false := decide_eq_false (by omega)
        have qm := qm (by omega)
        clear hc c2 c1 c2I
        go_wp2_with fail
        go_meet
        exact ⟨rfl, q, rfl, g1.out⟩
  case rest =>
    obtain ⟨rfl, qa, rfl, ga⟩ := hcut
    obtain ⟨v, kr⟩ : ∃ v, v = u * 4294967296 + d1 - qa * (y1 * 4294967296 + y0) := ⟨_, rfl⟩
    have er : u * 4294967296 + d1 = qa * (y1 * 4294967296 + y0) + v := by
      rw [kr]; exact (Nat.add_sub_cancel' ga.lo).symm
    have hr : v < y1 * 4294967296 + y0 := by
      have := ga.up
      rw [Nat.add_mul, Nat.one_mul, er] at this
      exact Nat.lt_of_add_lt_add_left this
    have br : v < 18446744073709551616 := by clear er kr ga; omega
    have w1 : IntKind.u64.wrap (IntKind.u64.wrap (IntKind.u64.wrap ((u : Int) * 4294967296) + (d1 : Int)) - IntKind.u64.wrap ((qa : Int) * ((y : Int) * 8))) = (v : Int) :=
      wrap3 _ _ _ _ (by
        rw [show (qa : Int) * ((y : Int) * 8) = ((qa * (y * 8) : Nat) : Int) by rw [Int.natCast_mul, Int.natCast_mul]; rfl, ← HY.out]
        have := congrArg (fun n : Nat => (n : Int)) er
        simp only [Int.natCast_add, Int.natCast_mul] at this ⊢
        exact this) (Int.natCast_nonneg _) (by clear er kr ga; omega)
    obtain ⟨qb, kqb⟩ : ∃ qb, qb = v / y1 := ⟨_, rfl⟩
    have g0 := gu_start b1 b2 b0 bd0 hr
    rw [← kqb] at g0
    have gm : qb * y1 ≤ v := by rw [kqb]; exact Nat.div_mul_le_self _ _
    have gq : qb ≤ v := by rw [kqb]; exact Nat.div_le_self _ _
    have w2 : IntKind.u64.wrap (((v : Int)).tdiv (y1 : Int)) = (qb : Int) := by
      rw [wrap_u64, show ((v : Int)).tdiv (y1 : Int) = ((v / y1 : Nat) : Int) from rfl, ← kqb]; clear er kr ga; omega
    have w3 : IntKind.u64.wrap ((v : Int) - IntKind.u64.wrap ((qb : Int) * (y1 : Int))) = ((v - qb * y1 : Nat) : Int) := by
      rw [← Int.natCast_mul, wrap_u64, wrap_u64]; clear er kr ga; omega
    have G2 := Lib.hid g0; have HR := Lib.hid hr; have W1 := Lib.hid w1; have W2 := Lib.hid w2; have W3 := Lib.hid w3; have GA := Lib.hid ga; have ER := Lib.hid er
    clear g0 hr w1 w2 w3 ga er kr gm gq kqb hl hy hy1 h h0 bu br hne
    go_upto_block 2 with fail
    simp only [W1.out, W2.out, W3.out]
    go_cut [18] (fun s15 wx => w = wx ∧ ∃ q : Nat, s15 = .int .u64 (q : Int) ∧ Gd y1 y0 v d0 q)
    case first =>
      go_wp2_with fail
      clear b1
      go_loop [18, 16] (fun s15 s16 => ∃ q r : Nat, s15 = .int .u64 (q : Int) ∧ s16 = .int .u64 (r : Int) ∧ Gu y1 y0 v d0 q r) (fun s15 _ => (RowKit.intOf s15).toNat)
      case atStart => exact ⟨qb, _, rfl, rfl, G2.out⟩
      case round =>
        obtain ⟨q, r, rfl, rfl, g⟩ := hrel
        have ql := g.ql
        have rl := g.rl
        have qm : (q : Int) < 4294967296 → (q : Int) * (y0 : Int) ≤ 18446744065119617025 := fun h => by
          have := Nat.mul_le_mul (show q ≤ 4294967295 by omega) (show y0 ≤ 4294967295 by omega)
          rw [← Int.natCast_mul]; exact Int.ofNat_le.2 this
        have qp : 0 ≤ (q : Int) * (y0 : Int) := by rw [← Int.natCast_mul]; exact Int.natCast_nonneg _
        have G := Lib.hid g; clear g
        by_cases hc : 4294967296 ≤ q ∨ r * 4294967296 + d0 < q * y0
        · have hp := gu_pos G.out hc
          have HC := Lib.hid hc
          have ec1 : ((q : Int) - 1) = ((q - 1 : Nat) : Int) := by omega
          have EC1 := Lib.hid ec1; clear ec1
          have hcI : ¬ (4294967296 : Int) ≤ q → (4294967296 : Int) * (r : Int) + (d0 : Int) < (q : Int) * (y0 : Int) := by
            intro h1
            rcases hc with h | h
            · omega
            · rw [← Int.natCast_mul]; omega
          clear hc
          by_cases hr : r + y1 < 4294967296
          · have g1 := Lib.hid (gu_next G.out bd0 HR.out HC.out hr)
            have he : decide ((4294967296 : Int) ≤ (r : Int) + (y1 : Int)) = false := decide_eq_false (by omega)
            by_cases h5 : 4294967296 ≤ q
            · have hd : decide ((4294967296 : Int) ≤ (q : Int)) = true := decide_eq_true (by omega)
              clear hcI h5 hr qp qm
              go_wp2
              go_round
              case rel => exact ⟨q - 1, r + y1, by rw [EC1.out], rfl, g1.out⟩
              case measure => simp [RowKit.intOf]; omega
            · have hd : decide ((4294967296 : Int) ≤ (q : Int)) = false := decide_eq_false (by omega)
              have hcI := hcI (by omega)
              have qm := qm (by omega)
              have hf : decide ((4294967296 : Int) * (r : Int) + (d0 : Int) < (q : Int) * (y0 : Int)) = true := decide_eq_true hcI
              clear hcI h5 hr
              go_wp2
              go_round
              case rel => exact ⟨q - 1, r + y1, by rw [EC1.out], rfl, g1.out⟩
              case measure => simp [RowKit.intOf]; omega
          · have g1 := Lib.hid (gu_break G.out b0 bd0 HR.out HC.out (by omega))
            have he : decide ((4294967296 : Int) ≤ (r : Int) + (y1 : Int)) = true := decide_eq_true (by omega)
            by_cases h5 : 4294967296 ≤ q
            · have hd : decide ((4294967296 : Int) ≤ (q : Int)) = true := decide_eq_true (by omega)
              clear hcI h5 hr qp qm
              go_wp2_with fail
              go_meet
              exact ⟨rfl, q - 1, by rw [EC1.out], g1.out⟩
            · have hd : decide ((4294967296 : Int) ≤ (q : Int)) = false := decide_eq_false (by omega)
              have hcI := hcI (by omega)
              have qm := qm (by omega)
              have hf : decide ((4294967296 : Int) * (r : Int) + (d0 : Int) < (q : Int) * (y0 : Int)) = true := decide_eq_true hcI
              clear hcI h5 hr
              go_wp2_with fail
              go_meet
              exact ⟨rfl, q - 1, by rw [EC1.out], g1.out⟩
        · have c1 : ¬ 4294967296 ≤ q := fun h => hc (.inl h)
          have c2 : q * y0 ≤ r * 4294967296 + d0 := by
            rcases Nat.lt_or_ge (r * 4294967296 + d0) (q * y0) with h | h
            · exact (hc (.inr h)).elim
            · exact h
          have g1 := Lib.hid (gu_done G.out c2)
          have c2I : (q : Int) * (y0 : Int) ≤ (4294967296 : Int) * (r : Int) + (d0 : Int) := by rw [← Int.natCast_mul]; omega
          have hf : decide ((4294967296 : Int) * (r : Int) + (d0 : Int) < (q : Int) * (y0 : Int)) = false := decide_eq_false (Int.not_lt.2 c2I)
          have hd : decide ((4294967296 : Int) ≤ (q : Int)) = false := decide_eq_false (by omega)
          have qm := qm (by omega)
          clear hc c2 c1 c2I
          go_wp2_with fail
          go_meet
          exact ⟨rfl, q, rfl, g1.out⟩
    case rest =>
      obtain ⟨rfl, qc, rfl, gc⟩ := hcut
      obtain ⟨n1, n2⟩ := norm 3 hi lo y y1 y0 u d1 d0 qa qc (by rw [HY.out]) HP.out HN.out v ER.out gc
      rw [← HN0.out] at n1 n2
      have hq : N / y < 18446744073709551616 := HQ.out
      obtain ⟨x, kx⟩ : ∃ x, x = v * 4294967296 + d0 - qc * (y1 * 4294967296 + y0) := ⟨_, rfl⟩
      have ex : v * 4294967296 + d0 = qc * (y1 * 4294967296 + y0) + x := by
        rw [kx]; exact (Nat.add_sub_cancel' gc.lo).symm
      have hx : x < y1 * 4294967296 + y0 := by
        have := gc.up
        rw [Nat.add_mul, Nat.one_mul, ex] at this
        exact Nat.lt_of_add_lt_add_left this
      have w1 : IntKind.u64.wrap (IntKind.u64.wrap (IntKind.u64.wrap ((v : Int) * 4294967296) + (d0 : Int)) - IntKind.u64.wrap ((qc : Int) * ((y : Int) * 8))) = (x : Int) :=
        wrap3 _ _ _ _ (by
          rw [show (qc : Int) * ((y : Int) * 8) = ((qc * (y * 8) : Nat) : Int) by rw [Int.natCast_mul, Int.natCast_mul]; rfl, ← HY.out]
          have := congrArg (fun n : Nat => (n : Int)) ex
          simp only [Int.natCast_add, Int.natCast_mul] at this ⊢
          exact this) (Int.natCast_nonneg _) (by clear ex kx n1 n2 hq; omega)
      have w2 : IntKind.u64.wrap (IntKind.u64.wrap ((qa : Int) * 4294967296) + (qc : Int)) = ((N / y : Nat) : Int) := by
        rw [n1] at hq ⊢
        have e : (qa : Int) * 4294967296 + (qc : Int) = ((qa * 4294967296 + qc : Nat) : Int) := by simp only [Int.natCast_add, Int.natCast_mul]; rfl
        rw [wrap2 _ _ (by rw [e]; exact Int.natCast_nonneg _) (by rw [e]; exact Int.ofNat_lt.2 hq), e]
      have w3 : (x : Int) / 8 = ((N % y : Nat) : Int) := by
        rw [← n2, ← kx]; rfl
      have W4 := Lib.hid w1; have W5 := Lib.hid w2; have W6 := Lib.hid w3
      clear w1 w2 w3 n1 n2 hq kx ex hx gc
      go_wp2
      simp only [W4.out, W5.out, W6.out]
      go_ret2
      exact ⟨rfl, rfl⟩

set_option maxRecDepth 100000 in
set_option maxHeartbeats 4000000 in
theorem div0_any (lo y : Nat) (h : 0 < y) (hl : lo < 18446744073709551616) (hy : y < 18446744073709551616) (w : World) :
    Calls Tryd.prog 87 #[.int .u64 0, .int .u64 (lo : Int), .int .u64 (y : Int)] w fun e w' => e = .returned (.tuple #[.int .u64 ((lo / y : Nat) : Int), .int .u64 ((lo % y : Nat) : Int)]) ∧ ∃ n, w' = w.drewN n := by
  have h1 : ¬ ((y : Int) ≤ 0) := by omega
  have h2 : ¬ (y : Int) = 0 := by omega
  have h3 : 0 ≤ (lo : Int) / (y : Int) := Int.natCast_nonneg (lo / y)
  have h4 : (lo : Int) / (y : Int) ≤ lo := Int.ofNat_le.2 (Nat.div_le_self lo y)
  have h5 : 0 ≤ (lo : Int) % (y : Int) := Int.natCast_nonneg (lo % y)
  have h6 : (lo : Int) % (y : Int) ≤ lo := Int.ofNat_le.2 (Nat.mod_le lo y)
  go_enter Tryd.func87, Tryd.ntmps87
  go_wp2_with fail
  go_region
  go_wp2
  go_ret2
  exact ⟨rfl, 1, rfl⟩
/-- divisors with 61 or 62 bits -/
def Dv (y : Nat) : Prop := (2305843009213693952 ≤ y ∧ y < 4611686018427387904 ∧ Lib.bitLen y = 62) ∨ (1152921504606846976 ≤ y ∧ y < 2305843009213693952 ∧ Lib.bitLen y = 61)
theorem Dv.bd {y : Nat} (h : Dv y) : 1152921504606846976 ≤ y ∧ y < 4611686018427387904 := by
  rcases h with h | h
  · exact ⟨by omega, h.2.1⟩
  · exact ⟨h.1, by omega⟩
theorem div_any (N hi lo y : Nat) (hN : N = hi * 18446744073709551616 + lo) (hd : Dv y) (h : hi < y) (hl : lo < 18446744073709551616) (w : World) :
    Calls Tryd.prog 87 #[.int .u64 (hi : Int), .int .u64 (lo : Int), .int .u64 (y : Int)] w fun e w' => e = .returned (.tuple #[.int .u64 ((N / y : Nat) : Int), .int .u64 ((N % y : Nat) : Int)]) ∧ ∃ n, w' = w.drewN n := by
  have := hd.bd
  rcases Nat.eq_zero_or_pos hi with rfl | h0
  · obtain rfl : N = lo := by omega
    exact div0_any N y h hl (by omega) w
  · rcases hd with ⟨a, b, c⟩ | ⟨a, b, c⟩
    · exact (div2_any N hi lo y hN h0 h hl b a c w).mono fun e w' ⟨h1, h2⟩ => ⟨h1, 0, h2 ▸ rfl⟩
    · exact (div3_any N hi lo y hN h0 h hl b a c w).mono fun e w' ⟨h1, h2⟩ => ⟨h1, 0, h2 ▸ rfl⟩
theorem rem_mod (hi lo y : Nat) : (hi % y * 18446744073709551616 + lo) % y = (hi * 18446744073709551616 + lo) % y := by
  rw [Nat.add_mod, Nat.mod_mul_mod, ← Nat.add_mod]
set_option maxRecDepth 100000 in
theorem rem_any (hi lo y : Nat) (hd : Dv y) (hh : hi < 18446744073709551616) (hl : lo < 18446744073709551616) (w : World) :
    Calls Tryd.prog 62 #[.int .u64 (hi : Int), .int .u64 (lo : Int), .int .u64 (y : Int)] w fun e w' => e = .returned (.int .u64 (((hi * 18446744073709551616 + lo) % y : Nat) : Int)) ∧ ∃ n, w' = w.drewN n := by
  have hb := hd.bd
  have h2 : ¬ (y : Int) = 0 := by omega
  have hm : hi % y < y := Nat.mod_lt _ (by omega)
  have e : (hi : Int) % (y : Int) = ((hi % y : Nat) : Int) := rfl
  have HE := Lib.hid e; have HM := Lib.hid hm; have HD := Lib.hid hd; have HL := Lib.hid hl
  clear e hm hd hl
  go_enter Tryd.func62, Tryd.ntmps62
  go_wp2_with fail
  rw [HE.out]
  refine (div_any _ _ _ _ rfl HD.out HM.out HL.out _).mono ?_
  rintro e w' ⟨rfl, n, rfl⟩
  rw [rem_mod]
  go_wp2
  go_ret
  exact ⟨rfl, n, rfl⟩
set_option maxRecDepth 100000 in
/-- a product modulo m -/
theorem product_any (a b m : Nat) (hd : Dv m) (ha : a < 9223372036854775808) (hb : b < 9223372036854775808) (w : World) :
    Calls Tryd.prog 59 #[.int .i64 (a : Int), .int .i64 (b : Int), .int .i64 (m : Int)] w fun e w' => e = .returned (.int .i64 ((a * b % m : Nat) : Int)) ∧ ∃ n, w' = w.drewN n := by
  have hb1 := hd.bd
  have hm : a * b % m < m := Nat.mod_lt _ (by omega)
  obtain ⟨r, hr⟩ : ∃ r, r = a * b % m := ⟨_, rfl⟩
  have hlt : a * b < 9223372036854775808 * 18446744073709551616 := Nat.mul_lt_mul_of_lt_of_le ha (by omega) (by omega)
  have h1 : a * b / 18446744073709551616 < 18446744073709551616 := by
    rw [Nat.div_lt_iff_lt_mul (by omega)]
    exact Nat.lt_of_lt_of_le hlt (by decide)
  have h2 : a * b % 18446744073709551616 < 18446744073709551616 := Nat.mod_lt _ (by omega)
  have e : (a * b / 18446744073709551616 * 18446744073709551616 + a * b % 18446744073709551616) % m = r := by
    rw [Nat.mul_comm (a * b / _), Nat.div_add_mod, hr]
  rw [← hr] at hm ⊢
  have HE := Lib.hid e; have H1 := Lib.hid h1; have H2 := Lib.hid h2; have HD := Lib.hid hd
  clear e h1 h2 hd hlt hr
  go_enter Tryd.func59, Tryd.ntmps59
  go_wp2_with fail
  refine (Tryd.bits_Mul64 a b (by omega) (by omega) _).mono ?_
  rintro e w' ⟨rfl, hw⟩
  obtain rfl : w = w' := hw.symm
  clear hw
  obtain ⟨x, hx⟩ : ∃ x, x = a * b / 18446744073709551616 := ⟨_, rfl⟩
  obtain ⟨z, hz⟩ : ∃ z, z = a * b % 18446744073709551616 := ⟨_, rfl⟩
  have HE' := HE.out; have h1 := H1.out; have h2 := H2.out
  rw [← hx, ← hz] at HE'
  rw [← hx] at h1; rw [← hz] at h2
  rw [← hx, ← hz]
  have H3 := Lib.hid h1; have H4 := Lib.hid h2; have HE := Lib.hid HE'
  clear HE' h1 h2 hx hz
  go_wp2_with fail
  refine (rem_any _ _ _ HD.out H3.out H4.out _).mono ?_
  rintro e w' ⟨rfl, n, rfl⟩
  rw [HE.out]
  go_wp2
  go_ret
  exact ⟨rfl, n, rfl⟩
theorem dvP : Dv 4611686018427377339 := .inl ⟨by decide, by decide, by decide +kernel⟩
theorem dvQ : Dv 2305843009213688669 := .inr ⟨by decide, by decide, by decide +kernel⟩

end Go.Proofs.YtaoehkoffhnidaaDoor

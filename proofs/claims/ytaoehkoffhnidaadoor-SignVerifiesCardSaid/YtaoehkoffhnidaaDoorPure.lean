/- Plain lemmas on numbers: powers modulo m, Fermat's little theorem, Pocklington's criterion; no program. -/

namespace Go.Proofs.YtaoehkoffhnidaaDoor
set_option linter.unusedVariables false

/-! powers modulo m, by halving the exponent -/
def mpf (m a : Nat) : Nat → Nat → Nat
  | 0, _ => 1 % m
  | f + 1, k => if k = 0 then 1 % m else
      let h := mpf m a f (k / 2)
      if k % 2 = 1 then h * h % m * a % m else h * h % m
def mp (m a k : Nat) : Nat := mpf m a 64 k

theorem mpf_eq (m a : Nat) : ∀ f k, k < 2 ^ f → mpf m a f k = a ^ k % m := by
  intro f
  induction f with
  | zero => intro k h; obtain rfl : k = 0 := by omega
            simp [mpf]
  | succ f ih =>
    intro k h
    rw [mpf]
    by_cases hk : k = 0
    · simp [hk]
    · rw [if_neg hk]
      have h2 : k / 2 < 2 ^ f := by rw [Nat.pow_succ] at h; omega
      simp only [ih _ h2]
      have e : k / 2 + k / 2 = 2 * (k / 2) := by omega
      have hs : a ^ (k / 2) % m * (a ^ (k / 2) % m) % m = a ^ (2 * (k / 2)) % m := by
        rw [← Nat.mul_mod, ← Nat.pow_add, e]
      rw [hs]
      by_cases hp : k % 2 = 1
      · rw [if_pos hp]
        conv => rhs; rw [show k = 2 * (k / 2) + 1 by omega, Nat.pow_succ]
        rw [Nat.mod_mul_mod]
      · rw [if_neg hp]
        conv => rhs; rw [show k = 2 * (k / 2) by omega]
theorem mp_eq (m a k : Nat) (h : k < 2 ^ 64) : mp m a k = a ^ k % m := mpf_eq m a 64 k h
theorem mpf_zero (m a f : Nat) : mpf m a f 0 = 1 % m := by cases f <;> simp [mpf]

/-! binomial coefficients; Fermat -/
def ch : Nat → Nat → Nat
  | _, 0 => 1
  | 0, _ + 1 => 0
  | n + 1, k + 1 => ch n k + ch n (k + 1)
theorem ch_zero (n : Nat) : ch n 0 = 1 := by cases n <;> rfl
theorem ch_gt : ∀ n k, n < k → ch n k = 0 := by
  intro n; induction n with
  | zero => intro k h; cases k with
    | zero => omega
    | succ k => rfl
  | succ n ih => intro k h; cases k with
    | zero => omega
    | succ k => rw [ch, ih k (by omega), ih (k + 1) (by omega)]
theorem ch_self : ∀ n, ch n n = 1 := by
  intro n; induction n with
  | zero => rfl
  | succ n ih => rw [ch, ih, ch_gt n (n + 1) (by omega)]
theorem ch_id : ∀ n k, (k + 1) * ch (n + 1) (k + 1) = (n + 1) * ch n k := by
  intro n; induction n with
  | zero => intro k; cases k with
    | zero => rfl
    | succ k => simp [ch]
  | succ n ih =>
    intro k
    cases k with
    | zero => show (0 + 1) * (ch (n + 1) 0 + ch (n + 1) (0 + 1)) = _; have := ih 0; simp only [ch_zero] at *; omega
    | succ k =>
      have h1 := ih k; have h2 := ih (k + 1)
      rw [ch.eq_3 (n + 1) (k + 1)]
      have h3 : ch (n + 1) (k + 1) = ch n k + ch n (k + 1) := rfl
      rw [Nat.mul_add, h2]
      have : (k + 1 + 1) * ch (n + 1) (k + 1) = (k + 1) * ch (n + 1) (k + 1) + ch (n + 1) (k + 1) := by rw [Nat.add_mul]; omega
      rw [this, h1]
      have : (n + 1 + 1) * ch (n + 1) (k + 1) = (n + 1) * ch (n + 1) (k + 1) + ch (n + 1) (k + 1) := by rw [Nat.add_mul]; omega
      rw [this]
      conv => rhs; lhs; rw [h3, Nat.mul_add]
      omega

/-- the sum of ch n k * a ^ k for k < t -/
def bs (n a : Nat) : Nat → Nat
  | 0 => 0
  | t + 1 => bs n a t + ch n t * a ^ t
theorem bs_step (n a : Nat) : ∀ t, bs (n + 1) a (t + 1) = bs n a (t + 1) + a * bs n a t := by
  intro t; induction t with
  | zero => simp [bs, ch_zero]
  | succ t ih =>
    rw [bs, ih]
    rw [show bs n a (t + 1 + 1) = bs n a (t + 1) + ch n (t + 1) * a ^ (t + 1) from rfl]
    rw [show bs n a (t + 1) = bs n a t + ch n t * a ^ t from rfl]
    rw [ch]
    rw [Nat.mul_add, Nat.add_mul, Nat.pow_succ]
    rw [show a * (ch n t * a ^ t) = ch n t * (a ^ t * a) by rw [Nat.mul_left_comm, Nat.mul_comm a]]
    omega
theorem bs_top (n a : Nat) : bs n a (n + 2) = bs n a (n + 1) := by
  rw [bs, ch_gt n (n + 1) (by omega)]; omega
theorem binom (a : Nat) : ∀ n, bs n a (n + 1) = (a + 1) ^ n := by
  intro n; induction n with
  | zero => simp [bs, ch]
  | succ n ih => rw [bs_step, bs_top, ih, Nat.pow_succ, Nat.mul_add, Nat.mul_comm a]; omega

def Pr (p : Nat) : Prop := 2 ≤ p ∧ ∀ d, d ∣ p → d = 1 ∨ d = p
theorem Pr.cop {p a : Nat} (h : Pr p) (ha : ¬ p ∣ a) : Nat.Coprime p a := by
  rcases h.2 _ (Nat.gcd_dvd_left p a) with e | e
  · exact e
  · exact (ha (e ▸ Nat.gcd_dvd_right p a)).elim
theorem Pr.mul {p a b : Nat} (h : Pr p) (hd : p ∣ a * b) : p ∣ a ∨ p ∣ b := by
  by_cases ha : p ∣ a
  · exact .inl ha
  · exact .inr ((h.cop ha).dvd_of_dvd_mul_left hd)
theorem Pr.ch {p : Nat} (h : Pr p) (k : Nat) (h0 : 0 < k) (h1 : k < p) : p ∣ ch p k := by
  obtain ⟨n, rfl⟩ : ∃ n, p = n + 1 := ⟨p - 1, by omega⟩
  obtain ⟨j, rfl⟩ : ∃ j, k = j + 1 := ⟨k - 1, by omega⟩
  have := ch_id n j
  rcases h.mul (a := j + 1) (b := YtaoehkoffhnidaaDoor.ch (n + 1) (j + 1)) ⟨_, this⟩ with e | e
  · have := Nat.le_of_dvd (by omega) e; omega
  · exact e
theorem Pr.bs {p : Nat} (h : Pr p) (a : Nat) : ∀ t, 0 < t → t ≤ p → bs p a t % p = 1 % p := by
  intro t; induction t with
  | zero => intro h; omega
  | succ t ih =>
    intro _ h1
    by_cases ht : t = 0
    · subst ht; simp [YtaoehkoffhnidaaDoor.bs, ch_zero]
    · obtain ⟨c, hc⟩ := h.ch t (by omega) (by omega)
      rw [YtaoehkoffhnidaaDoor.bs, hc, Nat.mul_assoc, Nat.add_mul_mod_self_left]
      exact ih (by omega) (by omega)
theorem fermat {p : Nat} (h : Pr p) : ∀ a, a ^ p % p = a % p := by
  intro a; induction a with
  | zero => rw [Nat.zero_pow (by have := h.1; omega)]
  | succ a ih =>
    rw [← binom, YtaoehkoffhnidaaDoor.bs, ch_self, Nat.one_mul, Nat.add_mod, h.bs a p (by have := h.1; omega) (Nat.le_refl _), ih, ← Nat.add_mod, Nat.add_comm]
theorem dvd_sub_of_mod {p a b : Nat} (h : a % p = b % p) (hle : b ≤ a) : p ∣ a - b := by
  have := Nat.sub_mod_eq_zero_of_mod_eq h
  exact Nat.dvd_of_mod_eq_zero this
theorem mod_of_dvd_sub {p a b : Nat} (h : p ∣ a - b) (hle : b ≤ a) : a % p = b % p := by
  obtain ⟨c, hc⟩ := h
  obtain rfl : a = b + p * c := by omega
  simp
theorem cancel {p a x y : Nat} (h : Pr p) (ha : ¬ p ∣ a) (e : a * x % p = a * y % p) : x % p = y % p := by
  rcases Nat.le_total x y with hle | hle
  · have hd := dvd_sub_of_mod e.symm (Nat.mul_le_mul_left a hle)
    rw [← Nat.mul_sub] at hd
    exact (mod_of_dvd_sub ((h.mul hd).resolve_left ha) hle).symm
  · have hd := dvd_sub_of_mod e (Nat.mul_le_mul_left a hle)
    rw [← Nat.mul_sub] at hd
    exact mod_of_dvd_sub ((h.mul hd).resolve_left ha) hle
theorem fermat1 {p a : Nat} (h : Pr p) (ha : ¬ p ∣ a) : a ^ (p - 1) % p = 1 := by
  have h2 := h.1
  have := fermat h a
  have e : a ^ p = a * a ^ (p - 1) := by rw [← Nat.pow_succ']; congr 1; omega
  rw [e] at this
  have := cancel h ha (x := a ^ (p - 1)) (y := 1) (by rw [Nat.mul_one]; exact this)
  rw [this, Nat.mod_eq_of_lt (by omega)]

/-! Pocklington -/
theorem pow_one_mod {p b k : Nat} (h : b ^ k % p = 1 % p) (c : Nat) : b ^ (k * c) % p = 1 % p := by
  rw [Nat.pow_mul, Nat.pow_mod, h, ← Nat.pow_mod, Nat.one_pow]
theorem pow_gcd {p b : Nat} : ∀ x y, b ^ x % p = 1 % p → b ^ y % p = 1 % p → b ^ (Nat.gcd x y) % p = 1 % p := by
  intro x y
  induction x, y using Nat.gcd.induction with
  | H0 n => intro _ h; rw [Nat.gcd_zero_left]; exact h
  | H1 m n hm ih =>
    intro hx hy
    rw [Nat.gcd_rec]
    refine ih ?_ hx
    have e : b ^ n % p = b ^ (n % m) % p := by
      conv => lhs; rw [← Nat.div_add_mod n m, Nat.pow_add, Nat.mul_mod, pow_one_mod hx, ← Nat.mul_mod, Nat.one_mul]
    rw [← e, hy]
theorem has_prime : ∀ n, 2 ≤ n → Pr n ∨ ∃ p, Pr p ∧ p ∣ n ∧ p * p ≤ n := by
  intro n
  induction n using Nat.strongRecOn with
  | ind n ih =>
    intro h
    by_cases hp : ∀ d, d ∣ n → d = 1 ∨ d = n
    · exact .inl ⟨h, hp⟩
    · refine .inr ?_
      have : ∃ d, d ∣ n ∧ d ≠ 1 ∧ d ≠ n := Classical.byContradiction fun hc => hp fun d hd => Classical.byContradiction fun h2 => hc ⟨d, hd, fun e => h2 (.inl e), fun e => h2 (.inr e)⟩
      obtain ⟨d, ⟨c, hc⟩, h1, h2⟩ := this
      have hc0 : c ≠ 0 := by rintro rfl; simp at hc; omega
      have hd0 : d ≠ 0 := by rintro rfl; simp at hc; omega
      have hc1 : c ≠ 1 := by rintro rfl; simp at hc; omega
      -- the smaller of the two factors
      have : ∃ e, 2 ≤ e ∧ e ∣ n ∧ e * e ≤ n ∧ e < n := by
        rcases Nat.le_total d c with hle | hle
        · refine ⟨d, by omega, ⟨c, hc⟩, by rw [hc]; exact Nat.mul_le_mul_left d hle, ?_⟩
          rw [hc]; exact Nat.lt_of_lt_of_le (by omega : d < d * 2) (Nat.mul_le_mul_left d (by omega))
        · refine ⟨c, by omega, ⟨d, by rw [hc, Nat.mul_comm]⟩, by rw [hc]; exact Nat.mul_le_mul_right c hle, ?_⟩
          rw [hc]; exact Nat.lt_of_lt_of_le (by omega : c < 2 * c) (Nat.mul_le_mul_right c (by omega))
      obtain ⟨e, he2, hen, hee, hlt⟩ := this
      rcases ih e hlt he2 with hp | ⟨p, hp, hpe, hpp⟩
      · exact ⟨e, hp, hen, hee⟩
      · have := Nat.le_of_dvd (by omega) hpe
        exact ⟨p, hp, Nat.dvd_trans hpe hen, Nat.le_trans hpp (Nat.le_of_lt hlt)⟩
theorem pock (n q m a : Nat) (hn : n = q * m + 1) (hq : Pr q) (hqq : n ≤ q * q) (h1 : a ^ (n - 1) % n = 1) (h2 : Nat.gcd (a ^ m % n + n - 1) n = 1) (hn2 : 2 ≤ n) : Pr n := by
  rcases has_prime n hn2 with h | ⟨p, hp, hpn, hpp⟩
  · exact h
  · exfalso
    have hp2 := hp.1
    obtain ⟨c, hc⟩ := hpn
    have e1 : a ^ (n - 1) % p = 1 % p := by rw [← Nat.mod_mod_of_dvd (a ^ (n - 1)) ⟨c, hc⟩, h1]
    have hnd : ¬ p ∣ a := by
      intro hd
      have : p ∣ a ^ (n - 1) := Nat.dvd_trans hd ⟨a ^ (n - 2), by rw [← Nat.pow_succ']; congr 1; omega⟩
      have := Nat.mod_eq_zero_of_dvd this
      rw [this, Nat.mod_eq_of_lt (by omega)] at e1; omega
    have hb : (a ^ m) ^ q % p = 1 % p := by rw [← Nat.pow_mul, Nat.mul_comm m q, show q * m = n - 1 by omega]; exact e1
    have hf : (a ^ m) ^ (p - 1) % p = 1 % p := by
      rw [← Nat.pow_mul, Nat.mul_comm, ]
      exact pow_one_mod (by rw [fermat1 hp hnd, Nat.mod_eq_of_lt (by omega)]) m
    have hg := pow_gcd _ _ hb hf
    by_cases hd : q ∣ p - 1
    · have hle := Nat.le_of_dvd (by omega) hd
      have : q * q < p * p := Nat.mul_lt_mul_of_lt_of_le (by omega) (by omega) (by omega)
      omega
    · have hco := hq.cop hd
      rw [show Nat.gcd q (p - 1) = 1 from hco, Nat.pow_one] at hg
      have hd1 : p ∣ a ^ m % n + n - 1 := by
        apply Nat.dvd_of_mod_eq_zero
        have hm : a ^ m % n % p = 1 % p := by rw [Nat.mod_mod_of_dvd _ ⟨c, hc⟩]; exact hg
        rw [Nat.add_sub_assoc (by omega), Nat.add_mod, hm, ← Nat.add_mod, Nat.add_comm, Nat.sub_add_cancel (by omega), hc, Nat.mul_mod_right]
      have := Nat.dvd_gcd hd1 ⟨c, hc⟩
      rw [h2] at this
      have := Nat.le_of_dvd (by omega) this
      omega

/-! P and Q are prime -/
def small (n : Nat) : Nat → Bool
  | 0 => true
  | k + 1 => (k < 2 || n % k != 0) && small n k
theorem small_spec {n : Nat} : ∀ k, small n k = true → ∀ d, 2 ≤ d → d < k → ¬ d ∣ n := by
  intro k; induction k with
  | zero => intro _ d _ h; omega
  | succ k ih =>
    intro h d h2 hk hd
    simp only [small, Bool.and_eq_true, Bool.or_eq_true, decide_eq_true_eq, bne_iff_ne] at h
    by_cases e : d = k
    · subst e
      rcases h.1 with h1 | h1
      · omega
      · exact h1 (Nat.mod_eq_zero_of_dvd hd)
    · exact ih h.2 d h2 (by omega) hd
theorem prime_small (n k : Nat) (hn : 2 ≤ n) (hk : n < k * k) (h : small n k = true) : Pr n := by
  rcases has_prime n hn with hp | ⟨p, hp, hpn, hpp⟩
  · exact hp
  · exact (small_spec k h p hp.1 (by
      rcases Nat.lt_or_ge p k with h | h
      · exact h
      · have := Nat.mul_le_mul h h; omega) hpn).elim
theorem pock2 (n q m a : Nat) (hn : n = q * m + 1) (hq : Pr q) (hqq : n ≤ q * q) (hlt : n < 2 ^ 64) (h1 : mp n a (n - 1) = 1) (h2 : Nat.gcd (mp n a m + n - 1) n = 1) (hn2 : 2 ≤ n) : Pr n := by
  have hq2 := hq.1
  have : m ≤ q * m := Nat.le_mul_of_pos_left m (by omega)
  rw [mp_eq _ _ _ (by omega)] at h1 h2
  exact pock n q m a hn hq hqq h1 h2 hn2
theorem pr0 : Pr 7930907 := prime_small _ 2817 (by decide) (by decide) (by decide +kernel)
theorem pr1 : Pr 11864636873 := pock2 _ 7930907 1496 2 (by decide) pr0 (by decide) (by decide) (by decide +kernel) (by decide +kernel) (by decide)
theorem pr2 : Pr 1732236983459 := pock2 _ 11864636873 146 2 (by decide) pr1 (by decide) (by decide) (by decide +kernel) (by decide +kernel) (by decide)
theorem pr3 : Pr 249442125618097 := pock2 _ 1732236983459 144 2 (by decide) pr2 (by decide) (by decide) (by decide +kernel) (by decide +kernel) (by decide)
theorem prQ : Pr 2305843009213688669 := pock2 _ 249442125618097 9244 2 (by decide) pr3 (by decide) (by decide) (by decide +kernel) (by decide +kernel) (by decide)
theorem prP : Pr 4611686018427377339 := pock2 _ 2305843009213688669 2 2 (by decide) prQ (by decide) (by decide) (by decide +kernel) (by decide +kernel) (by decide)
end Go.Proofs.YtaoehkoffhnidaaDoor
namespace Go.Proofs.YtaoehkoffhnidaaDoor
set_option linter.unusedVariables false

/-- between two rounds: q is no less than the quotient, r what the first digit leaves -/
structure Gu (y1 y0 u d q r : Nat) : Prop where
  rest : q * y1 + r = u
  rl : r < 4294967296
  up : u * 4294967296 + d < (q + 1) * (y1 * 4294967296 + y0)
  ql : q ≤ 4294967297
/-- behind the loop: q is the quotient -/
structure Gd (y1 y0 u d q : Nat) : Prop where
  lo : q * (y1 * 4294967296 + y0) ≤ u * 4294967296 + d
  up : u * 4294967296 + d < (q + 1) * (y1 * 4294967296 + y0)

theorem gu_start {y1 y0 u d : Nat} (h1 : 2147483648 ≤ y1) (h2 : y1 < 4294967296) (h0 : y0 < 4294967296) (hd : d < 4294967296) (hu : u < y1 * 4294967296 + y0) : Gu y1 y0 u d (u / y1) (u - u / y1 * y1) := by
  have hm : u / y1 * y1 ≤ u := Nat.div_mul_le_self u y1
  have hr : u - u / y1 * y1 < y1 := by
    have := Nat.mod_lt u (by omega : y1 > 0)
    rw [Nat.mod_eq_sub, Nat.mul_comm] at this; exact this
  have hq : u / y1 ≤ 4294967297 := by
    have : u / y1 < 4294967298 := by rw [Nat.div_lt_iff_lt_mul (by omega)]; omega
    omega
  refine ⟨by omega, by omega, ?_, hq⟩
  generalize u / y1 = q at *
  have : (q + 1) * y1 = q * y1 + y1 := by rw [Nat.add_mul, Nat.one_mul]
  have h3 : (q + 1) * (y1 * 4294967296 + y0) = (q + 1) * y1 * 4294967296 + (q + 1) * y0 := by rw [Nat.mul_add, Nat.mul_assoc]
  rw [h3, this]
  omega
theorem gu_pos {y1 y0 u d q r : Nat} (g : Gu y1 y0 u d q r) (hc : 4294967296 ≤ q ∨ r * 4294967296 + d < q * y0) : 1 ≤ q := by
  rcases hc with h | h
  · omega
  · rcases Nat.eq_zero_or_pos q with rfl | h'
    · omega
    · exact h'
theorem gu_less {y1 y0 u d q r : Nat} (g : Gu y1 y0 u d q r) (hd : d < 4294967296) (hu : u < y1 * 4294967296 + y0) (hc : 4294967296 ≤ q ∨ r * 4294967296 + d < q * y0) : u * 4294967296 + d < (q - 1 + 1) * (y1 * 4294967296 + y0) := by
  have hp := gu_pos g hc
  rw [Nat.sub_add_cancel hp]
  have hr := g.rest
  rcases hc with h | h
  · have := Nat.mul_le_mul_right (y1 * 4294967296 + y0) h
    omega
  · rw [Nat.mul_add, ← Nat.mul_assoc]
    rw [← hr, Nat.add_mul, Nat.add_assoc]
    exact Nat.add_lt_add_left h _
theorem gu_next {y1 y0 u d q r : Nat} (g : Gu y1 y0 u d q r) (hd : d < 4294967296) (hu : u < y1 * 4294967296 + y0) (hc : 4294967296 ≤ q ∨ r * 4294967296 + d < q * y0) (hr : r + y1 < 4294967296) : Gu y1 y0 u d (q - 1) (r + y1) := by
  have hp := gu_pos g hc
  have h1 := g.rest
  have h2 := g.ql
  refine ⟨?_, hr, gu_less g hd hu hc, by omega⟩
  rw [Nat.sub_mul, Nat.one_mul]
  have := Nat.mul_le_mul_right y1 hp
  omega
theorem gu_break {y1 y0 u d q r : Nat} (g : Gu y1 y0 u d q r) (h0 : y0 < 4294967296) (hd : d < 4294967296) (hu : u < y1 * 4294967296 + y0) (hc : 4294967296 ≤ q ∨ r * 4294967296 + d < q * y0) (hr : 4294967296 ≤ r + y1) : Gd y1 y0 u d (q - 1) := by
  have hp := gu_pos g hc
  have h1 := g.rest
  have h2 := g.ql
  refine ⟨?_, gu_less g hd hu hc⟩
  obtain ⟨p, rfl⟩ : ∃ p, q = p + 1 := ⟨q - 1, by omega⟩
  simp only [Nat.add_sub_cancel]
  rw [Nat.add_mul, Nat.one_mul] at h1
  have hb : p < 4294967296 := by
    rcases Nat.lt_or_ge p 4294967296 with h | h
    · exact h
    · have := Nat.mul_le_mul_right y1 h; omega
  have : p * y0 ≤ 4294967296 * 4294967296 := Nat.mul_le_mul (by omega) (by omega)
  rw [Nat.mul_add, ← Nat.mul_assoc]
  omega
theorem gu_done {y1 y0 u d q r : Nat} (g : Gu y1 y0 u d q r) (h : q * y0 ≤ r * 4294967296 + d) : Gd y1 y0 u d q := by
  have h1 := g.rest
  refine ⟨?_, g.up⟩
  rw [Nat.mul_add, ← Nat.mul_assoc]
  omega
theorem gd_quo {y1 y0 u d q : Nat} (g : Gd y1 y0 u d q) : (u * 4294967296 + d) / (y1 * 4294967296 + y0) = q :=
  Nat.div_eq_of_lt_le g.lo g.up
theorem gd_rest {y1 y0 u d q : Nat} (g : Gd y1 y0 u d q) : u * 4294967296 + d = q * (y1 * 4294967296 + y0) + (u * 4294967296 + d) % (y1 * 4294967296 + y0) := by
  have := gd_quo g
  have h2 := Nat.div_add_mod (u * 4294967296 + d) (y1 * 4294967296 + y0)
  rw [this, Nat.mul_comm] at h2
  exact h2.symm
end Go.Proofs.YtaoehkoffhnidaaDoor

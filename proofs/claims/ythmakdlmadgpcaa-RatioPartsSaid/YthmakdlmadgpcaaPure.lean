/- Fractions as plain integers: quotients in lowest terms, their order, sums and products; no program. -/
namespace Go.Proofs.Ythmakdlmadgpcaa
set_option linter.unusedVariables false
/-- valid fractions -/
structure Vd (p q : Int) : Prop where
  q1 : 1 ≤ q
  q2 : q ≤ 1073741824
  p1 : -1073741824 ≤ p
  p2 : p ≤ 1073741824
  co : Nat.gcd p.natAbs q.natAbs = 1
/-- the fraction of a quotient, and the error -/
def nw (n d : Int) : Int × Int × Int :=
  if d = 0 then (0, 0, 1)
  else if 1073741824 < n.natAbs / Nat.gcd n.natAbs d.natAbs ∨ 1073741824 < d.natAbs / Nat.gcd n.natAbs d.natAbs then (0, 0, 2)
  else if decide (n < 0) = decide (d < 0) then (((n.natAbs / Nat.gcd n.natAbs d.natAbs : Nat) : Int), ((d.natAbs / Nat.gcd n.natAbs d.natAbs : Nat) : Int), 0)
  else (-((n.natAbs / Nat.gcd n.natAbs d.natAbs : Nat) : Int), ((d.natAbs / Nat.gcd n.natAbs d.natAbs : Nat) : Int), 0)
theorem nw_zero (n : Int) : nw n 0 = (0, 0, 1) := rfl
theorem cop_unique {a b c d : Nat} (hb : 0 < b) (hd : 0 < d) (h1 : Nat.gcd a b = 1) (h2 : Nat.gcd c d = 1) (h : a * d = c * b) : a = c ∧ b = d := by
  have e1 : b ∣ d := (Nat.Coprime.symm h1 : Nat.Coprime b a).dvd_of_dvd_mul_left (by rw [h]; exact Nat.dvd_mul_left b c)
  have e2 : d ∣ b := (Nat.Coprime.symm h2 : Nat.Coprime d c).dvd_of_dvd_mul_left (by rw [← h]; exact Nat.dvd_mul_left d a)
  have e : b = d := Nat.dvd_antisymm e1 e2
  subst e
  exact ⟨Nat.eq_of_mul_eq_mul_right hb h, rfl⟩
theorem vd_unique {p q p' q' : Int} (h : Vd p q) (h' : Vd p' q') (e : p * q' = p' * q) : p = p' ∧ q = q' := by
  have hq := h.q1; have hq' := h'.q1
  have en : p.natAbs * q'.natAbs = p'.natAbs * q.natAbs := by rw [← Int.natAbs_mul, ← Int.natAbs_mul, e]
  obtain ⟨e1, e2⟩ := cop_unique (by omega) (by omega) h.co h'.co en
  have e2' : q = q' := by omega
  subst e2'
  exact ⟨Int.eq_of_mul_eq_mul_right (by omega) e, rfl⟩
/-- what New answers without an error is valid and has the quotient's value -/
theorem nw_some {n d p q : Int} (h : nw n d = (p, q, 0)) : d ≠ 0 ∧ Vd p q ∧ p * d = n * q := by
  unfold nw at h
  split at h
  · simp at h
  rename_i hd
  have hg : 0 < Nat.gcd n.natAbs d.natAbs := Nat.gcd_pos_of_pos_right _ (by omega)
  obtain ⟨g, hgd⟩ : ∃ g, g = Nat.gcd n.natAbs d.natAbs := ⟨_, rfl⟩
  have g1 : g ∣ n.natAbs := hgd ▸ Nat.gcd_dvd_left _ _
  have g2 : g ∣ d.natAbs := hgd ▸ Nat.gcd_dvd_right _ _
  have hco : Nat.gcd (n.natAbs / g) (d.natAbs / g) = 1 := by
    rw [hgd]; exact Nat.gcd_div_gcd_div_gcd_of_pos_right (by omega)
  rw [← hgd] at h hg
  obtain ⟨N, hN⟩ : ∃ N, N = n.natAbs / g := ⟨_, rfl⟩
  obtain ⟨D, hD⟩ : ∃ D, D = d.natAbs / g := ⟨_, rfl⟩
  have eN : n.natAbs = g * N := by rw [hN, Nat.mul_div_cancel' g1]
  have eD : d.natAbs = g * D := by rw [hD, Nat.mul_div_cancel' g2]
  rw [← hN, ← hD] at h hco
  have hD0 : 0 < D := Nat.pos_of_ne_zero (by rintro rfl; simp at eD; omega)
  split at h
  · simp at h
  rename_i hl
  split at h
  · rename_i hs
    simp only [Prod.mk.injEq, and_true] at h
    obtain ⟨rfl, rfl⟩ := h
    refine ⟨hd, ⟨by omega, by omega, by omega, by omega, by simpa using hco⟩, ?_⟩
    rcases Int.lt_or_le n 0 with hn | hn
    · have hd' : d < 0 := by simp [hn] at hs; exact hs
      have a1 : n = -((g : Int) * N) := by have := congrArg (Nat.cast (R := Int)) eN; push_cast at this; omega
      have a2 : d = -((g : Int) * D) := by have := congrArg (Nat.cast (R := Int)) eD; push_cast at this; omega
      rw [a1, a2]; grind
    · have hd' : 0 ≤ d := by have : ¬ n < 0 := by omega
                             simp [this] at hs; exact hs
      have a1 : n = ((g : Int) * N) := by have := congrArg (Nat.cast (R := Int)) eN; push_cast at this; omega
      have a2 : d = ((g : Int) * D) := by have := congrArg (Nat.cast (R := Int)) eD; push_cast at this; omega
      rw [a1, a2]; grind
  · rename_i hs
    simp only [Prod.mk.injEq, and_true] at h
    obtain ⟨rfl, rfl⟩ := h
    refine ⟨hd, ⟨by omega, by omega, by omega, by omega, by simpa using hco⟩, ?_⟩
    rcases Int.lt_or_le n 0 with hn | hn
    · have hd' : 0 ≤ d := by simp [hn] at hs; exact hs
      have a1 : n = -((g : Int) * N) := by have := congrArg (Nat.cast (R := Int)) eN; push_cast at this; omega
      have a2 : d = ((g : Int) * D) := by have := congrArg (Nat.cast (R := Int)) eD; push_cast at this; omega
      rw [a1, a2]; grind
    · have hd' : d < 0 := by have : ¬ n < 0 := by omega
                             simp [this] at hs; exact hs
      have a1 : n = ((g : Int) * N) := by have := congrArg (Nat.cast (R := Int)) eN; push_cast at this; omega
      have a2 : d = -((g : Int) * D) := by have := congrArg (Nat.cast (R := Int)) eD; push_cast at this; omega
      rw [a1, a2]; grind
theorem nw_cases (n d : Int) : (∃ p q, nw n d = (p, q, 0) ∧ Vd p q) ∨ nw n d = (0, 0, 1) ∨ nw n d = (0, 0, 2) := by
  obtain ⟨x, hx⟩ : ∃ x, x = nw n d := ⟨_, rfl⟩
  have hx' := hx
  unfold nw at hx
  split at hx
  · rw [← hx']; exact .inr (.inl hx)
  split at hx
  · rw [← hx']; exact .inr (.inr hx)
  split at hx
  · exact .inl ⟨_, _, hx'.symm.trans hx, (nw_some (hx'.symm.trans hx)).2.1⟩
  · exact .inl ⟨_, _, hx'.symm.trans hx, (nw_some (hx'.symm.trans hx)).2.1⟩
/-- a quotient with a valid fraction of its value: New answers that fraction -/
theorem nw_of {n d p q : Int} (hd : d ≠ 0) (hv : Vd p q) (h : p * d = n * q) : nw n d = (p, q, 0) := by
  have q1 := hv.q1
  have en : p.natAbs * d.natAbs = n.natAbs * q.natAbs := by rw [← Int.natAbs_mul, ← Int.natAbs_mul, h]
  have hco := hv.co
  -- n = g p, d = g q
  have hdv : q.natAbs ∣ d.natAbs := (Nat.Coprime.symm hco : Nat.Coprime q.natAbs p.natAbs).dvd_of_dvd_mul_left (by rw [en]; exact Nat.dvd_mul_left _ _)
  obtain ⟨g, hg⟩ := hdv
  have hq0 : 0 < q.natAbs := by omega
  have hn : n.natAbs = p.natAbs * g := by
    apply Nat.eq_of_mul_eq_mul_right hq0
    rw [← en, hg]; grind
  have hg0 : 0 < g := Nat.pos_of_ne_zero (by rintro rfl; simp at hg; omega)
  have hgcd : Nat.gcd n.natAbs d.natAbs = g := by
    rw [hn, hg, Nat.gcd_mul_right, hco, Nat.one_mul]
  have dN : n.natAbs / g = p.natAbs := by rw [hn, Nat.mul_div_cancel _ hg0]
  have dD : d.natAbs / g = q.natAbs := by rw [hg, Nat.mul_div_cancel _ hg0]
  have p1 := hv.p1; have p2 := hv.p2; have q2 := hv.q2
  unfold nw
  rw [if_neg hd, hgcd, dN, dD, if_neg (by omega)]
  have hs : (d < 0 ∧ (0 < p → n < 0) ∧ (p < 0 → 0 < n)) ∨ (0 < d ∧ (0 < p → 0 < n) ∧ (p < 0 → n < 0)) := by
    rcases Int.lt_or_le d 0 with hd1 | hd1
    · refine .inl ⟨hd1, fun hp => ?_, fun hp => ?_⟩
      · have : p * d < 0 := Int.mul_neg_of_pos_of_neg hp hd1
        rcases Int.lt_or_le n 0 with hn | hn
        · exact hn
        · have : 0 ≤ n * q := Int.mul_nonneg hn (by omega)
          omega
      · have : 0 < p * d := Int.mul_pos_of_neg_of_neg hp hd1
        rcases Int.lt_or_le 0 n with hn | hn
        · exact hn
        · have : n * q ≤ 0 := Int.mul_nonpos_of_nonpos_of_nonneg hn (by omega)
          omega
    · refine .inr ⟨by omega, fun hp => ?_, fun hp => ?_⟩
      · have : 0 < p * d := Int.mul_pos hp (by omega)
        rcases Int.lt_or_le 0 n with hn | hn
        · exact hn
        · have : n * q ≤ 0 := Int.mul_nonpos_of_nonpos_of_nonneg hn (by omega)
          omega
      · have : p * d < 0 := Int.mul_neg_of_neg_of_pos hp (by omega)
        rcases Int.lt_or_le n 0 with hn | hn
        · exact hn
        · have : 0 ≤ n * q := Int.mul_nonneg hn (by omega)
          omega
  have hz : p = 0 → n = 0 := by
    intro hp
    have : n.natAbs = 0 := by rw [hn, hp]; simp
    omega
  have eq : ((q.natAbs : Nat) : Int) = q := by omega
  rw [eq]
  split
  · rename_i hh
    have : ((p.natAbs : Nat) : Int) = p := by
      have hh' : (n < 0 ↔ d < 0) := by simpa using hh
      omega
    rw [this]
  · rename_i hh
    have : -((p.natAbs : Nat) : Int) = p := by
      have hh' : ¬ (n < 0 ↔ d < 0) := by simpa using hh
      omega
    rw [this]
theorem nw_one {n d : Int} (h : nw n d = (0, 0, 1)) : d = 0 := by
  unfold nw at h
  split at h
  · assumption
  split at h
  · simp at h
  split at h <;> simp at h
/-- New depends on the value alone -/
theorem nw_value {n d n' d' : Int} (hd : d ≠ 0) (hd' : d' ≠ 0) (h : n * d' = n' * d) : nw n d = nw n' d' := by
  have go : ∀ {n d n' d' : Int}, d ≠ 0 → d' ≠ 0 → n * d' = n' * d → ∀ p q, nw n d = (p, q, 0) → nw n' d' = (p, q, 0) := by
    intro n d n' d' hd hd' h p q hp
    obtain ⟨_, hv, e⟩ := nw_some hp
    refine nw_of hd' hv ?_
    apply Int.eq_of_mul_eq_mul_right hd
    grind
  rcases nw_cases n d with ⟨p, q, e, _⟩ | e | e
  · rw [e]; exact (go hd hd' h p q e).symm
  · exact absurd (nw_one e) hd
  · rcases nw_cases n' d' with ⟨p, q, e', _⟩ | e' | e'
    · rw [go hd' hd h.symm p q e'] at e; simp at e
    · exact absurd (nw_one e') hd'
    · rw [e, e']
theorem vd_iff (p q : Int) : Vd p q ↔ nw p q = (p, q, 0) := ⟨fun h => nw_of (by have := h.q1; omega) h rfl, fun h => (nw_some h).2.1⟩
/-- Check -/
def chk (p q : Int) : Int := if nw p q = (p, q, 0) then 0 else 50
theorem chk_ok {p q : Int} : chk p q = 0 ↔ Vd p q := by
  unfold chk; rw [vd_iff]; split <;> simp_all
theorem chk_cases (p q : Int) : chk p q = 0 ∨ chk p q = 50 := by unfold chk; split <;> simp
theorem vd_int (n : Int) (h : -1073741824 ≤ n) (h' : n ≤ 1073741824) : Vd n 1 := ⟨by omega, by omega, h, h', by simp⟩
def cmpr (x y : Int) : Int := if x < y then -1 else if y < x then 1 else 0
theorem cmpr_range (x y : Int) : cmpr x y = -1 ∨ cmpr x y = 0 ∨ cmpr x y = 1 := by unfold cmpr; split; simp; split <;> simp
theorem cmpr_lt {x y : Int} : cmpr x y = -1 ↔ x < y := by unfold cmpr; split; simp_all; split <;> simp_all
theorem cmpr_eq {x y : Int} : cmpr x y = 0 ↔ x = y := by unfold cmpr; split; (constructor <;> omega); split <;> (constructor <;> omega)
theorem cmpr_gt {x y : Int} : cmpr x y = 1 ↔ y < x := by unfold cmpr; split; (constructor <;> omega); split <;> (constructor <;> omega)
theorem cmpr_neg (x y : Int) : cmpr x y = -cmpr y x := by unfold cmpr; split <;> split <;> (try split) <;> (try omega) <;> rfl
theorem cmpr_le {x y : Int} : cmpr x y ≤ 0 ↔ x ≤ y := by unfold cmpr; split; (constructor <;> omega); split <;> (constructor <;> omega)
theorem cmpr_scale {k : Int} (hk : 0 < k) (x y : Int) : cmpr (x * k) (y * k) = cmpr x y := by
  unfold cmpr
  have h1 : x * k < y * k ↔ x < y := ⟨fun h => Int.lt_of_mul_lt_mul_right h (by omega), fun h => Int.mul_lt_mul_of_pos_right h hk⟩
  have h2 : y * k < x * k ↔ y < x := ⟨fun h => Int.lt_of_mul_lt_mul_right h (by omega), fun h => Int.mul_lt_mul_of_pos_right h hk⟩
  simp only [h1, h2]
theorem cmpr_sub (x y z : Int) : cmpr (x + z) (y + z) = cmpr x y := by
  unfold cmpr; split <;> split <;> (try split) <;> (try split) <;> omega
theorem cmp_congr {p q p' q' P Q P' Q' : Int} (hq : 0 < q) (hq' : 0 < q') (hQ : 0 < Q) (hQ' : 0 < Q') (h : p * Q = P * q) (h' : p' * Q' = P' * q') :
    cmpr (p * q') (p' * q) = cmpr (P * Q') (P' * Q) := by
  rw [← cmpr_scale (Int.mul_pos hQ hQ') (p * q') (p' * q), ← cmpr_scale (Int.mul_pos hq hq') (P * Q') (P' * Q)]
  congr 1 <;> grind
theorem cmp_trans {an ad bn bd cn cd : Int} (ha : 0 < ad) (hb : 0 < bd) (hc : 0 < cd) (h1 : an * bd ≤ bn * ad) (h2 : bn * cd ≤ cn * bd) : an * cd ≤ cn * ad := by
  have e1 : an * bd * cd ≤ bn * ad * cd := Int.mul_le_mul_of_nonneg_right h1 (by omega)
  have e2 : bn * cd * ad ≤ cn * bd * ad := Int.mul_le_mul_of_nonneg_right h2 (by omega)
  have e3 : an * cd * bd ≤ cn * ad * bd := by
    have a1 : an * cd * bd = an * bd * cd := by grind
    have a2 : bn * ad * cd = bn * cd * ad := by grind
    have a3 : cn * ad * bd = cn * bd * ad := by grind
    omega
  exact Int.le_of_mul_le_mul_right e3 hb
theorem cmp_trans_lt {an ad bn bd cn cd : Int} (ha : 0 < ad) (hb : 0 < bd) (hc : 0 < cd) (h1 : an * bd < bn * ad) (h2 : bn * cd ≤ cn * bd) : an * cd < cn * ad := by
  have e1 : an * bd * cd < bn * ad * cd := Int.mul_lt_mul_of_pos_right h1 (by omega)
  have e2 : bn * cd * ad ≤ cn * bd * ad := Int.mul_le_mul_of_nonneg_right h2 (by omega)
  have e3 : an * cd * bd < cn * ad * bd := by
    have a1 : an * cd * bd = an * bd * cd := by grind
    have a2 : bn * ad * cd = bn * cd * ad := by grind
    have a3 : cn * ad * bd = cn * bd * ad := by grind
    omega
  exact Int.lt_of_mul_lt_mul_right e3 (by omega)
/-- sums and products of valid fractions -/
def sm (an ad bn bd : Int) : Int × Int × Int := nw (an * bd + bn * ad) (ad * bd)
def pr (an ad bn bd : Int) : Int × Int × Int := nw (an * bn) (ad * bd)
theorem sm_comm (an ad bn bd : Int) : sm an ad bn bd = sm bn bd an ad := by unfold sm; rw [Int.add_comm (an * bd), Int.mul_comm ad bd]
theorem pr_comm (an ad bn bd : Int) : pr an ad bn bd = pr bn bd an ad := by unfold pr; rw [Int.mul_comm an, Int.mul_comm ad bd]
theorem sm_some {an ad bn bd p q : Int} (h : sm an ad bn bd = (p, q, 0)) : Vd p q ∧ p * (ad * bd) = (an * bd + bn * ad) * q := ⟨(nw_some h).2.1, (nw_some h).2.2⟩
theorem pr_some {an ad bn bd p q : Int} (h : pr an ad bn bd = (p, q, 0)) : Vd p q ∧ p * (ad * bd) = an * bn * q := ⟨(nw_some h).2.1, (nw_some h).2.2⟩
theorem sm_cases {an ad bn bd : Int} (ha : 0 < ad) (hb : 0 < bd) : (∃ p q, sm an ad bn bd = (p, q, 0) ∧ Vd p q ∧ p * (ad * bd) = (an * bd + bn * ad) * q) ∨ sm an ad bn bd = (0, 0, 2) := by
  rcases nw_cases (an * bd + bn * ad) (ad * bd) with ⟨p, q, h, hv⟩ | h | h
  · exact .inl ⟨p, q, h, hv, (nw_some h).2.2⟩
  · have := nw_one h; have := Int.mul_pos ha hb; omega
  · exact .inr h
theorem pr_cases {an ad bn bd : Int} (ha : 0 < ad) (hb : 0 < bd) : (∃ p q, pr an ad bn bd = (p, q, 0) ∧ Vd p q ∧ p * (ad * bd) = an * bn * q) ∨ pr an ad bn bd = (0, 0, 2) := by
  rcases nw_cases (an * bn) (ad * bd) with ⟨p, q, h, hv⟩ | h | h
  · exact .inl ⟨p, q, h, hv, (nw_some h).2.2⟩
  · have := nw_one h; have := Int.mul_pos ha hb; omega
  · exact .inr h
theorem sm_assoc {an ad bn bd cn cd p q x y p' q' x' y' : Int} (ha : Vd an ad) (hb : Vd bn bd) (hc : Vd cn cd)
    (h1 : sm an ad bn bd = (p, q, 0)) (h2 : sm p q cn cd = (x, y, 0)) (h3 : sm bn bd cn cd = (p', q', 0)) (h4 : sm p' q' an ad = (x', y', 0)) : x = x' ∧ y = y' := by
  obtain ⟨v1, e1⟩ := sm_some h1
  obtain ⟨v2, e2⟩ := sm_some h2
  obtain ⟨v3, e3⟩ := sm_some h3
  obtain ⟨v4, e4⟩ := sm_some h4
  have a1 := ha.q1; have b1 := hb.q1; have c1 := hc.q1; have q1 := v1.q1; have q3 := v3.q1
  refine vd_unique v2 v4 ?_
  -- x/y = (a+b)+c as raw
  have r1 : x * (ad * bd * cd) = ((an * bd + bn * ad) * cd + cn * (ad * bd)) * y := by
    apply Int.eq_of_mul_eq_mul_right (show q ≠ 0 by omega); grind
  have r2 : x' * (ad * bd * cd) = ((an * bd + bn * ad) * cd + cn * (ad * bd)) * y' := by
    apply Int.eq_of_mul_eq_mul_right (show q' ≠ 0 by omega); grind
  have hp : ad * bd * cd ≠ 0 := by have := Int.mul_pos (Int.mul_pos (show 0 < ad by omega) (show 0 < bd by omega)) (show 0 < cd by omega); omega
  apply Int.eq_of_mul_eq_mul_right hp
  grind
theorem pr_assoc {an ad bn bd cn cd p q x y p' q' x' y' : Int} (ha : Vd an ad) (hb : Vd bn bd) (hc : Vd cn cd)
    (h1 : pr an ad bn bd = (p, q, 0)) (h2 : pr p q cn cd = (x, y, 0)) (h3 : pr bn bd cn cd = (p', q', 0)) (h4 : pr an ad p' q' = (x', y', 0)) : x = x' ∧ y = y' := by
  obtain ⟨v1, e1⟩ := pr_some h1
  obtain ⟨v2, e2⟩ := pr_some h2
  obtain ⟨v3, e3⟩ := pr_some h3
  obtain ⟨v4, e4⟩ := pr_some h4
  have a1 := ha.q1; have b1 := hb.q1; have c1 := hc.q1; have q1 := v1.q1; have q3 := v3.q1
  refine vd_unique v2 v4 ?_
  have r1 : x * (ad * bd * cd) = (an * bn * cn) * y := by
    apply Int.eq_of_mul_eq_mul_right (show q ≠ 0 by omega); grind
  have r2 : x' * (ad * bd * cd) = (an * bn * cn) * y' := by
    apply Int.eq_of_mul_eq_mul_right (show q' ≠ 0 by omega); grind
  have hp : ad * bd * cd ≠ 0 := by have := Int.mul_pos (Int.mul_pos (show 0 < ad by omega) (show 0 < bd by omega)) (show 0 < cd by omega); omega
  apply Int.eq_of_mul_eq_mul_right hp
  grind
theorem pr_distr {an ad bn bd cn cd p q x y p' q' r s x' y' : Int} (ha : Vd an ad) (hb : Vd bn bd) (hc : Vd cn cd)
    (h1 : sm an ad bn bd = (p, q, 0)) (h2 : pr p q cn cd = (x, y, 0)) (h3 : pr an ad cn cd = (p', q', 0)) (h4 : pr bn bd cn cd = (r, s, 0)) (h5 : sm p' q' r s = (x', y', 0)) : x = x' ∧ y = y' := by
  obtain ⟨v1, e1⟩ := sm_some h1
  obtain ⟨v2, e2⟩ := pr_some h2
  obtain ⟨v3, e3⟩ := pr_some h3
  obtain ⟨v4, e4⟩ := pr_some h4
  obtain ⟨v5, e5⟩ := sm_some h5
  have a1 := ha.q1; have b1 := hb.q1; have c1 := hc.q1; have q1 := v1.q1; have q3 := v3.q1; have q4 := v4.q1
  refine vd_unique v2 v5 ?_
  have r1 : x * (ad * bd * cd) = ((an * bd + bn * ad) * cn) * y := by
    apply Int.eq_of_mul_eq_mul_right (show q ≠ 0 by omega); grind
  have r2 : x' * (ad * bd * cd) = ((an * bd + bn * ad) * cn) * y' := by
    have hp : q' * s * cd ≠ 0 := by have := Int.mul_pos (Int.mul_pos (show 0 < q' by omega) (show 0 < s by omega)) (show 0 < cd by omega); omega
    apply Int.eq_of_mul_eq_mul_right hp; grind
  have hp : ad * bd * cd ≠ 0 := by have := Int.mul_pos (Int.mul_pos (show 0 < ad by omega) (show 0 < bd by omega)) (show 0 < cd by omega); omega
  apply Int.eq_of_mul_eq_mul_right hp
  grind
theorem sm_zero {an ad : Int} (ha : Vd an ad) : sm an ad 0 1 = (an, ad, 0) := by
  unfold sm
  have := (vd_iff an ad).1 ha
  simpa using this
theorem pr_one {an ad : Int} (ha : Vd an ad) : pr an ad 1 1 = (an, ad, 0) := by
  unfold pr
  have := (vd_iff an ad).1 ha
  simpa using this
/-- sums keep the order -/
theorem cmp_sm {an ad bn bd cn cd x y x' y' : Int} (ha : Vd an ad) (hb : Vd bn bd) (hc : Vd cn cd) (h1 : sm an ad cn cd = (x, y, 0)) (h2 : sm bn bd cn cd = (x', y', 0)) :
    cmpr (x * y') (x' * y) = cmpr (an * bd) (bn * ad) := by
  obtain ⟨v1, e1⟩ := sm_some h1
  obtain ⟨v2, e2⟩ := sm_some h2
  have a1 := ha.q1; have b1 := hb.q1; have c1 := hc.q1; have q1 := v1.q1; have q2 := v2.q1
  have A : 0 < ad * cd := Int.mul_pos (by omega) (by omega)
  have B : 0 < bd * cd := Int.mul_pos (by omega) (by omega)
  rw [cmp_congr (by omega) (by omega) A B e1 e2]
  have k1 : (an * cd + cn * ad) * (bd * cd) = (an * bd) * (cd * cd) + cn * ad * bd * cd := by grind
  have k2 : (bn * cd + cn * bd) * (ad * cd) = (bn * ad) * (cd * cd) + cn * ad * bd * cd := by grind
  rw [k1, k2, cmpr_sub, cmpr_scale (Int.mul_pos (by omega) (by omega))]
theorem cmp_pr {an ad bn bd cn cd x y x' y' : Int} (ha : Vd an ad) (hb : Vd bn bd) (hc : Vd cn cd) (hp : 0 < cn) (h1 : pr an ad cn cd = (x, y, 0)) (h2 : pr bn bd cn cd = (x', y', 0)) :
    cmpr (x * y') (x' * y) = cmpr (an * bd) (bn * ad) := by
  obtain ⟨v1, e1⟩ := pr_some h1
  obtain ⟨v2, e2⟩ := pr_some h2
  have a1 := ha.q1; have b1 := hb.q1; have c1 := hc.q1; have q1 := v1.q1; have q2 := v2.q1
  have A : 0 < ad * cd := Int.mul_pos (by omega) (by omega)
  have B : 0 < bd * cd := Int.mul_pos (by omega) (by omega)
  rw [cmp_congr (by omega) (by omega) A B e1 e2]
  have k1 : an * cn * (bd * cd) = (an * bd) * (cn * cd) := by grind
  have k2 : bn * cn * (ad * cd) = (bn * ad) * (cn * cd) := by grind
  rw [k1, k2, cmpr_scale (Int.mul_pos (by omega) (by omega))]
theorem cmp_eq {an ad bn bd : Int} (ha : Vd an ad) (hb : Vd bn bd) : cmpr (an * bd) (bn * ad) = 0 ↔ an = bn ∧ ad = bd := by
  rw [cmpr_eq]
  exact ⟨fun h => vd_unique ha hb h, fun ⟨h1, h2⟩ => by rw [h1, h2]⟩
theorem nw_neg (n d : Int) (hd : d ≠ 0) : nw (-n) (-d) = nw n d := nw_value (by omega) hd (by grind)
theorem nw_mul (n d k : Int) (hd : d ≠ 0) (hk : k ≠ 0) : nw (n * k) (d * k) = nw n d := nw_value (Int.mul_ne_zero hd hk) hd (by grind)
/-- a bound of products -/
theorem mul_bd {a b A B : Int} (h1 : -A ≤ a) (h2 : a ≤ A) (h3 : -B ≤ b) (h4 : b ≤ B) : -(A * B) ≤ a * b ∧ a * b ≤ A * B := by
  have hA : 0 ≤ A := by omega
  have hB : 0 ≤ B := by omega
  have e : (a * b).natAbs ≤ A.natAbs * B.natAbs := by
    rw [Int.natAbs_mul]; exact Nat.mul_le_mul (by omega) (by omega)
  have e2 : ((A.natAbs * B.natAbs : Nat) : Int) = A * B := by push_cast; rw [Int.ofNat_natAbs_of_nonneg hA, Int.ofNat_natAbs_of_nonneg hB]
  omega
theorem vd_mul {a b : Int} (h1 : -1073741824 ≤ a) (h2 : a ≤ 1073741824) (h3 : -1073741824 ≤ b) (h4 : b ≤ 1073741824) : -1152921504606846976 ≤ a * b ∧ a * b ≤ 1152921504606846976 := by
  have := mul_bd h1 h2 h3 h4; omega
end Go.Proofs.Ythmakdlmadgpcaa

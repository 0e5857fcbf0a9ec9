/- What the laws say of tokens, plainly. -/
import Derived.Test.YtgckigolbajhoaaDoorL9
namespace L9
open Go
theorem snoc_ind {M : B → Prop} (h0 : M []) (h1 : ∀ l c, M l → M (l ++ [c])) (l : B) : M l := by
  have : ∀ r : B, M r.reverse := by
    intro r
    induction r with
    | nil => exact h0
    | cons c r ih => rw [List.reverse_cons]; exact h1 _ _ ih
  simpa using this l.reverse
theorem vn_snoc (l : B) (c : UInt8) : vn (l ++ [c]) = 10 * vn l + (c.toNat - 48) := by simp [vn]
theorem ofNat_toNat (c : UInt8) (h : isD c = true) : UInt8.ofNat (48 + (c.toNat - 48)) = c := by
  simp only [isD, decide_eq_true_eq] at h
  rw [show 48 + (c.toNat - 48) = c.toNat by omega]
  exact UInt8.ofNat_toNat
theorem dg_lt (c : UInt8) (h : isD c = true) : c.toNat - 48 < 10 := by
  simp only [isD, decide_eq_true_eq] at h; omega
theorem dec_vn (c : UInt8) (hc : isD c = true) (m : B) : (∀ d ∈ m, isD d = true) → (m ≠ [] → c.toNat ≠ 48) → Lib.decDigits (vn (c :: m)) = c :: m ∧ (c.toNat ≠ 48 → 1 ≤ vn (c :: m)) := by
  refine snoc_ind (M := fun m => (∀ d ∈ m, isD d = true) → (m ≠ [] → c.toNat ≠ 48) → Lib.decDigits (vn (c :: m)) = c :: m ∧ (c.toNat ≠ 48 → 1 ≤ vn (c :: m))) ?_ ?_ m
  · intro _ _
    have h := dg_lt c hc
    have hv : vn [c] = c.toNat - 48 := by simp [vn]
    rw [hv, Lib.decDigits_one h, ofNat_toNat c hc]
    refine ⟨rfl, fun h0 => ?_⟩
    simp only [isD, decide_eq_true_eq] at hc; omega
  · intro l d ih hd h0
    have hne := h0 (by simp)
    have hdd := hd d (by simp)
    obtain ⟨i1, i2⟩ := ih (fun x hx => hd x (by simp [hx])) (fun _ => hne)
    have h1 := i2 hne
    have h9 := dg_lt d hdd
    have hv : vn (c :: (l ++ [d])) = 10 * vn (c :: l) + (d.toNat - 48) := vn_snoc (c :: l) d
    rw [hv]
    refine ⟨?_, fun _ => by omega⟩
    rw [Lib.decDigits, dif_neg (by omega), show (10 * vn (c :: l) + (d.toNat - 48)) / 10 = vn (c :: l) by omega, show (10 * vn (c :: l) + (d.toNat - 48)) % 10 = d.toNat - 48 by omega, i1, ofNat_toNat d hdd]
    rfl
theorem toNat_ofNat (n : Nat) (h : n < 10) : (UInt8.ofNat (48 + n)).toNat = 48 + n := by
  rw [UInt8.toNat_ofNat']; omega
theorem isD_dig (n : Nat) (h : n < 10) : isD (UInt8.ofNat (48 + n)) = true := by
  simp only [isD, decide_eq_true_eq]
  rw [toNat_ofNat n h]; omega
/-- the digits of a number -/
theorem dec_facts : ∀ n : Nat, (∀ c ∈ Lib.decDigits n, isD c = true) ∧ vn (Lib.decDigits n) = n ∧ ∃ c m, Lib.decDigits n = c :: m ∧ (m ≠ [] → c.toNat ≠ 48) ∧ (1 ≤ n → c.toNat ≠ 48) := by
  intro n
  induction n using Nat.strongRecOn with
  | _ n ih =>
    by_cases h : n < 10
    · rw [Lib.decDigits_one h]
      refine ⟨fun c hc => ?_, ?_, _, [], rfl, fun h => absurd rfl h, fun h1 => ?_⟩
      · rw [List.mem_singleton.1 hc]; exact isD_dig n h
      · simp only [vn, List.foldl_cons, List.foldl_nil]; rw [toNat_ofNat n h]; omega
      · rw [toNat_ofNat n h]; omega
    · obtain ⟨i1, i2, c, m, i3, i4, i5⟩ := ih (n / 10) (by omega)
      rw [Lib.decDigits, dif_neg h]
      refine ⟨fun d hd => ?_, ?_, c, m ++ [UInt8.ofNat (48 + n % 10)], by rw [i3]; rfl, fun _ => i5 (by omega), fun _ => i5 (by omega)⟩
      · rcases List.mem_append.1 hd with hd | hd
        · exact i1 d hd
        · rw [List.mem_singleton.1 hd]; exact isD_dig (n % 10) (by omega)
      · rw [vn_snoc, i2, toNat_ofNat (n % 10) (by omega)]; omega
theorem tw_all (p : UInt8 → Bool) (s : B) : ∀ c ∈ s.takeWhile p, p c = true := fun c hc => by
  have := List.all_takeWhile (p := p) (l := s)
  exact List.all_eq_true.1 this c hc
theorem tw_take (p : UInt8 → Bool) (s : B) : s.takeWhile p = s.take (s.takeWhile p).length := (List.prefix_iff_eq_take.1 (List.takeWhile_prefix p))
/-- takeWhile over what all goes on, then something that stops it -/
theorem tw_stop {p : UInt8 → Bool} {l r : B} (h : ∀ c ∈ l, p c = true) (hr : ∀ c m, r = c :: m → p c = false) : (l ++ r).takeWhile p = l := by
  induction l with
  | nil =>
    cases r with
    | nil => rfl
    | cons c m => simp [hr c m rfl]
  | cons c l ih =>
    rw [List.cons_append, tw_cons (h c (by simp)), ih (fun d hd => h d (by simp [hd]))]
theorem W_P {c : UInt8} (h : isW c = true) : isP c = false := by
  simp only [isW, decide_eq_true_eq] at h
  simp [isP, isL, isD]; omega
theorem P_W {c : UInt8} (h : isP c = true) : isW c = false := by
  cases hw : isW c
  · rfl
  · rw [W_P hw] at h; cases h
theorem W_D {c : UInt8} (h : isW c = true) : isD c = false := by
  simp only [isW, decide_eq_true_eq] at h
  simp [isD]; omega
theorem S_not {c : UInt8} (h : isS c = true) : isW c = false ∧ isL c = false ∧ isD c = false := by
  simp only [isS, decide_eq_true_eq] at h
  refine ⟨?_, ?_, ?_⟩
  · simp [isW]; omega
  · simp [isL]; omega
  · simp [isD]; omega
theorem D_L {c : UInt8} (h : isD c = true) : isL c = false := by
  simp only [isD, decide_eq_true_eq] at h
  simp [isL]; omega
theorem P_ns {c : UInt8} (r : B) (h : isP c = true) : slashes (c :: r) = false := by
  cases r with
  | nil => rfl
  | cons d r =>
    simp only [isP, isL, isD, Bool.or_eq_true, decide_eq_true_eq] at h
    simp [slashes]; omega
theorem nm_iff {s : B} : nm s = true ↔ ∃ c r, s = c :: r ∧ isL c = true ∧ s.length ≤ 32 ∧ ∀ d ∈ s, isP d = true := by
  cases s with
  | nil => simp [nm]
  | cons c r =>
    simp only [nm, Bool.and_eq_true, decide_eq_true_eq, List.all_eq_true]
    constructor
    · rintro ⟨⟨h1, h2⟩, h3⟩; exact ⟨c, r, rfl, h2, h1, h3⟩
    · rintro ⟨c', r', e, h2, h1, h3⟩; cases e; exact ⟨⟨h1, h2⟩, h3⟩
/-- a token that begins a source is valid, and its text stands there -/
theorem stp_vld {s : B} {k : Int} {t : B} {v n : Nat} (a : Int) (h : stp s = .tok k t v n) : vld ⟨k, t, v, a⟩ = true ∧ tx ⟨k, t, v, a⟩ = s.take n ∧ (k = 1 ∨ k = 2 ∨ k = 3) := by
  match s with
  | [] => simp [stp] at h
  | c :: r =>
    rcases stp_cases c r with ⟨_, e⟩ | ⟨_, h2, e⟩ | ⟨_, _, h3, h4, e⟩ | ⟨_, _, _, _, e⟩ | ⟨_, _, _, _, _, e⟩ | ⟨_, _, _, h4, h5, e⟩ | ⟨_, _, _, _, h5, e⟩ | ⟨_, _, _, _, _, e⟩ <;> rw [e] at h <;> try (cases h)
    · refine ⟨?_, ?_, .inl rfl⟩
      · have : nm ((c :: r).takeWhile isP) = true := nm_iff.2 ⟨c, r.takeWhile isP, tw_cons (isL_P h3), h3, h4, tw_all _ _⟩
        simp [vld, this]
      · simp only [tx]; rw [if_neg (by decide)]; exact tw_take _ _
    · have hd := dec_vn c h4 (r.takeWhile isD) (tw_all _ _) (fun hne hc => h5 (.inl ⟨hc, by rw [tw_cons h4, List.length_cons]; have := List.length_pos_iff.2 hne; omega⟩))
      rw [← tw_cons h4] at hd
      refine ⟨?_, ?_, .inr (.inl rfl)⟩
      · have h6 : ¬ 1099511627776 < vn ((c :: r).takeWhile isD) := fun h => h5 (.inr h)
        simp only [vld]
        rw [if_neg (by decide), if_pos trivial]
        simp only [decide_eq_true_eq]
        exact ⟨trivial, by omega, by omega⟩
      · simp only [tx]
        rw [if_pos trivial, Int.toNat_natCast, hd.1]
        exact tw_take _ _
    · refine ⟨?_, ?_, .inr (.inr rfl)⟩
      · simp [vld, h5]
      · simp only [tx]; rw [if_neg (by decide)]; rfl
/-- a valid token's text, ahead of white space or the end -/
theorem stp_back {x : T} {r : B} (h : vld x = true) (hr : ∀ c m, r = c :: m → isW c = true) : stp (tx x ++ r) = .tok x.k x.t x.n.toNat (tx x).length ∧ 0 ≤ x.n ∧ (x.n.toNat : Int) = x.n := by
  obtain ⟨k, t, n, a⟩ := x
  unfold vld at h
  simp only at h
  split at h
  · rename_i hk; subst hk
    simp only [Bool.and_eq_true, decide_eq_true_eq] at h
    obtain ⟨hn, rfl⟩ := h
    obtain ⟨c, m, rfl, h1, h2, h3⟩ := nm_iff.1 hn
    have htx : tx ⟨1, c :: m, 0, a⟩ = c :: m := by simp [tx]
    have htw : (c :: (m ++ r)).takeWhile isP = c :: m := tw_stop (l := c :: m) (r := r) h3 (fun d e he => W_P (hr d e he))
    rw [htx, List.cons_append]
    refine ⟨?_, by simp, by simp⟩
    have hp := isL_P h1
    unfold stp
    simp only [P_W hp, P_ns _ hp, h1, htw]
    rw [if_pos h2]; rfl
  · split at h
    · rename_i _ hk; subst hk
      simp only [decide_eq_true_eq] at h
      obtain ⟨rfl, h0, h1⟩ := h
      have htx : tx ⟨2, [], n, a⟩ = Lib.decDigits n.toNat := by simp [tx]
      obtain ⟨d1, d2, c, m, d3, d4, _⟩ := dec_facts n.toNat
      rw [d3] at d1 d2
      rw [htx, d3, List.cons_append]
      have htw : (c :: (m ++ r)).takeWhile isD = c :: m := tw_stop (l := c :: m) (r := r) d1 (fun d e he => W_D (hr d e he))
      have hc := d1 c (by simp)
      refine ⟨?_, h0, by simp; omega⟩
      unfold stp
      simp only [P_W (isD_P hc), P_ns _ (isD_P hc), D_L hc, hc, htw, d2]
      have hno : ¬ (c.toNat = 48 ∧ 1 < (c :: m).length ∨ 1099511627776 < n.toNat) := by
        rintro (⟨e1, e2⟩ | e)
        · exact d4 (by intro e; subst e; simp at e2) e1
        · omega
      simp only [if_neg hno]
      simp
    · split at h
      · rename_i _ _ hk; subst hk
        split at h
        · rename_i c
          simp only [Bool.and_eq_true, decide_eq_true_eq] at h
          obtain ⟨h1, rfl⟩ := h
          obtain ⟨s1, s2, s3⟩ := S_not h1
          have htx : tx ⟨3, [c], 0, a⟩ = [c] := by simp [tx]
          rw [htx]
          have hns : slashes ([c] ++ r) = false := by
            cases r with
            | nil => rfl
            | cons d e =>
              have hw := hr d e rfl
              simp only [isW, decide_eq_true_eq] at hw
              simp [slashes]; omega
          refine ⟨?_, by simp, by simp⟩
          rw [List.singleton_append] at hns ⊢
          unfold stp
          simp only [s1, hns, s2, s3, h1]
          rfl
        · cases h
      · cases h
end L9

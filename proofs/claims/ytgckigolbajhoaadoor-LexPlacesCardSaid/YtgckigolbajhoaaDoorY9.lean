/- What the laws say, plainly: what stands before an error, and behind it. -/
import Derived.Test.YtgckigolbajhoaaDoorX9
namespace L9
open Go
theorem tw_app {p : UInt8 → Bool} (s : B) (c : UInt8) (e : B) (h : p c = false) : (s ++ c :: e).takeWhile p = s.takeWhile p := by
  induction s with
  | nil => simp [h]
  | cons d r ih =>
    rw [List.cons_append]
    cases hd : p d
    · simp [hd]
    · rw [tw_cons hd, tw_cons hd, ih]
theorem tw_app_lt {p : UInt8 → Bool} (s e : B) (h : (s.takeWhile p).length < s.length) : (s ++ e).takeWhile p = s.takeWhile p := by
  induction s with
  | nil => simp at h
  | cons d r ih =>
    rw [List.cons_append]
    cases hd : p d
    · simp [hd]
    · rw [tw_cons hd] at h ⊢
      rw [tw_cons hd, ih (by simpa using h)]
theorem slashes_app (s e : B) : slashes (s ++ 32 :: e) = slashes s := by
  match s with
  | [] => cases e <;> simp [slashes]
  | [c] => simp [slashes]
  | c :: d :: r => rfl
/-- the length of a step; none: 0 -/
def sl : Stp → Nat
  | .skip n => n
  | .tok _ _ _ n => n
  | .bad => 0
theorem stp_take {s : B} {m : Nat} (hb : stp s ≠ .bad) (h : sl (stp s) ≤ m) : stp (s.take m) = stp s := by
  match s with
  | [] => simp
  | c :: r =>
    have hpos : 1 ≤ m := by
      cases hq : stp (c :: r) with
      | skip n => rw [hq] at h; have := skip_len hq; simp only [sl] at h; omega
      | tok k t v n => rw [hq] at h; have := tok_len hq; simp only [sl] at h; omega
      | bad => exact absurd hq hb
    obtain ⟨k, rfl⟩ : ∃ k, m = k + 1 := ⟨m - 1, by omega⟩
    have hsl : slashes (c :: r) = false → slashes ((c :: r).take (k + 1)) = false := fun hf => by
      rcases Nat.eq_zero_or_pos k with rfl | hk
      · exact slashes_one
      · rw [slashes_take (by omega)]; exact hf
    rcases stp_cases c r with ⟨h1, e⟩ | ⟨h1, h2, e⟩ | ⟨h1, h2, h3, h4, e⟩ | ⟨h1, h2, h3, h4, e⟩ | ⟨h1, h2, h3, h4, h5, e⟩ | ⟨h1, h2, h3, h4, h5, e⟩ | ⟨h1, h2, h3, h4, h5, e⟩ | ⟨h1, h2, h3, h4, h5, e⟩
    · rw [e]; simp [stp, h1]
    · have hm : ((c :: r).takeWhile nLF).length ≤ k + 1 := by rw [e] at h; exact h
      have h22 : slashes ((c :: r).take (k + 1)) = true := by
        obtain ⟨c', d, r', he, h6, h7⟩ := slashes_lf h2
        have : 2 ≤ ((c :: r).takeWhile nLF).length := by rw [he, tw_slashes h6 h7]; simp
        rw [slashes_take (by omega)]; exact h2
      have htw := tw_take_eq nLF (c :: r) (k + 1) hm
      rw [e]
      rw [List.take_succ_cons] at h22 htw ⊢
      unfold stp; simp only [h1, h22, htw]; rfl
    · have hm : ((c :: r).takeWhile isP).length ≤ k + 1 := by rw [e] at h; exact h
      have h22 := hsl h2
      have htw := tw_take_eq isP (c :: r) (k + 1) hm
      rw [e]
      rw [List.take_succ_cons] at h22 htw ⊢
      unfold stp; simp only [h1, h22, h3, htw]; rw [if_pos h4]; rfl
    · rw [e] at hb; exact absurd rfl hb
    · rw [e] at hb; exact absurd rfl hb
    · have hm : ((c :: r).takeWhile isD).length ≤ k + 1 := by rw [e] at h; exact h
      have h22 := hsl h2
      have htw := tw_take_eq isD (c :: r) (k + 1) hm
      rw [e]
      rw [List.take_succ_cons] at h22 htw ⊢
      unfold stp; simp only [h1, h22, h3, h4, htw]; rw [if_neg h5]; rfl
    · have h22 := hsl h2
      rw [e]
      rw [List.take_succ_cons] at h22 ⊢
      unfold stp; simp only [h1, h22, h3, h4, h5]; rfl
    · rw [e] at hb; exact absurd rfl hb
theorem stp_app {s : B} (e : B) (hs : s ≠ []) (h : sl (stp s) < s.length) : stp (s ++ 32 :: e) = stp s := by
  match s, hs with
  | c :: r, _ =>
    have h22 := slashes_app (c :: r) e
    have tp := tw_app (p := isP) (c :: r) 32 e (by decide)
    have td := tw_app (p := isD) (c :: r) 32 e (by decide)
    rw [List.cons_append] at h22 tp td ⊢
    rcases stp_cases c r with ⟨h1, e1⟩ | ⟨h1, h2, e1⟩ | ⟨h1, h2, h3, h4, e1⟩ | ⟨h1, h2, h3, h4, e1⟩ | ⟨h1, h2, h3, h4, h5, e1⟩ | ⟨h1, h2, h3, h4, h5, e1⟩ | ⟨h1, h2, h3, h4, h5, e1⟩ | ⟨h1, h2, h3, h4, h5, e1⟩
    · rw [e1]; simp [stp, h1]
    · have tn := tw_app_lt (p := nLF) (c :: r) (32 :: e) (by rw [e1] at h; exact h)
      rw [List.cons_append] at tn
      rw [e1]; rw [h2] at h22
      unfold stp; simp only [h1, h22, tn]; rfl
    · rw [e1]; rw [h2] at h22
      unfold stp; simp only [h1, h22, h3, tp]; rw [if_pos h4]; rfl
    · rw [e1]; rw [h2] at h22
      have hno : ¬ ((c :: r).takeWhile isP).length ≤ 32 := by omega
      unfold stp; simp only [h1, h22, h3, tp, if_neg hno]; simp
    · rw [e1]; rw [h2] at h22
      unfold stp; simp only [h1, h22, h3, h4, td]; rw [if_pos h5]; rfl
    · rw [e1]; rw [h2] at h22
      unfold stp; simp only [h1, h22, h3, h4, td]; rw [if_neg h5]; rfl
    · rw [e1]; rw [h2] at h22
      unfold stp; simp only [h1, h22, h3, h4, h5]; rfl
    · rw [e1]; rw [h2] at h22
      unfold stp; simp only [h1, h22, h3, h4, h5]; rfl
theorem lx_wrong (s : B) (a : Nat) : ∀ b, lx s a = .error b → a ≤ b ∧ b < a + s.length ∧ (∃ l, lx (s.take (b - a)) a = .ok l) ∧ (∀ e, lx (s ++ 32 :: e) a = .error b) ∧ lx (s.drop (b - a)) 0 = .error 0 := by
  refine lx_ind (M := fun s a => ∀ b, lx s a = .error b → a ≤ b ∧ b < a + s.length ∧ (∃ l, lx (s.take (b - a)) a = .ok l) ∧ (∀ e, lx (s ++ 32 :: e) a = .error b) ∧ lx (s.drop (b - a)) 0 = .error 0) ?_ ?_ ?_ ?_ s a
  · intro a b h; rw [lx_nil] at h; cases h
  · intro s a n h ih b hb
    rw [lx_skip a h] at hb
    obtain ⟨i1, i2, ⟨l, i3⟩, i4, i5⟩ := ih b hb
    have hn := skip_len h
    rw [List.length_drop] at i2
    have hs : s ≠ [] := by intro e; subst e; simp at hn; omega
    have hne : stp s ≠ .bad := by rw [h]; intro e; cases e
    refine ⟨by omega, by omega, ⟨l, ?_⟩, fun e => ?_, ?_⟩
    · rw [lx_skip (n := n) a (by rw [stp_take hne (by rw [h]; show n ≤ b - a; omega)]; exact h), List.drop_take, show b - a - n = b - (a + n) by omega]
      exact i3
    · rw [lx_skip (n := n) a (by rw [stp_app e hs (by rw [h]; show n < s.length; omega)]; exact h), List.drop_append_of_le_length (by omega)]
      exact i4 e
    · rw [List.drop_drop, show n + (b - (a + n)) = b - a by omega] at i5; exact i5
  · intro s a k t v n h ih b hb
    rw [lx_tok a h] at hb
    obtain ⟨i1, i2, ⟨l, i3⟩, i4, i5⟩ := ih b (put_err hb)
    have hn := tok_len h
    rw [List.length_drop] at i2
    have hs : s ≠ [] := by intro e; subst e; simp at hn; omega
    have hne : stp s ≠ .bad := by rw [h]; intro e; cases e
    refine ⟨by omega, by omega, ⟨⟨k, t, v, a⟩ :: l, ?_⟩, fun e => ?_, ?_⟩
    · rw [lx_tok (n := n) a (by rw [stp_take hne (by rw [h]; show n ≤ b - a; omega)]; exact h), List.drop_take, show b - a - n = b - (a + n) by omega, i3]
      rfl
    · rw [lx_tok (n := n) a (by rw [stp_app e hs (by rw [h]; show n < s.length; omega)]; exact h), List.drop_append_of_le_length (by omega), i4 e]
      rfl
    · rw [List.drop_drop, show n + (b - (a + n)) = b - a by omega] at i5; exact i5
  · intro s a hs h b hb
    rw [lx_bad a hs h] at hb
    cases hb
    have hlen : 0 < s.length := List.length_pos_iff.2 hs
    refine ⟨Nat.le_refl _, by omega, ⟨[], by rw [Nat.sub_self, List.take_zero]; rfl⟩, fun e => ?_, ?_⟩
    · exact lx_bad a (by simp) (by rw [stp_app e hs (by rw [h]; exact hlen)]; exact h)
    · rw [Nat.sub_self, List.drop_zero]; exact lx_bad 0 hs h
end L9

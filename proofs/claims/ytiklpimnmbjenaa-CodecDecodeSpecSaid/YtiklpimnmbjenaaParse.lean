/- What package codec reads, as a function on lists of bytes. -/
import Derived.WalkKit
import Derived.Laws.BytesArg
import Derived.Test.YtiklpimnmbjenaaTree
namespace Go.Proofs.Ytiklpimnmbjenaa
open Go.RowKit Go
set_option linter.unusedVariables false
set_option linter.unusedSimpArgs false

/-- what 'numeral' reads: the number, and what remains -/
def rn : Nat → Nat → List Int → Option (Nat × List Int)
  | _, _, [] => none
  | s, a, c :: r =>
    let d := c.toNat % 128
    if 18446744073709551616 ≤ d * 2 ^ s then none
    else if 128 ≤ c then rn (s + 7) (a + d * 2 ^ s) r
    else if c = 0 ∧ 0 < s then none else some (a + d * 2 ^ s, r)

theorem rn_len : ∀ (l : List Int) (s a u : Nat) (r : List Int), rn s a l = some (u, r) → r.length + 1 ≤ l.length := by
  intro l
  induction l with
  | nil => intro s a u r h; rw [rn] at h; cases h
  | cons c t ih =>
    intro s a u r h
    rw [rn] at h
    split at h
    · cases h
    · split at h
      · have := ih _ _ _ _ h; simp; omega
      · split at h
        · cases h
        · simp at h; obtain ⟨_, rfl⟩ := h; simp

theorem rn_lt : ∀ (l : List Int) (s a u : Nat) (r : List Int), a < 2 ^ s → a < 18446744073709551616 → rn s a l = some (u, r) → u < 18446744073709551616 := by
  intro l
  induction l with
  | nil => intro s a u r _ _ h; rw [rn] at h; cases h
  | cons c t ih =>
    intro s a u r h1 h2 h
    rw [rn] at h
    split at h
    · cases h
    · rename_i hb
      have hr := num_room h1 h2 (Nat.lt_of_not_le hb)
      split at h
      · refine ih _ _ _ _ ?_ hr h
        have hm : c.toNat % 128 ≤ 127 := by omega
        have : c.toNat % 128 * 2 ^ s ≤ 127 * 2 ^ s := Nat.mul_le_mul_right _ hm
        rw [Nat.pow_add]; omega
      · split at h
        · cases h
        · simp at h; omega

def pl (f : List Int → Option (T × List Int)) : Nat → List Int → Option (List T × List Int)
  | 0, r => some ([], r)
  | n + 1, r => match f r with
    | none => none
    | some (t, r1) => match pl f n r1 with
      | none => none
      | some (ts, r2) => some (t :: ts, r2)

/-- what 'value' reads, where d lists more may be nested -/
def pv : Nat → List Int → Option (T × List Int)
  | _, [] => none
  | d, c :: r =>
    if c = 1 then (rn 0 0 r).map fun x => (T.mk 1 (sig x.1) ⟨#[]⟩ [], x.2)
    else if c = 2 then (rn 0 0 r).bind fun x => if x.2.length < x.1 then none else some (T.mk 2 0 (strOfNums (x.2.take x.1)) [], x.2.drop x.1)
    else if c = 3 then match d with
      | 0 => none
      | d + 1 => (rn 0 0 r).bind fun x => (pl (pv d) x.1 x.2).map fun y => (T.mk 3 0 ⟨#[]⟩ y.1, y.2)
    else none

theorem pv_one (d : Nat) (r : List Int) : pv d (1 :: r) = (rn 0 0 r).map fun x => (T.mk 1 (sig x.1) ⟨#[]⟩ [], x.2) := by cases d <;> (rw [pv]; simp)
theorem pv_two (d : Nat) (r : List Int) : pv d (2 :: r) = (rn 0 0 r).bind fun x => if x.2.length < x.1 then none else some (T.mk 2 0 (strOfNums (x.2.take x.1)) [], x.2.drop x.1) := by cases d <;> (rw [pv]; simp)
theorem pv_three (d : Nat) (r : List Int) : pv (d + 1) (3 :: r) = (rn 0 0 r).bind fun x => (pl (pv d) x.1 x.2).map fun y => (T.mk 3 0 ⟨#[]⟩ y.1, y.2) := by rw [pv]; simp
theorem pv_three0 (r : List Int) : pv 0 (3 :: r) = none := by rw [pv]; simp
theorem pv_else (d : Nat) (c : Int) (r : List Int) (h1 : c ≠ 1) (h2 : c ≠ 2) (h3 : c ≠ 3) : pv d (c :: r) = none := by cases d <;> (rw [pv]; simp [h1, h2, h3])

theorem pl_len {f : List Int → Option (T × List Int)} (hf : ∀ l t r, f l = some (t, r) → r.length + 2 ≤ l.length) : ∀ n l ts r, pl f n l = some (ts, r) → r.length + 2 * n ≤ l.length ∧ ts.length = n := by
  intro n
  induction n with
  | zero => intro l ts r h; simp [pl] at h; obtain ⟨rfl, rfl⟩ := h; simp
  | succ n ih =>
    intro l ts r h
    rw [pl] at h
    cases h1 : f l with
    | none => rw [h1] at h; cases h
    | some x =>
      obtain ⟨t, r1⟩ := x
      rw [h1] at h
      simp only at h
      cases h2 : pl f n r1 with
      | none => rw [h2] at h; cases h
      | some y =>
        obtain ⟨ts', r2⟩ := y
        rw [h2] at h
        simp at h
        obtain ⟨rfl, rfl⟩ := h
        have := hf _ _ _ h1
        have := ih _ _ _ h2
        simp; omega

theorem pv_len (d : Nat) : ∀ l t r, pv d l = some (t, r) → r.length + 2 ≤ l.length := by
  induction d with
  | zero =>
    intro l t r h
    cases l with
    | nil => rw [pv] at h; cases h
    | cons c l =>
      rw [pv] at h
      split at h
      · cases hn : rn 0 0 l with
        | none => rw [hn] at h; cases h
        | some x => rw [hn] at h; simp at h; have := rn_len _ _ _ _ _ hn; rw [← h.2]; simp; omega
      · split at h
        · cases hn : rn 0 0 l with
          | none => rw [hn] at h; cases h
          | some x =>
            rw [hn] at h; simp at h; have := rn_len _ _ _ _ _ hn; rw [← h.2.2]; simp; omega
        · split at h <;> cases h
  | succ d ih =>
    intro l t r h
    cases l with
    | nil => rw [pv] at h; cases h
    | cons c l =>
      rw [pv] at h
      split at h
      · cases hn : rn 0 0 l with
        | none => rw [hn] at h; cases h
        | some x => rw [hn] at h; simp at h; have := rn_len _ _ _ _ _ hn; rw [← h.2]; simp; omega
      · split at h
        · cases hn : rn 0 0 l with
          | none => rw [hn] at h; cases h
          | some x =>
            rw [hn] at h; simp at h; have := rn_len _ _ _ _ _ hn; rw [← h.2.2]; simp; omega
        · split at h
          · cases hn : rn 0 0 l with
            | none => rw [hn] at h; cases h
            | some x =>
              rw [hn] at h
              simp only [Option.bind_some] at h
              cases hp : pl (pv d) x.1 x.2 with
              | none => rw [hp] at h; cases h
              | some y =>
                rw [hp] at h; simp at h
                have := rn_len _ _ _ _ _ hn
                have := pl_len ih _ _ _ _ hp
                rw [← h.2]; simp; omega
          · cases h

end Go.Proofs.Ytiklpimnmbjenaa

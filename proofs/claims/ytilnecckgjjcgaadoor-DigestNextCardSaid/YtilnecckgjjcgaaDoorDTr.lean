/- Trees of hashes, their paths and their ends as plain functions on lists of bytes. -/
import Derived.Test.YtilnecckgjjcgaaDoorDPure
namespace Go.Proofs.YtilnecckgjjcgaaDoor.Dg
set_option linter.unusedVariables false
set_option linter.unusedSimpArgs false
def leafS : List UInt8 := [108, 101, 97, 102]
def nodeS : List UInt8 := [110, 111, 100, 101]
def chainS : List UInt8 := [99, 104, 97, 105, 110]
def emptyS : List UInt8 := [101, 109, 112, 116, 121]
/-- the greatest power of 2 below n, for n from 2 on -/
def fpx : Nat → Nat → Nat → Nat
  | 0, k, _ => k
  | f + 1, k, n => if 2 * k < n then fpx f (2 * k) n else k
def fp (n : Nat) : Nat := fpx n 1 n
theorem fpx_spec (f : Nat) : ∀ k n j, k = 2 ^ j → k < n → n ≤ f + k → ∃ i, fpx f k n = 2 ^ i ∧ fpx f k n < n ∧ n ≤ 2 * fpx f k n := by
  induction f with
  | zero => intro k n j h1 h2 h3; omega
  | succ f ih =>
    intro k n j h1 h2 h3
    have hk : 0 < k := by rw [h1]; exact Nat.two_pow_pos j
    rw [fpx]
    by_cases h : 2 * k < n
    · rw [if_pos h]; exact ih (2 * k) n (j + 1) (by rw [h1, Nat.pow_succ]; omega) h (by omega)
    · rw [if_neg h]; exact ⟨j, h1, h2, by omega⟩
theorem fp_spec (n : Nat) (h : 2 ≤ n) : ∃ i, fp n = 2 ^ i ∧ fp n < n ∧ n ≤ 2 * fp n := fpx_spec n 1 n 0 rfl (by omega) (by omega)
theorem fp_lt (n : Nat) (h : 2 ≤ n) : fp n < n := by obtain ⟨i, _, h2, _⟩ := fp_spec n h; exact h2
theorem fp_pos (n : Nat) (h : 2 ≤ n) : 0 < fp n := by obtain ⟨i, h1, _⟩ := fp_spec n h; rw [h1]; exact Nat.two_pow_pos i
theorem pow_between (i j n : Nat) (h1 : 2 ^ i < n) (h2 : n ≤ 2 * 2 ^ i) (h3 : 2 ^ j < n) (h4 : n ≤ 2 * 2 ^ j) : i = j := by
  rcases Nat.lt_trichotomy i j with h | h | h
  · have := Nat.pow_le_pow_right (n := 2) (by omega) (show i + 1 ≤ j from h); rw [Nat.pow_succ] at this; omega
  · exact h
  · have := Nat.pow_le_pow_right (n := 2) (by omega) (show j + 1 ≤ i from h); rw [Nat.pow_succ] at this; omega
theorem fp_eq (n j : Nat) (h1 : 2 ^ j < n) (h2 : n ≤ 2 * 2 ^ j) : fp n = 2 ^ j := by
  have hp := Nat.two_pow_pos j
  obtain ⟨i, h3, h4, h5⟩ := fp_spec n (by omega)
  rw [h3] at h4 h5
  rw [h3, pow_between i j n h4 h5 h1 h2]
/-- the digest of a list -/
def tree (l : List (List UInt8)) : List UInt8 :=
  if h : l.length < 2 then (match l with | [] => tagd emptyS [] | d :: _ => tagd leafS d)
  else tagd nodeS (tree (l.take (fp l.length)) ++ tree (l.drop (fp l.length)))
termination_by l.length
decreasing_by
  · have := fp_lt l.length (by omega); rw [List.length_take]; omega
  · have := fp_pos l.length (by omega); rw [List.length_drop]; omega
theorem tree_nil : tree [] = tagd emptyS [] := by rw [tree]; rfl
theorem tree_one (d : List UInt8) : tree [d] = tagd leafS d := by rw [tree]; rfl
theorem tree_two (l : List (List UInt8)) (h : 2 ≤ l.length) : tree l = tagd nodeS (tree (l.take (fp l.length)) ++ tree (l.drop (fp l.length))) := by
  rw [tree, dif_neg (by omega)]
theorem tree_length (l : List (List UInt8)) : (tree l).length = 32 := by
  rw [tree]
  split
  · split <;> exact tagd_length _ _
  · exact tagd_length _ _
/-- the path of the element at an index -/
def pathOf (l : List (List UInt8)) (at_ : Nat) : List (List UInt8) :=
  if h : l.length < 2 then []
  else if at_ < fp l.length then pathOf (l.take (fp l.length)) at_ ++ [tree (l.drop (fp l.length))]
  else pathOf (l.drop (fp l.length)) (at_ - fp l.length) ++ [tree (l.take (fp l.length))]
termination_by l.length
decreasing_by
  · have := fp_lt l.length (by omega); rw [List.length_take]; omega
  · have := fp_pos l.length (by omega); rw [List.length_drop]; omega
theorem pathOf_one (l : List (List UInt8)) (i : Nat) (h : l.length < 2) : pathOf l i = [] := by rw [pathOf, dif_pos h]
theorem pathOf_lo (l : List (List UInt8)) (i : Nat) (h : 2 ≤ l.length) (hi : i < fp l.length) : pathOf l i = pathOf (l.take (fp l.length)) i ++ [tree (l.drop (fp l.length))] := by
  rw [pathOf, dif_neg (by omega), if_pos hi]
theorem pathOf_hi (l : List (List UInt8)) (i : Nat) (h : 2 ≤ l.length) (hi : ¬ i < fp l.length) : pathOf l i = pathOf (l.drop (fp l.length)) (i - fp l.length) ++ [tree (l.take (fp l.length))] := by
  rw [pathOf, dif_neg (by omega), if_neg hi]
/-- how long the path is -/
def plen (i n : Nat) : Nat :=
  if h : n < 2 then 0
  else if i < fp n then plen i (fp n) + 1
  else plen (i - fp n) (n - fp n) + 1
termination_by n
decreasing_by
  · exact fp_lt n (by omega)
  · have := fp_pos n (by omega); omega
theorem plen_one (i n : Nat) (h : n < 2) : plen i n = 0 := by rw [plen, dif_pos h]
theorem plen_lo (i n : Nat) (h : 2 ≤ n) (hi : i < fp n) : plen i n = plen i (fp n) + 1 := by rw [plen, dif_neg (by omega), if_pos hi]
theorem plen_hi (i n : Nat) (h : 2 ≤ n) (hi : ¬ i < fp n) : plen i n = plen (i - fp n) (n - fp n) + 1 := by rw [plen, dif_neg (by omega), if_neg hi]
theorem plen_le (k : Nat) : ∀ i n, n ≤ 2 ^ k → plen i n ≤ k := by
  induction k with
  | zero => intro i n h; rw [plen_one i n (by simpa using Nat.lt_of_le_of_lt h (by omega))]; omega
  | succ k ih =>
    intro i n h
    by_cases hn : n < 2
    · rw [plen_one i n hn]; omega
    · obtain ⟨j, h1, h2, h3⟩ := fp_spec n (by omega)
      have hf : fp n ≤ 2 ^ k := by
        rw [h1]
        refine Nat.pow_le_pow_right (by omega) ?_
        apply Nat.le_of_lt_succ
        rw [h1] at h2
        exact (Nat.pow_lt_pow_iff_right (by omega)).1 (Nat.lt_of_lt_of_le h2 h)
      by_cases hi : i < fp n
      · rw [plen_lo i n (by omega) hi]; have := ih i (fp n) hf; omega
      · rw [plen_hi i n (by omega) hi]; have := ih (i - fp n) (n - fp n) (by omega); omega
theorem pathOf_length (k : Nat) : ∀ l i, l.length ≤ k → (pathOf l i).length = plen i l.length := by
  induction k with
  | zero => intro l i h; rw [pathOf_one l i (by omega), plen_one i _ (by omega)]; rfl
  | succ k ih =>
    intro l i h
    by_cases hn : l.length < 2
    · rw [pathOf_one l i hn, plen_one i _ hn]; rfl
    · have h1 := fp_lt l.length (by omega)
      have h2 := fp_pos l.length (by omega)
      by_cases hi : i < fp l.length
      · rw [pathOf_lo l i (by omega) hi, plen_lo i _ (by omega) hi, List.length_append, ih _ _ (by rw [List.length_take]; omega), List.length_take, Nat.min_eq_left (by omega)]; rfl
      · rw [pathOf_hi l i (by omega) hi, plen_hi i _ (by omega) hi, List.length_append, ih _ _ (by rw [List.length_drop]; omega), List.length_drop]; rfl
/-- the digest to which a path leads -/
def clm (d : List UInt8) (i n : Nat) (p : List (List UInt8)) : List UInt8 :=
  if h : n < 2 then tagd leafS d
  else if i < fp n then tagd nodeS (clm d i (fp n) p.dropLast ++ p.getLastD [])
  else tagd nodeS (p.getLastD [] ++ clm d (i - fp n) (n - fp n) p.dropLast)
termination_by n
decreasing_by
  · exact fp_lt n (by omega)
  · have := fp_pos n (by omega); omega
theorem clm_one (d : List UInt8) (i n : Nat) (p) (h : n < 2) : clm d i n p = tagd leafS d := by rw [clm, dif_pos h]
theorem clm_lo (d : List UInt8) (i n : Nat) (p) (h : 2 ≤ n) (hi : i < fp n) : clm d i n p = tagd nodeS (clm d i (fp n) p.dropLast ++ p.getLastD []) := by rw [clm, dif_neg (by omega), if_pos hi]
theorem clm_hi (d : List UInt8) (i n : Nat) (p) (h : 2 ≤ n) (hi : ¬ i < fp n) : clm d i n p = tagd nodeS (p.getLastD [] ++ clm d (i - fp n) (n - fp n) p.dropLast) := by rw [clm, dif_neg (by omega), if_neg hi]
theorem clm_length (d : List UInt8) (i n : Nat) (p) : (clm d i n p).length = 32 := by
  rw [clm]
  split
  · exact tagd_length _ _
  · split <;> exact tagd_length _ _
theorem clm_eq (k : Nat) : ∀ l i, l.length ≤ k → i < l.length → clm (l.getD i []) i l.length (pathOf l i) = tree l := by
  induction k with
  | zero => intro l i h h2; omega
  | succ k ih =>
    intro l i h h2
    by_cases hn : l.length < 2
    · rw [clm_one _ _ _ _ hn]
      match l, hn, h2 with
      | [d], _, h2 =>
        obtain rfl : i = 0 := by simp at h2; omega
        rw [tree_one]; rfl
    · have h3 := fp_lt l.length (by omega)
      have h4 := fp_pos l.length (by omega)
      rw [tree_two l (by omega)]
      by_cases hi : i < fp l.length
      · rw [clm_lo _ _ _ _ (by omega) hi, pathOf_lo l i (by omega) hi, List.dropLast_concat, List.getLastD_concat]
        have := ih (l.take (fp l.length)) i (by rw [List.length_take]; omega) (by rw [List.length_take]; omega)
        rw [List.length_take, Nat.min_eq_left (by omega)] at this
        rw [← this]; congr 3
        simp [List.getD_eq_getElem?_getD, List.getElem?_take, hi]
      · rw [clm_hi _ _ _ _ (by omega) hi, pathOf_hi l i (by omega) hi, List.dropLast_concat, List.getLastD_concat]
        have := ih (l.drop (fp l.length)) (i - fp l.length) (by rw [List.length_drop]; omega) (by rw [List.length_drop]; omega)
        rw [List.length_drop] at this
        rw [← this]; congr 3
        simp [List.getD_eq_getElem?_getD, List.getElem?_drop, show fp l.length + (i - fp l.length) = i from by omega]
end Go.Proofs.YtilnecckgjjcgaaDoor.Dg

/- The laws' facts of Lex's results. -/
import Derived.Test.YtgckigolbajhoaaDoorSane
import Derived.Test.YtgckigolbajhoaaDoorY9
namespace Go.Proofs.YtgckigolbajhoaaDoor
open Go.RowKit Go
set_option linter.unusedVariables false
theorem lex_ok {s : List UInt8} {l : List Tk} (hs : s.length ≤ 65536) (h : L9.lx s 0 = .ok l) : lexl s = l ∧ lexa s = 0 ∧ lexe s = 0 := by
  have hn : ¬ 65536 < s.length := by omega
  unfold lexl lexa lexe
  rw [if_neg hn, if_neg hn, if_neg hn, h]; exact ⟨rfl, rfl, rfl⟩
theorem lex_err {s : List UInt8} {b : Nat} (hs : s.length ≤ 65536) (h : L9.lx s 0 = .error b) : lexl s = [] ∧ lexa s = b ∧ lexe s = 90 := by
  have hn : ¬ 65536 < s.length := by omega
  unfold lexl lexa lexe
  rw [if_neg hn, if_neg hn, if_neg hn, h]; exact ⟨rfl, rfl, rfl⟩
theorem lex_two (s : List UInt8) (hs : s.length ≤ 65536) : (∃ l, L9.lx s 0 = .ok l ∧ lexl s = l ∧ lexa s = 0 ∧ lexe s = 0) ∨ ∃ b, L9.lx s 0 = .error b ∧ lexl s = [] ∧ lexa s = b ∧ lexe s = 90 := by
  cases h : L9.lx s 0 with
  | ok l => exact .inl ⟨l, rfl, lex_ok hs h⟩
  | error b => exact .inr ⟨b, rfl, lex_err hs h⟩
theorem lex_wrong {s : List UInt8} (more : List UInt8) (hs : s.length + more.length ≤ 3000) {b : Nat} (h : L9.lx s 0 = .error b) :
    b < s.length ∧ (lexa (s.take b) = 0 ∧ lexe (s.take b) = 0) ∧ (lexa (s ++ 32 :: more) = b ∧ lexe (s ++ 32 :: more) = 90) ∧ (lexa (s.drop b) = 0 ∧ lexe (s.drop b) = 90) := by
  obtain ⟨_, h2, ⟨l, h3⟩, h4, h5⟩ := L9.lx_wrong s 0 b h
  rw [Nat.sub_zero] at h3 h5
  refine ⟨by omega, (lex_ok (by rw [List.length_take]; omega) h3).2, (lex_err (by simp; omega) (h4 more)).2, (lex_err (by rw [List.length_drop]; omega) h5).2⟩
theorem lex_name {s : List UInt8} (h : L9.nm s = true) : lexl s = [⟨1, s, 0, 0⟩] ∧ lexa s = 0 ∧ lexe s = 0 := by
  obtain ⟨c, r, _, _, h2, _⟩ := L9.nm_iff.1 h
  exact lex_ok (by omega) (L9.nm_lx h)
theorem lex_vld {s : List UInt8} : (lexl s).all L9.vld = true := by
  unfold lexl
  split
  · rfl
  · cases h : L9.lx s 0 with
    | ok l => exact L9.lx_all s 0 l h
    | error b => rfl
theorem lex_noname {s : List UInt8} (h : L9.nm s = false) {x : Tk} (hx : lexl s = [x]) (hk : x.k = 1) : x.t ≠ s := by
  intro e
  have hv := lex_vld (s := s)
  rw [hx, List.all_cons, List.all_nil, Bool.and_true] at hv
  obtain ⟨k, t, n, a⟩ := x
  simp only at hk e
  subst hk; subst e
  rw [vld1 rfl, h] at hv; simp at hv
theorem txe_one (s : List UInt8) : txe [⟨1, s, 0, 0⟩] = if L9.nm s = true then 0 else 90 := by
  unfold txe
  rw [List.all_cons, List.all_nil, Bool.and_true, vld1 rfl]
  simp
theorem few_len {l : List Tk} (h : few l = true) : l.length ≤ 200 ∧ (l.map (·.t.length)).sum ≤ 2000 := of_decide_eq_true h
theorem few_join {l : List Tk} (h : few l = true) (hv : l.all L9.vld = true) : (Lib.join (l.map L9.tx) [32]).length ≤ 4800 := by
  have h2 := few_len h
  refine Nat.le_trans (L9.join_len l hv) ?_
  show _ ≤ 2000 + 14 * 200
  exact Nat.add_le_add h2.2 (Nat.mul_le_mul_left 14 h2.1)
theorem mem_sum {l : List Tk} {x : Tk} (h : x ∈ l) : x.t.length ≤ (l.map (·.t.length)).sum := by
  induction l with
  | nil => cases h
  | cons y r ih =>
    simp only [List.map_cons, List.sum_cons]
    rcases List.mem_cons.1 h with rfl | h
    · omega
    · have := ih h; omega
/-- the way back -/
theorem lex_back {l : List Tk} (hv : l.all L9.vld = true) (hj : (Lib.join (l.map L9.tx) [32]).length ≤ 65536) : lexa (txt l) = 0 ∧ lexe (txt l) = 0 ∧ sme l (lexl (txt l)) = true := by
  have ht : txt l = Lib.join (l.map L9.tx) [32] := if_pos hv
  obtain ⟨m, h1, h2⟩ := L9.lx_join l hv
  rw [ht]
  obtain ⟨e1, e2, e3⟩ := lex_ok hj h1
  refine ⟨e2, e3, ?_⟩
  rw [e1]
  exact decide_eq_true h2.symm
theorem lex_sum {s : List UInt8} : ((lexl s).map (·.t.length)).sum ≤ s.length ∧ (lexl s).length ≤ s.length := by
  unfold lexl
  split
  · simp
  · cases h : L9.lx s 0 with
    | ok l => exact L9.lx_sum s 0 l h
    | error b => simp
theorem lex_join {s : List UInt8} (hs : s.length ≤ 3000) : (Lib.join ((lexl s).map L9.tx) [32]).length ≤ 65536 := by
  have h2 := lex_sum (s := s)
  exact Nat.le_trans (L9.join_len (lexl s) lex_vld) (Nat.le_trans (Nat.add_le_add h2.1 (Nat.mul_le_mul_left 14 h2.2)) (by omega))
end Go.Proofs.YtgckigolbajhoaaDoor

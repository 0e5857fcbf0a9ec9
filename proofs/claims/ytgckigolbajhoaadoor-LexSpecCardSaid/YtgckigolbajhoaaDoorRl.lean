/- Contract: the reference's Lex: its rounds. -/
import Derived.Test.YtgckigolbajhoaaDoorRq
import Derived.Test.YtgckigolbajhoaaDoorRn
import Derived.Test.YtgckigolbajhoaaDoorLw
namespace Go.Proofs.YtgckigolbajhoaaDoor
open Go.RowKit Go
set_option linter.unusedVariables false
set_option linter.unusedSimpArgs false
/-- what the reference has read, before place a -/
def Rf (w : World) (s : List UInt8) (wr : World) (i o : Value) : Prop :=
  ∃ (a : Nat) (l : List Tk) (v : Value), i = .int .i64 a ∧ v = o ∧ KO wr w.heap.size v l ∧ Below w.heap.size w wr ∧ a ≤ s.length ∧ L9.lx s 0 = pre l (L9.lx (s.drop a) a) ∧ l.length ≤ a
structure Rg1 (w : World) (s : List UInt8) (wr : World) (a : Nat) (l : List Tk) (o : Value) : Prop where
  own : KO wr w.heap.size o l
  bel : Below w.heap.size w wr
  le : a ≤ s.length
  lx : L9.lx s 0 = pre l (L9.lx (s.drop a) a)
  len : l.length ≤ a
theorem Rg1.rf {w wr : World} {s : List UInt8} {a : Nat} {l : List Tk} {o : Value} (h : Rg1 w s wr a l o) : Rf w s wr (.int .i64 a) o := ⟨a, l, o, rfl, rfl, h.own, h.bel, h.le, h.lx, h.len⟩
theorem rel_skip {w wr : World} {s : List UInt8} {a n : Nat} {l : List Tk} {o : Value} (h : Rg1 w s wr a l o) (hs : L9.stp (s.drop a) = .skip n) : Rg1 w s wr (a + n) l o := by
  have h1 := L9.skip_len hs
  rw [List.length_drop] at h1
  refine ⟨h.own, h.bel, by omega, ?_, by have := h.len; omega⟩
  rw [h.lx, L9.lx_skip a hs, List.drop_drop]
theorem rel_tok {w wr w7 : World} {s : List UInt8} {a n v : Nat} {k : Int} {t : List UInt8} {l : List Tk} {o u : Value} (h : Rg1 w s wr a l o) (hs : L9.stp (s.drop a) = .tok k t v n) (ho : KO w7 w.heap.size u (l ++ [⟨k, t, v, a⟩])) (hb : Below w.heap.size w w7) : Rg1 w s w7 (a + n) (l ++ [⟨k, t, v, a⟩]) u := by
  have h1 := L9.tok_len hs
  rw [List.length_drop] at h1
  refine ⟨ho, hb, by omega, ?_, by have := h.len; simp; omega⟩
  rw [h.lx, L9.lx_tok a hs, List.drop_drop, pre_put]
theorem rel_bad {w wr : World} {s : List UInt8} {a : Nat} {l : List Tk} {o : Value} (h : Rg1 w s wr a l o) (hlt : a < s.length) (hs : L9.stp (s.drop a) = .bad) : L9.lx s 0 = .error a := by
  rw [h.lx, L9.lx_bad a (by intro e; have := congrArg List.length e; simp at this; omega) hs]; rfl
/-- the bytes that go on -/
theorem tw_in (p : UInt8 → Bool) (s : List UInt8) (a m : Nat) (h1 : a ≤ m) (h2 : m < a + ((s.drop a).takeWhile p).length) : ∃ d, s[m]? = some d ∧ p d = true := by
  obtain ⟨d, hd⟩ := get_lt (l := (s.drop a).takeWhile p) (i := m - a) (by omega)
  refine ⟨d, ?_, L9.tw_all p _ d (List.mem_of_getElem? hd)⟩
  have h3 := hd
  rw [L9.tw_take, List.getElem?_take_of_lt (by omega), List.getElem?_drop, show a + (m - a) = m by omega] at h3
  exact h3
theorem tw_out (p : UInt8 → Bool) (s : List UInt8) (a : Nat) (h : a + ((s.drop a).takeWhile p).length < s.length) : ∃ d, s[a + ((s.drop a).takeWhile p).length]? = some d ∧ p d = false := by
  obtain ⟨d, hd⟩ := get_lt (l := s) (i := a + ((s.drop a).takeWhile p).length) h
  refine ⟨d, hd, ?_⟩
  have key : ∀ (r : List UInt8) (x : UInt8), r[(r.takeWhile p).length]? = some x → p x = false := by
    intro r
    induction r with
    | nil => intro x hx; simp at hx
    | cons y r ih =>
      intro x hx
      cases hy : p y
      · simp [hy] at hx; rw [← hx]; exact hy
      · rw [L9.tw_cons hy, List.length_cons, List.getElem?_cons_succ] at hx
        exact ih x hx
  refine key (s.drop a) d ?_
  rw [List.getElem?_drop]; exact hd
end Go.Proofs.YtgckigolbajhoaaDoor

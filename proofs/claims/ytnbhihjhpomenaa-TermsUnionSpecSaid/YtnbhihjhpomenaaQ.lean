/- Small facts for the laws. -/
import Derived.Test.YtnbhihjhpomenaaPs
namespace Go.Proofs.Ytnbhihjhpomenaa
open Go.RowKit Go
set_option linter.unusedVariables false
set_option linter.unusedSimpArgs false
theorem Few_b (v : Value) (l : Sp) (w : World) (hv : SS w v l) : Calls Try.prog 11 #[v] w fun e w' => e = .returned (.bool (decide (l.length ≤ 40))) ∧ Below w.heap.size w w' :=
  (Few_any v l w hv).mono (by rintro e w' ⟨rfl, rfl⟩; exact ⟨rfl, Below.refl _ _⟩)
theorem few_b (va vb : Value) (a b : Sp) (w : World) (hva : SS w va a) (hvb : SS w vb b) : Calls Try.prog 18 #[va, vb] w fun e w' => e = .returned (.bool (decide (a.length ≤ 40) && decide (b.length ≤ 40))) ∧ Below w.heap.size w w' :=
  (few_any va vb a b w hva hvb).mono (by rintro e w' ⟨rfl, rfl⟩; exact ⟨rfl, Below.refl _ _⟩)
theorem ss_nil {w : World} {v : Value} (h : SS w v []) : ∃ p c, v = .slice p 0 c := h.form
theorem cb_no {P : Bool → Bool → Bool} {a b : Sp} (h : ¬ (T.ok 1024 (-1) a ∧ T.ok 1024 (-1) b)) : cb P a b = [] := if_neg h
theorem ce_no {a b : Sp} (h : ¬ (T.ok 1024 (-1) a ∧ T.ok 1024 (-1) b)) : ce a b = 60 := if_neg h
theorem cb_ok {P : Bool → Bool → Bool} {a b : Sp} (h : T.ok 1024 (-1) a) (h' : T.ok 1024 (-1) b) : cb P a b = cs P a b := if_pos ⟨h, h'⟩
theorem ce_ok {a b : Sp} (h : T.ok 1024 (-1) a) (h' : T.ok 1024 (-1) b) : ce a b = 0 := if_pos ⟨h, h'⟩
theorem cs_dec {P : Bool → Bool → Bool} (hP : P false false = false) {a b : Sp} (ha : T.ok 1024 (-1) a) (hb : T.ok 1024 (-1) b) (x : Int) : decide (T.has (cs P a b) x) = P (decide (T.has a x)) (decide (T.has b x)) := by
  have h := cs_has P hP ha hb x
  cases hp : P (decide (T.has a x)) (decide (T.has b x)) with
  | true => rw [hp] at h; exact decide_eq_true (h.2 rfl)
  | false => rw [hp] at h; exact decide_eq_false (fun e => by have := h.1 e; cases this)
theorem cs_out (P : Bool → Bool → Bool) (a b : Sp) (x : Int) (h : x < 0 ∨ 1024 ≤ x) : decide (T.has (cs P a b) x) = false := decide_eq_false (fun e => by have := T.ok_range (cs_ok P a b) e; omega)

end Go.Proofs.Ytnbhihjhpomenaa

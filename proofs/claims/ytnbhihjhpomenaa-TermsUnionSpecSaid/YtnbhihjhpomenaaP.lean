/- The chapter's examples: they hold wherever they are asked. -/
import Derived.Test.YtnbhihjhpomenaaS
namespace Go.Proofs.Ytnbhihjhpomenaa
open Go.RowKit Go
set_option linter.unusedVariables false
set_option linter.unusedSimpArgs false
theorem ss_new (w : World) (l : Sp) (hl : l.length ≤ 1000) : SS (w.alloc (.cells (sc l).toArray 35)) (.slice (some ⟨w.heap.size, 0, none⟩) l.length l.length) l :=
  .inr ⟨_, _, rfl, Nat.le_refl _, by unfold maxLen; omega, cells_new _ _ _, by simp⟩
/-- Same, where only new memory is laid -/
theorem Same_b (va vb : Value) (a b : Sp) (w : World) (hva : SS w va a) (hvb : SS w vb b) : Calls Try.prog 25 #[va, vb] w fun e w' => e = .returned (.bool (decide (a = b))) ∧ Below w.heap.size w w' :=
  (Same_any va vb a b w hva hvb).mono (by rintro e w' ⟨rfl, n, rfl⟩; exact ⟨rfl, below_drewN _ _ _⟩)
theorem ex1 : cb pOr [(1, 5)] [(3, 8)] = [(1, 8)] := by decide +kernel
theorem ex2 : cb pAnd [(1, 5)] [(3, 8)] = [(3, 5)] := by decide +kernel
theorem ex3 : cb pNot [(1, 5)] [(3, 8)] = [(1, 3)] := by decide +kernel
theorem ex0 : ce [(1, 5)] [(3, 8)] = 0 := by decide +kernel
theorem ex4 : cnt [(3, 8)] = 5 ∧ chk [(3, 8)] = 0 := by decide +kernel
theorem ex5 : chk [] = 0 ∧ chk [(0, 1025)] = 60 ∧ chk [(1, 3), (3, 5)] = 60 := by decide +kernel
theorem ex6 : decide (T.has [(1, 5)] 4) = true ∧ decide (T.has [(1, 5)] 5) = false := by decide +kernel
end Go.Proofs.Ytnbhihjhpomenaa

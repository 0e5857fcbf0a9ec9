/- The reader of the reference: every value. -/
import Derived.Test.YtiklpimnmbjenaaRdI
namespace Go.Proofs.Ytiklpimnmbjenaa
open Go.RowKit Go
set_option linter.unusedVariables false
set_option linter.unusedSimpArgs false
theorem refval_step (d : Nat) (h3 : ∀ (w : World) (b : Nat) (L : List Int) (at_ lev : Nat) (l : List Int) (u : Nat) (r : List Int), RR w b L at_ false → L.drop at_ = 3 :: l → rn 0 0 l = some (u, r) → ¬ r.length < u → lev + d = 16 → lev ≠ 16 →
    Calls Try.prog 30 #[.pointer (some ⟨b, 0, none⟩), .int .i64 lev] w fun e w' => OutW w w' b L (pv d (L.drop at_)) e) : SaidRv d := by
  intro w b L at_ lev hd hr
  cases hL : L.drop at_ with
  | nil => rw [← hL]; exact rval_nil d w b L at_ lev hr hL
  | cons c l =>
    rw [← hL]
    by_cases c1 : c = 1
    · subst c1; exact rval_int d w b L at_ lev l hr hL
    by_cases c2 : c = 2
    · subst c2; exact rval_text d w b L at_ lev l hr hL
    by_cases c3 : c = 3
    · subst c3
      cases hn : rn 0 0 l with
      | none => exact rval_list_none d w b L at_ lev l hr hL hn
      | some x =>
        obtain ⟨u, r⟩ := x
        by_cases hbad : r.length < u ∨ lev = 16
        · exact rval_list_bad d w b L at_ lev l u r hr hL hn hbad hd
        · exact h3 w b L at_ lev l u r hr hL hn (fun h => hbad (.inl h)) hd (fun h => hbad (.inr h))
    exact rval_else d w b L at_ lev c l hr hL c1 c2 c3
theorem refval_any (d : Nat) : SaidRv d := by
  induction d with
  | zero => exact refval_step 0 (fun w b L at_ lev l u r _ _ _ _ h1 h2 => absurd (by omega) h2)
  | succ d ih => exact refval_step (d + 1) (fun w b L at_ lev l u r hr hL hn hb h1 _ => rval_list_good d ih w b L at_ lev l u r hr hL hn hb h1)
end Go.Proofs.Ytiklpimnmbjenaa

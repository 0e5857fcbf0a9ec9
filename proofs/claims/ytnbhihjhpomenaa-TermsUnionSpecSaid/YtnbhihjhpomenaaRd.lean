/- The truth values of an operation make its list. -/
import Derived.Test.YtnbhihjhpomenaaRo
namespace Go.Proofs.Ytnbhihjhpomenaa
open Go.RowKit Go
set_option linter.unusedVariables false
set_option linter.unusedSimpArgs false
theorem ofb_cs (P : Bool → Bool → Bool) (a b : Sp) : ofb (fun t : Nat => P (decide (T.has a (t : Int))) (decide (T.has b (t : Int)))) 1024 = cs P a b := by
  refine T.uniq (ofb_ok _ 1024) (cs_ok P a b) (fun x => ?_)
  have h1 := (T.ofs_ok (fun x : Int => (fun t : Nat => P (decide (T.has a (t : Int))) (decide (T.has b (t : Int)))) x.toNat = true) 1024).2 x
  have h2 := (T.ofs_ok (fun x => P (decide (T.has a x)) (decide (T.has b x)) = true) 1024).2 x
  refine h1.trans (Iff.trans ?_ h2.symm)
  constructor
  · rintro ⟨h3, h4, h5⟩
    simp only [Int.toNat_of_nonneg h3] at h5
    exact ⟨h3, h4, h5⟩
  · rintro ⟨h3, h4, h5⟩
    refine ⟨h3, h4, ?_⟩
    simp only [Int.toNat_of_nonneg h3]
    exact h5
theorem Cells.ups {w w' : World} {a : Addr} {vs : List Value} (h : Cells w a vs) (hb : Below w.heap.size w w') (ha : a.block < w.heap.size) : Cells w' a vs := h.up hb ha
end Go.Proofs.Ytnbhihjhpomenaa

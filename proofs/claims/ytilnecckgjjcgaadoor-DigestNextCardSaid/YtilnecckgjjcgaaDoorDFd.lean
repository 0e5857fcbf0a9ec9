/- The frames' part for an argument that is a digest. -/
import Derived.Test.YtilnecckgjjcgaaDoorDFr
namespace Go.Proofs.YtilnecckgjjcgaaDoor.Dg
open Go Go.ChangeShapes Go.WideShapes Go.ChangeAt Go.RowKit
set_option linter.unusedVariables false
set_option linter.unusedSimpArgs false
def byteOf : Value → UInt8
  | .int _ n => UInt8.ofNat n.toNat
  | _ => 0
section
variable {H : Type} {enc : TypeId × Value → H}
/-- a digest that came in -/
theorem open_digest {W : World} {base : Nat} {v1 : Value} {d1 : DataW H} {p1 : List MemPlace} (hval : Value.okWide Tryd.prog W .any base 26 v1) (h1 : DataW.Trod enc Tryd.prog W 0 (fun _ => true) true 26 v1 d1 p1) : ∃ (l : List UInt8) (us : List Value), IsD l us ∧ v1 = .agg us.toArray := by
  simp only [Value.okWide, Tryd.underlying26] at hval
  obtain ⟨cs, rfl, h2, _⟩ := hval
  have c26 : Tryd.prog.cellsOf 26 = 32 := by kernel_rfl
  have c5 : Tryd.prog.cellsOf 5 = 1 := by kernel_rfl
  rw [c26] at h2
  obtain ⟨fuel, hf⟩ := h1
  obtain ⟨xs, m, _, _, _, hn, hel⟩ := DataW.trod_array Tryd.underlying26 hf
  refine ⟨cs.toList.map byteOf, cs.toList, ?_, by simp⟩
  have e : cs.toList = (cs.toList.map byteOf).map vb := by
    apply List.ext_getElem?
    intro i
    rw [List.getElem?_map, List.getElem?_map]
    by_cases hi : i < 32
    · have h3 := hel i hi
      rw [c5, Nat.mul_one] at h3
      obtain ⟨x, hx⟩ : ∃ x, xs[i]? = some x := ⟨_, List.getElem?_eq_getElem (by omega)⟩
      rw [hx] at h3
      obtain ⟨n, e1, _, hw⟩ := DataW.trod_int Tryd.underlying5 h3
      simp [Lit.wf, IntKind.min, IntKind.max, IntKind.bits, IntKind.signed] at hw
      have e2 : cs.toList[i]? = some (.int .u8 n) := by
        have := congrArg (fun l => l[0]?) e1
        simpa [Value.cells, List.getElem?_take] using this
      rw [e2]
      simp only [Option.map_some, byteOf, vb, Option.some.injEq, Value.int.injEq, true_and]
      rw [byte_ofNat]; omega
    · rw [List.getElem?_eq_none (by simp; omega)]; rfl
  have hl : (cs.toList.map byteOf).length = 32 := by simp [h2]
  have h4 := isD_of hl
  rwa [← e] at h4
end
end Go.Proofs.YtilnecckgjjcgaaDoor.Dg

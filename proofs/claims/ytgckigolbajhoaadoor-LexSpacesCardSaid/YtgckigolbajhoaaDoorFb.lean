/- The frames' common part: bytes that came in. -/
import Derived.Test.YtgckigolbajhoaaDoorFr
import Derived.Test.YtgckigolbajhoaaDoorWsp
namespace Go.Proofs.YtgckigolbajhoaaDoor
open Go Go.ChangeShapes Go.WideShapes Go.ChangeAt Go.RowKit
set_option linter.unusedVariables false
set_option maxRecDepth 100000
set_option linter.unusedSimpArgs false
section
variable {H : Type} {enc : TypeId × Value → H}
theorem open_bytes {W : World} {base : Nat} {v1 : Value} {d1 : DataW H} {p1 : List MemPlace} {ts : List TypeId} {ds : List (DataW H)} {j : Nat} (hval : Value.okWide Tryd.prog W .any base 38 v1) (h1 : DataW.Trod enc Tryd.prog W 0 (fun _ => true) true 38 v1 d1 p1)
    (hsz : (DataW.weightsEach Tryd.prog ts ds).all (· ≤ reachBytes) = true) (ht : ts[j]? = some 38) (hd : ds[j]? = some d1) : ∃ _ : Unit, BV W v1 ∧ True := by
  obtain ⟨a1, len, cap, rfl⟩ := okWide_slice Tryd.underlying38 hval
  obtain ⟨fuel, hf⟩ := h1
  have c5 : Tryd.prog.cellsOf 5 = 1 := by kernel_rfl
  rcases open_ints Tryd.underlying38 Tryd.underlying5 c5 hf with ⟨hcs, hx⟩ | ⟨a, len', cap', zs, hcs, _, hl, hm, hz, hx, hcell, hwz⟩
  · simp [Value.cells] at hcs
    obtain ⟨rfl, rfl, rfl⟩ := hcs
    exact ⟨(), ⟨_, _, _, rfl, by simp, fun i hi => by omega⟩, trivial⟩
  · simp [Value.cells] at hcs
    obtain ⟨rfl, rfl, rfl⟩ := hcs
    simp only [if_true] at hz
    have hh : W.has Tryd.prog .any base a 5 cap := by
      unfold Value.okWide at hval
      rw [Tryd.underlying38] at hval
      simp only [Cell.okWide, Cell.ok, Tryd.underlying38] at hval
      exact hval.2.2
    obtain ⟨_, hsp, row, cells, hsh, _⟩ := hh
    refine ⟨(), ⟨_, _, _, rfl, by omega, fun i hi => ?_⟩, trivial⟩
    have hcc : ∀ i, i < len → W.cell? (a.add i) = some (.int .u8 (zs.getD i 0)) := fun i hi => hcell i (by omega)
    have hC : Cells W a ((List.range len).map (fun i => Value.int .u8 (zs.getD i 0))) := by
      intro j v hj
      have hjl : j < len := by
        have := (List.getElem?_eq_some_iff.1 hj).1
        simpa using this
      rw [List.getElem?_map, List.getElem?_range hjl] at hj
      simp only [Option.map_some, Option.some.injEq] at hj
      rw [← hj]; exact hcc j hjl
    have ha : a = ⟨a.block, a.off, none⟩ := by
      obtain ⟨v, vs, hv⟩ : ∃ v vs, (List.range len).map (fun i => Value.int .u8 (zs.getD i 0)) = v :: vs := by
        cases hq : (List.range len).map (fun i => Value.int .u8 (zs.getD i 0)) with
        | nil => have := congrArg List.length hq; simp at this; omega
        | cons v vs => exact ⟨v, vs, rfl⟩
      rw [hv] at hC
      exact hC.spot
    have hzi : zs.getD i 0 ∈ zs := by
      rw [List.getD_eq_getElem?_getD, List.getElem?_eq_getElem (by omega), Option.getD_some]
      exact List.getElem_mem _
    have hw := hwz _ hzi
    simp [Lit.wf, IntKind.min, IntKind.max, IntKind.bits, IntKind.signed] at hw
    refine ⟨a.block, a.off, (zs.getD i 0).toNat, by rw [← ha], shape_lt hsh, by simp only [List.getD_eq_getElem?_getD] at *; omega, ?_⟩
    have h2 := hcc i hi
    rw [ha, add_plain] at h2
    rw [h2]
    have : ((zs.getD i 0).toNat : Int) = zs.getD i 0 := Int.toNat_of_nonneg (by simp only [List.getD_eq_getElem?_getD] at *; omega)
    rw [this]
end
end Go.Proofs.YtgckigolbajhoaaDoor

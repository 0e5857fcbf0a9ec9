/- What the statements' frames share: the listed variable's cells, the opening of the arguments. -/
import Derived.Test.YtaoehkoffhnidaaDoorTie
import Derived.Test.YtaoehkoffhnidaaDoorDEqs
import Derived.ProofKit
import Derived.LaidMore
import Derived.SizedLaws
import Derived.ChangeMaps5
import Derived.OpenShut
import Derived.Stop.Joined
import Derived.SevenTiedAt
import Derived.Lib.SmallJoins
namespace Go.Proofs.YtaoehkoffhnidaaDoor.Dg
open Go Go.ChangeShapes Go.WideShapes Go.ChangeAt Go.RowKit
set_option linter.unusedVariables false
set_option maxRecDepth 20000
set_option linter.unusedSimpArgs false
theorem own : ownKnob Tryd.prog.godebug = none := by kernel_rfl
theorem laidOut : laidOutB Tryd.prog = true := by kernel_rfl
theorem gConst : Tryd.prog.globalNamed "sizar/digest.constants" = some 2 := by kernel_rfl
theorem tConst : (Tryd.prog.globals[2]?).map (·.type) = some 98 := by kernel_rfl
/-- the listed variable and what it reads as -/
def laidC {H : Type} : List (String × DataW H) := [("sizar/digest.constants", Rows.laid_sizar_digest_constants)]
theorem door_met (os : Os) (args : Array Value) : laidMetH Tryd.prog laidC ((World.doorLaid Tryd.prog 4000 os).forCall (fun _ _ => 0) ⟨#[], args, []⟩).memory :=
  laidMetH_of_parts3 (fuel := 8) (laidMet_of_run' 8 (by kernel_rfl) (by kernel_rfl)) (by kernel_rfl) (by kernel_rfl)
theorem kk_nat : ∀ t, t < 64 → (kk t).toNat = Kn.getD t 0 := by decide +kernel
theorem konst_of {W : World} (h : laidMetH Tryd.prog laidC W) : Konst W := by
  unfold laidC at h
  rw [MakeChecks.laidMetH_plain _ _ _ (by kernel_rfl)] at h
  obtain ⟨ps, ⟨g0, t0, cs0, f0, p0, q0, hg0, ht0, hv0, hd0, _, _⟩, _, _⟩ := h
  obtain rfl := Option.some.inj (gConst.symm.trans hg0)
  obtain rfl := Option.some.inj (tConst.symm.trans ht0)
  obtain ⟨xs, m, rfl, hx, hlen, hn, hel⟩ := DataW.trod_array Tryd.underlying98 hd0
  have c49 : Tryd.prog.cellsOf 84 = 1 := by kernel_rfl
  have hm : xs.map (·.1) = Kn.map (fun k : Nat => DataW.lit (.int .u32 (k : Int))) := by
    simp only [Prod.mk.injEq] at hx
    have e := hx.1
    unfold Rows.laid_sizar_digest_constants at e
    simp only [DataW.agg.injEq] at e
    rw [← e]; rfl
  intro t ht
  have h1 := hel t ht
  rw [c49, Nat.mul_one] at h1
  obtain ⟨x, hxt⟩ : ∃ x, xs[t]? = some x := ⟨_, List.getElem?_eq_getElem (by omega)⟩
  rw [hxt] at h1
  obtain ⟨k, e1, e2, _⟩ := DataW.trod_int Tryd.underlying84 h1
  have e3 : (xs.map (·.1))[t]? = some (.lit (.int .u32 k)) := by rw [List.getElem?_map, hxt, e2]; rfl
  rw [hm, List.getElem?_map] at e3
  have hk : k = ((Kn.getD t 0 : Nat) : Int) := by
    rw [List.getD_eq_getElem?_getD]
    cases hq : Kn[t]? with
    | none => rw [hq] at e3; simp at e3
    | some y =>
      rw [hq] at e3
      simp only [Option.map_some, Option.some.injEq, DataW.lit.injEq, Lit.int.injEq, true_and] at e3
      simp [e3]
  have e4 : cs0.toList[t]? = some (.int .u32 k) := by
    have e5 : (cs0.toList.drop t)[0]? = some (.int .u32 k) := by
      have := congrArg (fun l => l[0]?) e1
      simp only [List.getElem?_take] at this
      simpa using this
    simpa using e5
  have e6 := World.var?_cell hg0 hv0 t
  rw [e6, kk_nat t ht, ← hk, ← Array.getElem?_toList]
  exact e4
theorem shape_lt {w : World} {b : Nat} {x : TypeId × Nat} (h : w.shape? b = some x) : b < w.heap.size := by
  unfold World.shape? at h
  cases hb : w.heap[b]? with
  | none => rw [hb] at h; simp at h
  | some o => exact (Array.getElem?_eq_some_iff.1 hb).1
section
variable {H : Type} {enc : TypeId × Value → H}
/-- bytes that came in -/
theorem open_bs {W : World} {base : Nat} {v1 : Value} {d1 : DataW H} {p1 : List MemPlace} (hval : Value.okWide Tryd.prog W .any base 22 v1) (h1 : DataW.Trod enc Tryd.prog W 0 (fun _ => true) true 22 v1 d1 p1) : ∃ b, BS W v1 b := by
  obtain ⟨a1, len, cap, rfl⟩ := okWide_slice Tryd.underlying22 hval
  obtain ⟨fuel, hf⟩ := h1
  have c5 : Tryd.prog.cellsOf 5 = 1 := by kernel_rfl
  rcases open_ints Tryd.underlying22 Tryd.underlying5 c5 hf with ⟨hcs, hx⟩ | ⟨a, len', cap', zs, hcs, _, hl, hm, hz, hx, hcell, hwz⟩
  · simp [Value.cells] at hcs
    obtain ⟨rfl, rfl, rfl⟩ := hcs
    exact ⟨[], .inl ⟨rfl, rfl⟩⟩
  · simp [Value.cells] at hcs
    obtain ⟨rfl, rfl, rfl⟩ := hcs
    simp only [if_true] at hz
    have hh : W.has Tryd.prog .any base a 5 cap := by
      unfold Value.okWide at hval
      rw [Tryd.underlying22] at hval
      simp only [Cell.okWide, Cell.ok, Tryd.underlying22] at hval
      exact hval.2.2
    obtain ⟨_, hsp, row, cells, hsh, _⟩ := hh
    have hlen : ((zs.take len).map fun n => UInt8.ofNat n.toNat).length = len := by simp; omega
    refine ⟨(zs.take len).map fun n => UInt8.ofNat n.toNat, .inr ⟨a, cap, by rw [hlen], by rw [hlen]; exact hl, hm, ?_, shape_lt hsh⟩⟩
    intro j v hj
    have hjl : j < len := by
      have := (List.getElem?_eq_some_iff.1 hj).1
      simp at this; omega
    rw [hcell j (by omega)]
    rw [List.getElem?_map, List.getElem?_map, List.getElem?_take, if_pos hjl, List.getElem?_eq_getElem (by omega)] at hj
    simp only [Option.map_some, Option.some.injEq] at hj
    rw [← hj, List.getD_eq_getElem?_getD, List.getElem?_eq_getElem (by omega), Option.getD_some, vb]
    have hw := hwz (zs[j]'(by omega)) (List.getElem_mem _)
    simp [Lit.wf, IntKind.min, IntKind.max, IntKind.bits, IntKind.signed] at hw
    congr 3
    simp
    omega
/-- bytes that came in, and the bound on their number -/
theorem open_bss {W : World} {base : Nat} {v1 : Value} {d1 : DataW H} {p1 : List MemPlace} {ts : List TypeId} {ds : List (DataW H)} {j : Nat} (hval : Value.okWide Tryd.prog W .any base 22 v1) (h1 : DataW.Trod enc Tryd.prog W 0 (fun _ => true) true 22 v1 d1 p1)
    (hsz : (DataW.weightsEach Tryd.prog ts ds).all (· ≤ reachBytes) = true) (ht : ts[j]? = some 22) (hd : ds[j]? = some d1) : ∃ b, BS W v1 b ∧ b.length ≤ reachBytes := by
  obtain ⟨b, hb⟩ := open_bs hval h1
  refine ⟨b, hb, ?_⟩
  obtain ⟨fuel, hf⟩ := h1
  have c5 : Tryd.prog.cellsOf 5 = 1 := by kernel_rfl
  rcases open_ints Tryd.underlying22 Tryd.underlying5 c5 hf with ⟨hcs, hx⟩ | ⟨a, len, cap, zs, hcs, _, hl, hm, hz, hx, hcell, hwz⟩
  · rcases hb with ⟨_, h⟩ | ⟨a, c, h, _⟩
    · rw [h]; simp
    · subst h
      simp [Value.cells] at hcs
  · rcases hb with ⟨h, h'⟩ | ⟨a', c, h, _⟩
    · rw [h']; simp
    · subst h
      simp [Value.cells] at hcs
      obtain ⟨_, hlen, _⟩ := hcs
      simp only [Prod.mk.injEq] at hx
      have := sized_slice hsz ht (by rw [hd, hx.1]) Tryd.underlying22
      rw [show Tryd.prog.bytesOf 5 = 1 by kernel_rfl, Nat.mul_one] at this
      simp only [if_true] at hz
      simp [lits] at this
      omega
end
end Go.Proofs.YtaoehkoffhnidaaDoor.Dg
namespace Go.Proofs.YtaoehkoffhnidaaDoor.Dg
open Go Go.ChangeShapes Go.WideShapes Go.ChangeAt Go.RowKit
set_option linter.unusedVariables false
set_option maxRecDepth 20000
set_option linter.unusedSimpArgs false
def byteOf : Value → UInt8
  | .int _ n => UInt8.ofNat n.toNat
  | _ => 0
section
variable {H : Type} {enc : TypeId × Value → H}
/-- a digest that came in -/
theorem open_digest {W : World} {base : Nat} {v1 : Value} {d1 : DataW H} {p1 : List MemPlace} (hval : Value.okWide Tryd.prog W .any base 35 v1) (h1 : DataW.Trod enc Tryd.prog W 0 (fun _ => true) true 35 v1 d1 p1) : ∃ (l : List UInt8) (us : List Value), IsD l us ∧ v1 = .agg us.toArray := by
  simp only [Value.okWide, Tryd.underlying35] at hval
  obtain ⟨cs, rfl, h2, _⟩ := hval
  have c26 : Tryd.prog.cellsOf 35 = 32 := by kernel_rfl
  have c5 : Tryd.prog.cellsOf 5 = 1 := by kernel_rfl
  rw [c26] at h2
  obtain ⟨fuel, hf⟩ := h1
  obtain ⟨xs, m, _, _, _, hn, hel⟩ := DataW.trod_array Tryd.underlying35 hf
  refine ⟨cs.toList.map byteOf, cs.toList, ?_, by simp⟩
  have e : cs.toList = (cs.toList.map byteOf).map vb := by
    apply List.ext_getElem?
    intro i
    rw [List.getElem?_map, List.getElem?_map]
    by_cases hi : i < 32
    · have h3 := hel i hi
      rw [c5, Nat.mul_one] at h3
      obtain ⟨x, hx⟩ : ∃ x, xs[i]? = some x := ⟨_, List.getElem?_eq_getElem (by omega)⟩
      rw [hx] at h3
      obtain ⟨n, e1, _, hw⟩ := DataW.trod_int Tryd.underlying5 h3
      simp [Lit.wf, IntKind.min, IntKind.max, IntKind.bits, IntKind.signed] at hw
      have e2 : cs.toList[i]? = some (.int .u8 n) := by
        have := congrArg (fun l => l[0]?) e1
        simpa [Value.cells, List.getElem?_take] using this
      rw [e2]
      simp only [Option.map_some, byteOf, vb, Option.some.injEq, Value.int.injEq, true_and]
      rw [byte_ofNat]; omega
    · rw [List.getElem?_eq_none (by simp; omega)]; rfl
  have hl : (cs.toList.map byteOf).length = 32 := by simp [h2]
  have h4 := isD_of hl
  rwa [← e] at h4
end
end Go.Proofs.YtaoehkoffhnidaaDoor.Dg
namespace Go.Proofs.YtaoehkoffhnidaaDoor.Dg
open Go Go.ChangeShapes Go.WideShapes Go.ChangeAt Go.RowKit
set_option linter.unusedVariables false
set_option maxRecDepth 20000
set_option linter.unusedSimpArgs false
section
variable {H : Type} {enc : TypeId × Value → H}
/-- a signature that came in -/
theorem open_sig {W : World} {base : Nat} {v1 : Value} {d1 : DataW H} {p1 : List MemPlace} (hval : Value.okWide Tryd.prog W .any base 30 v1) (h1 : DataW.Trod enc Tryd.prog W 0 (fun _ => true) true 30 v1 d1 p1) : ∃ R S : Int, v1 = .agg #[.int .i64 R, .int .i64 S] := by
  obtain ⟨v0, v1, y0, y1, n, rfl, _, _, h0, h1⟩ := Go.Joins.open_agg2 Tryd.underlying30 (by kernel_rfl) (by kernel_rfl) hval h1
  obtain ⟨a, e0, _, _⟩ := DataW.trod_int Tryd.underlying3 h0
  obtain ⟨b, e1, _, _⟩ := DataW.trod_int Tryd.underlying3 h1
  simp only [List.cons.injEq, and_true] at e0 e1
  subst e0
  subst e1
  exact ⟨a, b, rfl⟩
end
end Go.Proofs.YtaoehkoffhnidaaDoor.Dg

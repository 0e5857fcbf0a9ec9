/- What an argument of type api.Value reads as. -/
import Derived.Test.YtiklpimnmbjenaaTree
import Derived.Test.YtiklpimnmbjenaaRows
import Derived.ProofKit
import Derived.Lib.SmallJoins
namespace Go.Proofs.Ytiklpimnmbjenaa
open Go.RowKit Go
set_option linter.unusedVariables false
set_option linter.unusedSimpArgs false

theorem Try.cells24 : Try.prog.cellsOf 24 = 4 := by kernel_rfl
theorem Try.cells3 : Try.prog.cellsOf 3 = 1 := by kernel_rfl
theorem Try.cells9 : Try.prog.cellsOf 9 = 1 := by kernel_rfl
theorem Try.cells22 : Try.prog.cellsOf 22 = 1 := by kernel_rfl
theorem Try.under24 : ∃ f0 f1 f2 f3 : Field, Try.prog.underlying 24 = some (.struct #[f0, f1, f2, f3]) ∧ (f0.type = 3 ∧ f0.offset = 0) ∧ (f1.type = 3 ∧ f1.offset = 1) ∧ (f2.type = 9 ∧ f2.offset = 2) ∧ (f3.type = 22 ∧ f3.offset = 3) :=
  ⟨_, _, _, _, Try.underlying24, ⟨rfl, rfl⟩, ⟨rfl, rfl⟩, ⟨rfl, rfl⟩, ⟨rfl, rfl⟩⟩

theorem wfI_of {n : Int} (h : (Lit.int .i64 n).wf = true) : wfI n := by simpa [Lit.wf, IntKind.min, IntKind.max, wfI, IntKind.bits, IntKind.signed] using h

theorem collect {p : Nat → T → Prop} : ∀ {len : Nat}, (∀ i, i < len → ∃ t, p i t) → ∃ ts : List T, ts.length = len ∧ ∀ i t, ts[i]? = some t → p i t
  | 0, _ => ⟨[], rfl, by intro i t h; simp at h⟩
  | len + 1, hkid => by
    obtain ⟨ts, h1, h2⟩ := collect (len := len) (fun i hi => hkid i (by omega))
    obtain ⟨t, hh⟩ := hkid len (by omega)
    refine ⟨ts ++ [t], by simp [h1], fun i u hu => ?_⟩
    by_cases hi : i < len
    · rw [List.getElem?_append_left (by omega)] at hu; exact h2 i u hu
    · have : i = len := by have := (List.getElem?_eq_some_iff.1 hu).1; simp at this; omega
      subst this
      rw [← h1] at hu
      simp at hu; subst hu
      exact hh

theorem trod_at {H : Type} {enc : TypeId × Value → H} {w : World} : ∀ (fuel : Nat) (cs : List Value) (x : DataW H × List MemPlace), DataW.trod enc Try.prog w 0 (fun _ => true) true fuel 24 cs = some x →
    ∃ c0 c1 c2 c3, cs = [c0, c1, c2, c3] ∧ ∃ t, AtP w (· < w.heap.size) t (.agg #[c0, c1, c2, c3]) := by
  intro fuel
  induction fuel using Nat.strongRecOn with
  | ind fuel ih =>
    intro cs x h
    obtain ⟨g0, g1, g2, g3, hu, ⟨t0, o0⟩, ⟨t1, o1⟩, ⟨t2, o2⟩, ⟨t3, o3⟩⟩ := Try.under24
    obtain ⟨xs, n, rfl, rfl, hl, hlen, hf⟩ := DataW.trod_struct hu h
    rw [Try.cells24] at hl
    obtain ⟨c0, c1, c2, c3, rfl⟩ : ∃ c0 c1 c2 c3, cs = [c0, c1, c2, c3] := by
      match cs, hl with
      | [c0, c1, c2, c3], _ => exact ⟨c0, c1, c2, c3, rfl⟩
    obtain ⟨y0, y1, y2, y3, rfl⟩ : ∃ y0 y1 y2 y3, xs = [y0, y1, y2, y3] := by
      match xs, hlen with
      | [c0, c1, c2, c3], _ => exact ⟨c0, c1, c2, c3, rfl⟩
    have h0 := hf 0 g0 rfl
    have h1 := hf 1 g1 rfl
    have h2 := hf 2 g2 rfl
    have h3 := hf 3 g3 rfl
    rw [t0, o0, Try.cells3] at h0
    rw [t1, o1, Try.cells3] at h1
    rw [t2, o2, Try.cells9] at h2
    rw [t3, o3, Try.cells22] at h3
    simp at h0 h1 h2 h3
    obtain ⟨k, e0, _, wk⟩ := DataW.trod_int Try.underlying3 h0
    obtain ⟨m, e1, _, wm⟩ := DataW.trod_int Try.underlying3 h1
    obtain ⟨s, e2, _, ws⟩ := DataW.trod_string Try.underlying9 h2
    simp at e0 e1 e2
    subst e0 e1 e2
    refine ⟨_, _, _, _, rfl, ?_⟩
    rcases DataW.trod_slice Try.underlying22 h3 with ⟨e3, _⟩ | ⟨a, len, cap, elems, rest, n', rfl, e3, _, hb, hlc, hm, hel, hall, _⟩
    · simp at e3; subst e3
      refine ⟨T.mk k m s [], ?_⟩
      rw [AtP]
      exact ⟨⟨wfI_of wk, wfI_of wm⟩, ws, none, 0, rfl, by simp, by simp, 0, 0, by simp, by simp⟩
    · simp at e3; subst e3
      have hkid : ∀ i, i < len → ∃ t c0 c1 c2 c3, AtP w (· < w.heap.size) t (.agg #[c0, c1, c2, c3]) ∧ w.cell? (a.add (i * 4)) = some c0 ∧ w.cell? ((a.add (i * 4)).add 1) = some c1 ∧ w.cell? ((a.add (i * 4)).add 2) = some c2 ∧ w.cell? ((a.add (i * 4)).add 3) = some c3 := by
        intro i hi
        have he := hall i hi
        rw [Try.cells24, List.getElem?_eq_getElem (by omega)] at he
        cases hc : w.cells? 0 (a.add (i * 4)) 4 with
        | none => rw [hc] at he; cases he
        | some cs' =>
          rw [hc] at he
          obtain ⟨d0, d1, d2, d3, rfl, t, ht⟩ := ih n' (by omega) cs' _ he
          obtain ⟨_, _, hcell⟩ := World.cells?_some hc
          have k0 := hcell 0 (by omega); have k1 := hcell 1 (by omega); have k2 := hcell 2 (by omega); have k3 := hcell 3 (by omega)
          exact ⟨t, d0, d1, d2, d3, ht, by simpa [Addr.add] using k0, by simpa using k1, by simpa using k2, by simpa using k3⟩
      obtain ⟨ts, hts⟩ := collect hkid
      refine ⟨T.mk k m s ts, ?_⟩
      rw [AtP]
      obtain ⟨b, off, spot⟩ := a
      have hsp : 0 < ts.length → spot = none := by
        intro hpos
        obtain ⟨c0, _, _, _, _, e0, _⟩ := hts.2 0 ts[0] (List.getElem?_eq_getElem hpos)
        have hs := World.cell?_spot e0
        simpa [Addr.add] using hs
      refine ⟨⟨wfI_of wk, wfI_of wm⟩, ws, some ⟨b, off, spot⟩, cap, by rw [hts.1], by rw [hts.1]; exact hlc, by unfold maxLen at hm; omega, b, off, fun hne => ?_, fun i hi => ?_⟩
      · have hpos : 0 < ts.length := List.length_pos_iff.2 hne
        obtain ⟨c0, _, _, _, _, e0, _⟩ := hts.2 0 ts[0] (List.getElem?_eq_getElem hpos)
        have hs := World.cell?_spot e0
        have hlt := World.block_lt_of_cell? w _ e0
        simp [Addr.add] at hs hlt
        subst hs
        exact ⟨rfl, hlt⟩
      · obtain ⟨c0, c1, c2, c3, ha, e0, e1, e2, e3⟩ := hts.2 i ts[i] (List.getElem?_eq_getElem hi)
        have hspot := hsp (by omega)
        subst hspot
        have hadd : ∀ j, (⟨b, off, none⟩ : Addr).add j = ⟨b, off + j, none⟩ := by intro j; unfold Addr.add; split <;> simp_all
        rw [hadd] at e0 e1 e2 e3
        have hadd' : ∀ j, (⟨b, off + i * 4, none⟩ : Addr).add j = ⟨b, off + i * 4 + j, none⟩ := by intro j; unfold Addr.add; split <;> simp_all
        rw [hadd'] at e1 e2 e3
        exact ⟨c0, c1, c2, c3, ha, e0, e1, e2, e3⟩

end Go.Proofs.Ytiklpimnmbjenaa

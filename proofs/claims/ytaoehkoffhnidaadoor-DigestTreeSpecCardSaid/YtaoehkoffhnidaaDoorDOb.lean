/- Appending to rows of bytes of the call's own. -/
import Derived.Test.YtaoehkoffhnidaaDoorDEqs
import Derived.Test.YtaoehkoffhnidaaDoorDJ
namespace Go.Proofs.YtaoehkoffhnidaaDoor.Dg
open Go.RowKit Go
set_option linter.unusedVariables false
set_option maxRecDepth 20000
set_option linter.unusedSimpArgs false
theorem info5s : (Tryd.prog.info? 5).map (fun i => (i.zero.map (fun z => z.cells.size), i.size, i.bytes)) = some (some 1, 1, 1) := by kernel_rfl
/-- bytes in a row of the call's own (no block below base), or nothing yet -/
def OB (w : World) (base : Nat) (v : Value) (l : List UInt8) : Prop := (w.ownsRow base 5 1 v l.length (l.map vb)) ∨ (l = [] ∧ ∃ ad, v = .slice (some ad) 0 0)
theorem OB.ups {w w' : World} {base : Nat} {v : Value} {l : List UInt8} (h : OB w base v l) (hb : Below w.heap.size w w') : OB w' base v l := by
  rcases h with h | h
  · refine .inl (World.ownsRow.kept h (grown_of_below (r := none) hb) ?_)
    cases v.ownBlock with
    | none => exact .inl rfl
    | some k => exact .inr (by simp)
  · exact .inr h
theorem OB.bs {w : World} {base : Nat} {v : Value} {l : List UInt8} (h : OB w base v l) (h0 : 0 < l.length) : BS w v l := by
  rcases h with h | ⟨rfl, _⟩
  · obtain ⟨g, cap, rfl, h1⟩ := Own.of_row h h0
    exact h1.bs
  · simp at h0
theorem append_ob {w : World} {base : Nat} {v u : Value} {l b : List UInt8} (h : OB w base v l) (hv : BS w u b) (hn : l.length + b.length ≤ 70368744000000) (hb : base ≤ w.heap.size) :
    ∃ v' w', (Builtin.append_ #[22, 22] 22 #[v, u]).run Tryd.prog w = .ok v' w' ∧ OB w' base v' (l ++ b) ∧ Below base w w' := by
  obtain ⟨i, hi, hf⟩ := Option.map_eq_some_iff.1 info5s
  simp only [Prod.mk.injEq] at hf
  obtain ⟨hz, hs, hby⟩ := hf
  obtain ⟨z, hz, hzs⟩ := Option.map_eq_some_iff.1 hz
  rcases h with h | ⟨rfl, ad, rfl⟩
  · rcases hv with ⟨rfl, rfl⟩ | ⟨a, c, rfl, h2, h3, h4, h5⟩
    · have hr := run_append_owned_none (P := Tryd.prog) (w := w) base 22 22 5 i 1 Tryd.underlying22 hi _ _ _ h
      exact ⟨v, w, hr, .inl (by simpa using h), Below.refl _ _⟩
    · obtain ⟨v', w', h6, h7, h8, h9⟩ := run_append_own (P := Tryd.prog) w base 22 22 5 i z 1 1 Tryd.underlying22 hi hz hs hby hzs (by omega) v l.length _ h a b.length c (b.map vb) (by simp) h4 (one_vb b) (by unfold maxLen; omega) (by omega) hb
      refine ⟨v', w', h6, .inl ?_, ?_⟩
      · rw [List.length_append, List.map_append]; exact h7
      · exact (Below.refl base w).grown h8 hb (fun k hk => (World.ownsRow.lt h k hk).1)
  · rcases hv with ⟨rfl, rfl⟩ | ⟨a, c, rfl, h2, h3, h4, h5⟩
    · refine ⟨.slice (some ad) 0 0, w, ?_, .inr ⟨rfl, ad, rfl⟩, Below.refl _ _⟩
      simp [Builtin.append_, run_underlying Tryd.underlying22, sizeOf, typeInfo, hi, hs, Builtin.lenOf, Builtin.firstCells, loadCellsFrom, storeCells]
    · by_cases hb0 : b.length = 0
      · obtain rfl := List.eq_nil_of_length_eq_zero hb0
        have e0 : (loadCells a 0).run Tryd.prog w = .ok #[] w := by simpa using run_loadCells_list (P := Tryd.prog) w a [] (by simp)
        refine ⟨.slice (some ad) 0 0, w, ?_, .inr ⟨rfl, ad, rfl⟩, Below.refl _ _⟩
        simp [e0, Builtin.append_, run_underlying Tryd.underlying22, sizeOf, typeInfo, hi, hs, Builtin.lenOf, Builtin.firstCells, loadCellsFrom, storeCells]
      · obtain ⟨g, cap', w', h6, h7, h8⟩ := append_grow (w := w) (a1 := ad) (a2 := a) (l1 := []) (l2 := b) (cap := 0) (c := c) (fun j v hj => by simp at hj) h4 (by simp; omega) (by simp; omega)
        refine ⟨_, w', h6, .inl ?_, h8.mono hb⟩
        unfold Own at h7
        obtain ⟨e1, e2⟩ := h7
        refine ⟨e1, ?_⟩
        rcases e2 with e2 | ⟨g', cap2, cur, e3, e4, e5⟩
        · exact .inl e2
        · exact .inr ⟨g', cap2, cur, e3, by omega, e5⟩
end Go.Proofs.YtaoehkoffhnidaaDoor.Dg

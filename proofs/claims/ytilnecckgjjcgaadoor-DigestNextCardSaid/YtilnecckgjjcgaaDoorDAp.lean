/- Appending to rows of the call's own, of bytes and of digests, as steps of a region. -/
import Derived.Test.YtilnecckgjjcgaaDoorDSn
import Derived.Test.YtilnecckgjjcgaaDoorDOb
namespace Go.Proofs.YtilnecckgjjcgaaDoor.Dg
open Go.RowKit Go
set_option linter.unusedVariables false
set_option linter.unusedSimpArgs false
/-- a list of digests in a row of the call's own, or nothing yet -/
def OE (w : World) (base : Nat) (v : Value) (ds : List (List UInt8)) : Prop := OD w base v ds ∨ (ds = [] ∧ ∃ ad, v = .slice (some ad) 0 0)
theorem OE.ups {w w' : World} {base : Nat} {v : Value} {ds : List (List UInt8)} (h : OE w base v ds) (hb : Below w.heap.size w w') : OE w' base v ds := by
  rcases h with h | h
  · exact .inl (h.ups hb)
  · exact .inr h
theorem OE.ds {w : World} {base : Nat} {v : Value} {ds : List (List UInt8)} (h : OE w base v ds) : DS w v ds := by
  rcases h with h | ⟨rfl, ad, rfl⟩
  · exact h.ds
  · exact ⟨by simp, .inl ⟨rfl, some ad, 0, rfl, by omega⟩⟩
/-- what is appended: nil, or a row of digests -/
def DA (w : World) (u : Value) (es : List (List UInt8)) : Prop := (u = .slice none 0 0 ∧ es = []) ∨ ∃ a c, u = .slice (some a) es.length c ∧ (∀ d ∈ es, d.length = 32) ∧ Cells w a (es.flatten.map vb)
theorem DA.ups {w w' : World} {v : Value} {ds : List (List UInt8)} (h : DA w v ds) (hb : Below w.heap.size w w') : DA w' v ds := by
  rcases h with h | ⟨a, c, h1, h2, h3⟩
  · exact .inl h
  · exact .inr ⟨a, c, h1, h2, h3.ups hb⟩
theorem DS.da {w : World} {v : Value} {ds : List (List UInt8)} (h : DS w v ds) (h0 : 0 < ds.length) : DA w v ds := by
  obtain ⟨g, o, cap, h1, h2, h3, h4, h5, h6⟩ := h.pos h0
  exact .inr ⟨_, cap, h1, h6, h4⟩
theorem OD.da {w : World} {base : Nat} {v : Value} {ds : List (List UInt8)} (h : OD w base v ds) : DA w v ds := by
  have hc := h.2
  rcases h.2.2 with ⟨rfl, h3⟩ | ⟨g, cap, cur, rfl, _⟩
  · exact .inl ⟨rfl, List.eq_nil_of_length_eq_zero h3⟩
  · exact .inr ⟨_, cap, rfl, h.1, fun j v hj => World.ownsRow.cells hc rfl j v hj⟩
theorem isD_da {w : World} {g : Nat} {d : List UInt8} {us : List Value} {c : Nat} (hd : IsD d us) (h : Cells w ⟨g, 0, none⟩ us) : DA w (.slice (some ⟨g, 0, none⟩) 1 c) [d] :=
  .inr ⟨_, c, rfl, by intro x hx; simp at hx; subst hx; exact hd.len, by rw [List.flatten_cons, List.flatten_nil, List.append_nil, ← hd.eq]; exact h⟩
theorem append_oe {w : World} {base : Nat} {v u : Value} {ds es : List (List UInt8)} (h : OE w base v ds) (hv : DA w u es) (hn : ds.length + es.length ≤ 1000000000) (hb : base ≤ w.heap.size) :
    ∃ v' w', (Builtin.append_ #[30, 30] 30 #[v, u]).run Tryd.prog w = .ok v' w' ∧ OE w' base v' (ds ++ es) ∧ Below base w w' := by
  obtain ⟨i, hi, hf⟩ := Option.map_eq_some_iff.1 info26s
  simp only [Prod.mk.injEq] at hf
  obtain ⟨hz, hs, hby⟩ := hf
  obtain ⟨z, hz, hzs⟩ := Option.map_eq_some_iff.1 hz
  rcases h with h | ⟨rfl, ad, rfl⟩
  · rcases hv with ⟨rfl, rfl⟩ | ⟨a, hv⟩
    · have hr := run_append_owned_none (P := Tryd.prog) (w := w) base 30 30 26 i 32 Tryd.underlying30 hi _ _ _ h.2
      exact ⟨v, w, hr, .inl (by rw [List.append_nil]; exact h), Below.refl _ _⟩
    · obtain ⟨cap, rfl, h6, h4⟩ := hv
      obtain ⟨v', w', h7, h8, h9⟩ := append_od (c := cap) h h6 rfl h4 (by omega) hb
      exact ⟨v', w', h7, .inl h8, h9⟩
  · rcases hv with ⟨rfl, rfl⟩ | ⟨a, hv⟩
    · refine ⟨.slice (some ad) 0 0, w, ?_, .inr ⟨rfl, ad, rfl⟩, Below.refl _ _⟩
      simp [Builtin.append_, run_underlying Tryd.underlying30, sizeOf, typeInfo, hi, hs, Builtin.lenOf, Builtin.firstCells, loadCellsFrom, storeCells]
    · obtain ⟨cap, rfl, h6, h4⟩ := hv
      by_cases h0 : es.length = 0
      · obtain rfl := List.eq_nil_of_length_eq_zero h0
        have e0 : (loadCells a 0).run Tryd.prog w = .ok #[] w := by simpa using run_loadCells_list (P := Tryd.prog) w a [] (by simp)
        refine ⟨.slice (some ad) 0 0, w, ?_, .inr ⟨rfl, ad, rfl⟩, Below.refl _ _⟩
        simp [e0, Builtin.append_, run_underlying Tryd.underlying30, sizeOf, typeInfo, hi, hs, Builtin.lenOf, Builtin.firstCells, loadCellsFrom, storeCells]
      have hl : (es.flatten.map vb).length = es.length * 32 := by rw [List.length_map, flat_length es h6]
      obtain ⟨v', w', h7, h8, h9⟩ := run_append_arg_grows (P := Tryd.prog) w 30 30 26 i z 32 32 Tryd.underlying30 hi hz hs hby hzs (by omega) ad 0 0 [] (by simp) (fun j v hj => by simp at hj) a es.length cap (es.flatten.map vb) hl h4 (by omega) (by unfold maxLen; omega) (by omega)
      refine ⟨v', w', h7, .inl (OD.mono (b := base) ⟨by simpa using h6, ?_⟩ hb), ?_⟩
      · simpa using h8
      · have hb' : Below w.heap.size w w' := ⟨h9.os, h9.tape, h9.output, h9.size, fun k hk => h9.block k hk (by intro e; cases e)⟩
        exact hb'.mono hb
section
variable {ops : Array Oper} {o : Oper} {a : Act} {w : World} {K : Act → World → Prop} {Q : Exit → Act → World → Prop} {E : Prop}
/-- append of bytes as a step of a region -/
theorem step_ob (hg : o.guard = none) (s x : Operand) (hop : o.op = Op.call { callee := Callee.builtin Builtin.append, args := #[s, x], argTypes := #[22, 22] }) (ht : o.type = 22)
    (base : Nat) (l b : List UInt8) (hs : OB w base (a.eval s) l) (hx : BS w (a.eval x) b) (hn : l.length + b.length ≤ 70368744000000) (hb : base ≤ w.heap.size)
    (hK : ∀ v' W, OB W base v' (l ++ b) → Below base w W → K (a.put o.dst v') W) : if Region.wanted o (yielded ops a.tmps) = true then Oper.wp Tryd.prog o a w K Q else E := by
  obtain ⟨v', w', h1, h2, h3⟩ := append_ob hs hx hn hb
  exact step_append_run hg s x 22 22 hop _ _ v' rfl rfl (by rw [ht]; exact h1) (hK v' w' h2 h3)
/-- append of digests as a step of a region -/
theorem step_oe (hg : o.guard = none) (s x : Operand) (hop : o.op = Op.call { callee := Callee.builtin Builtin.append, args := #[s, x], argTypes := #[30, 30] }) (ht : o.type = 30)
    (base : Nat) (ds es : List (List UInt8)) (hs : OE w base (a.eval s) ds) (hx : DA w (a.eval x) es) (hn : ds.length + es.length ≤ 1000000000) (hb : base ≤ w.heap.size)
    (hK : ∀ v' W, OE W base v' (ds ++ es) → Below base w W → K (a.put o.dst v') W) : if Region.wanted o (yielded ops a.tmps) = true then Oper.wp Tryd.prog o a w K Q else E := by
  obtain ⟨v', w', h1, h2, h3⟩ := append_oe hs hx hn hb
  exact step_append_run hg s x 30 30 hop _ _ v' rfl rfl (by rw [ht]; exact h1) (hK v' w' h2 h3)
end
end Go.Proofs.YtilnecckgjjcgaaDoor.Dg

/- Steps that make or write the cells of a digest, with the world behind each under a name of its own. -/
import Derived.Test.YtilnecckgjjcgaaDoorDT
import Derived.Test.YtilnecckgjjcgaaDoorDEval
import Derived.Test.YtilnecckgjjcgaaDoorDEqs
import Derived.Test.YtilnecckgjjcgaaDoorRE
namespace Go.Proofs.YtilnecckgjjcgaaDoor.Dg
open Go.RowKit Go
set_option linter.unusedVariables false
set_option linter.unusedSimpArgs false
theorem Only.konst {w W : World} {g : Nat} (h : Only g w W) (hk : Konst w) (h0 : 0 < g) : Konst W := hk.grown h.1 h0
theorem Only.below {w W w0 : World} {g B : Nat} (h : Only g w W) (hb : Below B w0 w) (hB : B ≤ w.heap.size) (hg : B ≤ g) : Below B w0 W := hb.grown h.1 hB (fun i e => by cases e; exact hg)
theorem Only.ds {w W : World} {g : Nat} {v : Value} {ds : List (List UInt8)} (h : Only g w W) (hd : DS w v ds) (hv : ∀ gl o cap n, v = .slice (some ⟨gl, o, none⟩) n cap → gl ≠ g) : DS W v ds := by
  obtain ⟨h1, h2 | ⟨gl, o, cap, h3, h4, h5, h6, h7⟩⟩ := hd
  · exact ⟨h1, .inl h2⟩
  · exact ⟨h1, .inr ⟨gl, o, cap, h3, h4, h5, h.cells h6 (hv _ _ _ _ h3), by rw [h.2]; exact h7⟩⟩
section
variable {ops : Array Oper} {rest : List Oper} {o : Oper} {a : Act} {w : World} {Q : Exit → Act → World → Prop}
/-- a new variable for a digest -/
theorem wpl_alloc (d : Option Tmp) (hg : o.guard = none) (ho : o.op = .alloc 26) (hd : o.dst = d)
    (h : ∀ W g, g = w.heap.size → Room W g → Below w.heap.size w W → W.heap.size = w.heap.size + 1 → wpList Tryd.prog ops Q rest (a.put d (.pointer (some ⟨g, 0, none⟩))) W) : wpList Tryd.prog ops Q (o :: rest) a w := by
  subst hd
  refine wpList_plain hg fun K hK => ?_
  have hh := hK _ _ (h (w.alloc (.cells (zerosD.map vb).toArray 26)) _ rfl (Room.mk (cells_alloc _ _ _) (by simp [zerosD]) (free_alloc _ _ _) (by simp)) (below_al _ _) (by simp))
  unfold Oper.wp
  go_simp
  exact hh
/-- a digest is written -/
theorem wpl_put (p x : Operand) (hg : o.guard = none) (ho : o.op = .store 26 p x) (g : Nat) (us : List Value) (l : List UInt8) (hp : a.eval p = .pointer (some ⟨g, 0, none⟩)) (hx : a.eval x = .agg us.toArray) (hr : Room w g) (hd : IsD l us)
    (h : ∀ W, Cells W ⟨g, 0, none⟩ us → Room W g → Only g w W → wpList Tryd.prog ops Q rest (a.put o.dst undef) W) : wpList Tryd.prog ops Q (o :: rest) a w := by
  obtain ⟨h1, h2, _⟩ := hr.put hd
  refine wpList_store_mid hg 26 p x ho g 0 us.toArray hp hx (by rw [List.size_toArray, hd.len']; exact hr.there) (by rw [List.size_toArray]; exact info26 hd.len') hd.one ?_
  exact h _ h1 h2 (only_sets us 0)
end
end Go.Proofs.YtilnecckgjjcgaaDoor.Dg

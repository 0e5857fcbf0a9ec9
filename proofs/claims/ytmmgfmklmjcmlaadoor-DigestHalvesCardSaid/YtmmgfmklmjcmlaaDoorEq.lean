/- Comparison of digests; steps that make or write the cells of a digest, with the world behind each under a name of its own. -/
import Derived.Test.YtmmgfmklmjcmlaaDoorT
import Derived.Test.YtmmgfmklmjcmlaaDoorEval
import Derived.Stop.BytesEq
namespace Go.Proofs.YtmmgfmklmjcmlaaDoor
open Go.RowKit Go
set_option linter.unusedVariables false
set_option linter.unusedSimpArgs false
theorem cell_vb (l : List UInt8) : l.map Extern.Stop.cell = l.map vb := rfl
theorem size5 (w : World) : (sizeOf 5).run Tryd.prog w = .ok 1 w := by
  obtain ⟨i, hi, hf⟩ := Option.map_eq_some_iff.1 Tryd.info5
  simp only [Prod.mk.injEq] at hf
  simp [sizeOf, typeInfo, hi, hf.2.1]
theorem eqD {l1 l2 : List UInt8} {v1 v2 : List Value} (h1 : IsD l1 v1) (h2 : IsD l2 v2) (w : World) : (Op.equalIn 10000 26 (.agg v1.toArray) (.agg v2.toArray)).run Tryd.prog w = .ok (l1 == l2) w := by
  have := run_equalIn_bytes (P := Tryd.prog) w 9998 26 5 32 Tryd.underlying26 Tryd.underlying5 size5 l1 l2 h1.len h2.len
  rw [cell_vb, cell_vb, ← h1.eq, ← h2.eq] at this
  exact this
theorem eqD_true {l1 l2 : List UInt8} {v1 v2 : List Value} (h1 : IsD l1 v1) (h2 : IsD l2 v2) (h : l1 = l2) : ∀ w : World, (Op.equalIn 10000 26 (.agg v1.toArray) (.agg v2.toArray)).run Tryd.prog w = .ok true w := fun w => by
  rw [eqD h1 h2, h, beq_self_eq_true]
/-- only block g has changed, and no block is new -/
def Only (g : Nat) (w W : World) : Prop := w.grownBy W (some g) ∧ W.heap.size = w.heap.size
theorem Only.cells {w W : World} {g : Nat} {a : Addr} {vs : List Value} (h : Only g w W) (hc : Cells w a vs) (ha : a.block ≠ g) : Cells W a vs := hc.grown h.1 ha
theorem Only.room {w W : World} {g k : Nat} (h : Only g w W) (hr : Room w k) (hk : k ≠ g) : Room W k := by
  obtain ⟨⟨zs, h1, h2⟩, h3, h4⟩ := hr
  exact ⟨⟨zs, h.cells h1 hk, h2⟩, h3.grown h.1 hk h4, by rw [h.2]; exact h4⟩
theorem Only.konst {w W : World} {g : Nat} (h : Only g w W) (hk : Konst w) (h0 : 0 < g) : Konst W := hk.grown h.1 h0
theorem Only.below {w W w0 : World} {g B : Nat} (h : Only g w W) (hb : Below B w0 w) (hB : B ≤ w.heap.size) (hg : B ≤ g) : Below B w0 W := hb.grown h.1 hB (fun i e => by cases e; exact hg)
theorem Only.ds {w W : World} {g : Nat} {v : Value} {ds : List (List UInt8)} (h : Only g w W) (hd : DS w v ds) (hv : ∀ gl o cap n, v = .slice (some ⟨gl, o, none⟩) n cap → gl ≠ g) : DS W v ds := by
  obtain ⟨h1, h2 | ⟨gl, o, cap, h3, h4, h5, h6, h7⟩⟩ := hd
  · exact ⟨h1, .inl h2⟩
  · exact ⟨h1, .inr ⟨gl, o, cap, h3, h4, h5, h.cells h6 (hv _ _ _ _ h3), by rw [h.2]; exact h7⟩⟩
theorem only_sets {w : World} {g : Nat} (us : List Value) : ∀ (o : Nat), Only g w (w.setCells g o us) := by
  intro o
  refine ⟨?_, setCells_size g us o w⟩
  induction us generalizing o w with
  | nil => exact ⟨rfl, rfl, rfl, Nat.le_refl _, fun _ _ _ => rfl⟩
  | cons u us ih =>
    rw [World.setCells]
    have h1 : w.grownBy (w.setCell ⟨g, o, none⟩ u) (some g) := grown_set (grown_of_below (Below.refl _ _)) u
    exact grown_tr h1 (ih (w := w.setCell ⟨g, o, none⟩ u) (o + 1))
section
variable {ops : Array Oper} {rest : List Oper} {o : Oper} {a : Act} {w : World} {Q : Exit → Act → World → Prop}
/-- a new variable for a digest -/
theorem wpl_alloc (d : Option Tmp) (hg : o.guard = none) (ho : o.op = .alloc 26) (hd : o.dst = d)
    (h : ∀ W g, g = w.heap.size → Room W g → Below w.heap.size w W → W.heap.size = w.heap.size + 1 → wpList Tryd.prog ops Q rest (a.put d (.pointer (some ⟨g, 0, none⟩))) W) : wpList Tryd.prog ops Q (o :: rest) a w := by
  subst hd
  refine wpList_plain hg fun K hK => ?_
  have hh := hK _ _ (h (w.alloc (.cells (zerosD.map vb).toArray 26)) _ rfl (Room.mk (cells_alloc _ _ _) (by simp [zerosD]) (free_alloc _ _ _) (by simp)) (below_al _ _) (by simp))
  unfold Oper.wp
  go_simp
  exact hh
/-- a digest is written -/
theorem wpl_put (p x : Operand) (hg : o.guard = none) (ho : o.op = .store 26 p x) (g : Nat) (us : List Value) (l : List UInt8) (hp : a.eval p = .pointer (some ⟨g, 0, none⟩)) (hx : a.eval x = .agg us.toArray) (hr : Room w g) (hd : IsD l us)
    (h : ∀ W, Cells W ⟨g, 0, none⟩ us → Room W g → Only g w W → wpList Tryd.prog ops Q rest (a.put o.dst undef) W) : wpList Tryd.prog ops Q (o :: rest) a w := by
  obtain ⟨h1, h2, _⟩ := hr.put hd
  refine wpList_store_mid hg 26 p x ho g 0 us.toArray hp hx (by rw [List.size_toArray, hd.len']; exact hr.there) (by rw [List.size_toArray]; exact info26 hd.len') hd.one ?_
  exact h _ h1 h2 (only_sets us 0)
end
end Go.Proofs.YtmmgfmklmjcmlaaDoor

/- What memory holds: cells from an address on, and how it is kept. -/
import Derived.WalkKit
import Derived.Deep.RegionWith
import Derived.Deep.MidRow
import Derived.Deep.QuietTactic
import Derived.BigQuiet
import Derived.StillTailTactics
namespace Go.Proofs.YtaoehkoffhnidaaDoor.Dg
open Go.RowKit Go
set_option linter.unusedVariables false
set_option linter.unusedSimpArgs false
theorem hid {p : Prop} (h : p) : Hid p := h
def vb (c : UInt8) : Value := .int .u8 (c.toNat : Int)
def v32 (x : BitVec 32) : Value := .int .u32 (x.toNat : Int)
/-- from a on the cells hold vs -/
def Cells (w : World) (a : Addr) (vs : List Value) : Prop := ∀ j v, vs[j]? = some v → w.cell? (a.add j) = some v
theorem add_add (a : Addr) (m n : Nat) : (a.add m).add n = a.add (m + n) := by
  unfold Addr.add
  by_cases hm : m = 0
  · subst hm; simp
  · by_cases hn : n = 0
    · subst hn; simp [hm]
    · have : ¬ (m + n = 0) := by omega
      simp [hm, hn, this]; omega
theorem add_block (a : Addr) (m : Nat) : (a.add m).block = a.block := by unfold Addr.add; split <;> rfl
theorem lit_add (g o j : Nat) : (⟨g, o, none⟩ : Addr).add j = ⟨g, o + j, none⟩ := by
  unfold Addr.add; split
  · rename_i h; subst h; rfl
  · rfl
theorem Cells.up {w w' : World} {B : Nat} {a : Addr} {vs : List Value} (h : Cells w a vs) (hb : Below B w w') (ha : a.block < B) : Cells w' a vs :=
  fun j v hj => (hb.cell (p := a.add j) (by rw [add_block]; exact ha)).trans (h j v hj)
theorem Cells.lt {w : World} {a : Addr} {vs : List Value} (h : Cells w a vs) (hv : vs ≠ []) : a.block < w.heap.size := by
  cases vs with
  | nil => exact absurd rfl hv
  | cons v vs =>
    have := h 0 v rfl
    have h2 := World.block_lt_of_cell? w _ this
    rwa [add_block] at h2
theorem Cells.drop {w : World} {a : Addr} {vs : List Value} (h : Cells w a vs) (n : Nat) : Cells w (a.add n) (vs.drop n) := fun j v hj => by
  rw [add_add]; exact h _ _ (by simpa [List.getElem?_drop] using hj)
theorem Cells.take {w : World} {a : Addr} {vs : List Value} (h : Cells w a vs) (n : Nat) : Cells w a (vs.take n) := fun j v hj => by
  refine h _ _ ?_
  rw [List.getElem?_take] at hj
  split at hj
  · exact hj
  · cases hj
theorem Cells.at {w : World} {g o : Nat} {vs : List Value} (h : Cells w ⟨g, o, none⟩ vs) {j : Nat} {v : Value} (hj : vs[j]? = some v) : w.cell? ⟨g, o + j, none⟩ = some v := by
  have := h j v hj; rwa [lit_add] at this
theorem Cells.at0 {w : World} {g : Nat} {vs : List Value} (h : Cells w ⟨g, 0, none⟩ vs) {j : Nat} {v : Value} (hj : vs[j]? = some v) : w.cell? ⟨g, j, none⟩ = some v := by
  have := h.at hj; simpa using this
theorem Cells.set {w : World} {g : Nat} {vs : List Value} (h : Cells w ⟨g, 0, none⟩ vs) (i : Nat) (v : Value) : Cells (w.setCell ⟨g, i, none⟩ v) ⟨g, 0, none⟩ (vs.set i v) := fun j u hj => by
  rw [lit_add, Nat.zero_add]
  rw [List.getElem?_set] at hj
  by_cases e : i = j
  · subst e
    simp at hj
    obtain ⟨hi, rfl⟩ := hj
    obtain ⟨x, hx⟩ : ∃ x, vs[i]? = some x := ⟨_, List.getElem?_eq_getElem hi⟩
    exact World.cell?_setCell_same (h := h.at0 hx) ..
  · rw [if_neg e] at hj
    rw [World.cell?_setCell_other (h := by intro hh; simp only [Addr.mk.injEq] at hh; exact e hh.2.1)]
    exact h.at0 hj
theorem Cells.far {w : World} {a p : Addr} {vs : List Value} (h : Cells w a vs) (hp : p.block ≠ a.block) (v : Value) : Cells (w.setCell p v) a vs := fun j u hj => by
  rw [World.cell?_setCell_other (h := by intro hh; apply hp; rw [hh, add_block])]
  exact h j u hj
theorem Cells.drew {w : World} {a : Addr} {vs : List Value} (h : Cells w a vs) : Cells w.drew a vs := h
theorem below_tr {w a b : World} (h : Below w.heap.size w a) (k : Below a.heap.size a b) : Below w.heap.size w b := h.trans (k.mono h.size)
theorem below_al (w : World) (o : Obj) : Below w.heap.size w (w.alloc o) := (Below.refl _ _).alloc (Nat.le_refl _) _
theorem cell_up {w w' : World} {b o : Nat} {v : Value} (h : w.cell? ⟨b, o, none⟩ = some v) (hb : Below w.heap.size w w') : w'.cell? ⟨b, o, none⟩ = some v :=
  (hb.cell (p := ⟨b, o, none⟩) (World.block_lt_of_cell? w _ h)).trans h
theorem Cells.ups {w w' : World} {a : Addr} {vs : List Value} (h : Cells w a vs) (hb : Below w.heap.size w w') : Cells w' a vs := by
  by_cases hv : vs = []
  · subst hv; intro j v hj; simp at hj
  · exact h.up hb (h.lt hv)
theorem cells_alloc (w : World) (vs : List Value) (t : TypeId) : Cells (w.alloc (.cells vs.toArray t)) ⟨w.heap.size, 0, none⟩ vs := fun j v hj => by
  rw [lit_add, Nat.zero_add, World.cell?_alloc_new]
  simpa using hj
def Free (w : World) (g : Nat) : Prop := ∀ i, w.frozen? ⟨g, i, none⟩ = false
theorem Free.set {w : World} {g : Nat} (h : Free w g) (a : Addr) (v : Value) : Free (w.setCell a v) g := fun i => by simpa using h i
theorem free_alloc (w : World) (vs : Array Value) (t : TypeId) : Free (w.alloc (.cells vs t)) w.heap.size := fun i => by simp
theorem cells_put {w : World} {g t : Nat} {vs : List Value} {r : Int} {x : BitVec 32} (h : Cells w ⟨g, 0, none⟩ vs) (hr : r = (x.toNat : Int)) : Cells (w.setCell ⟨g, t, none⟩ (.int .u32 r)) ⟨g, 0, none⟩ (vs.set t (v32 x)) := by
  subst hr; exact h.set t _
theorem below_drewN {B : Nat} {a w : World} (h : Below B a w) (n : Nat) : Below B a (w.drewN n) := h.trans ⟨rfl, rfl, rfl, Nat.le_refl _, fun _ _ => rfl⟩
theorem Cells.range {w : World} {g o : Nat} {vs : List Value} (h : Cells w ⟨g, o, none⟩ vs) : w.rangeAt g o vs := fun j v hj => h.at hj
theorem Cells.there {w : World} {g : Nat} {vs : List Value} (h : Cells w ⟨g, 0, none⟩ vs) (hf : Free w g) : w.there g 0 vs.length := fun j hj => ⟨by rw [h.at (List.getElem?_eq_getElem hj)]; rfl, hf _⟩
theorem range_cells {w : World} {g o : Nat} {vs : List Value} (h : w.rangeAt g o vs) : Cells w ⟨g, o, none⟩ vs := fun j v hj => by rw [lit_add]; exact h j v hj
theorem one_v32 (l : List (BitVec 32)) : (l.map v32).toArray.all (·.oneCell') = true := all_oneCell_toArray (fun v hv => by simp at hv; obtain ⟨x, _, rfl⟩ := hv; rfl)
theorem setCells_below {a : World} {B : Nat} (g : Nat) (hg : B ≤ g) : ∀ (vs : List Value) (o : Nat) (w : World), Below B a w → Below B a (w.setCells g o vs)
  | [], o, w, h => h
  | v :: r, o, w, h => by rw [World.setCells]; exact setCells_below g hg r (o + 1) _ (h.setCell hg v)
theorem store_cells {P : Program} {w : World} {g : Nat} {us vs : List Value} (h : Cells w ⟨g, 0, none⟩ vs) (k : Cells w ⟨g, 0, none⟩ us) (hf : Free w g) (h1 : us.toArray.all (·.oneCell') = true) (hl : us.length = vs.length) : (storeCells ⟨g, 0, none⟩ us).run P w = .ok () (w.setCells g 0 us) := by
  have := run_storeCells_cells (P := P) g 0 us 0 w (fun j hj => by simpa using (h.there hf j (by omega)).1) (fun j hj => by simpa using hf j) (fun v hv => (Array.all_eq_true_iff_forall_mem.1 h1) v (by simpa using hv))
  simpa using this
theorem results_cell_mid {P : Program} {fn : Func} {p : Tmp} {ty : TypeId} (h : fn.results = #[.cell p ty]) (tmps : Array Value) (w : World) (g : Nat) (cs : List Value) (d : TypeDesc)
    (hp : tmps.getD p undef = .pointer (some ⟨g, 0, none⟩)) (hc : w.rangeAt g 0 cs) (hu : P.underlying ty = some d) (hd : d.isRow = true) (hi : (P.info? ty).map (·.size) = some cs.length) :
    (results fn tmps).run P w = .ok (.agg cs.toArray) w := by
  have hp' : tmps[p]?.getD undef = .pointer (some ⟨g, 0, none⟩) := by simpa using hp
  simp [results, h, hp', asAddr, run_loadVar_mid w g 0 ty cs d hc hu hd hi]
theorem Cells.grown {w w' : World} {g : Nat} {a : Addr} {vs : List Value} (h : Cells w a vs) (hg : w.grownBy w' (some g)) (ha : a.block ≠ g) : Cells w' a vs := fun j v hj => by
  have h0 := h j v hj
  have hlt := World.block_lt_of_cell? w _ h0
  rw [add_block] at hlt
  rw [World.cell?_of_block (w := w) (by rw [add_block]; exact hg.block a.block hlt (by intro e; cases e; exact ha rfl))]
  exact h0
theorem Free.up {w w' : World} {B g : Nat} (h : Free w g) (hb : Below B w w') (hg : g < B) : Free w' g := fun i => (hb.frozen (p := ⟨g, i, none⟩) hg).trans (h i)
theorem Free.drawn {w : World} {g n : Nat} (h : Free w g) : Free (w.drewN n) g := h
theorem setCells_size (g : Nat) : ∀ (vs : List Value) (o : Nat) (w : World), (w.setCells g o vs).heap.size = w.heap.size
  | [], o, w => rfl
  | v :: r, o, w => by rw [World.setCells, setCells_size g r]; simp
theorem Free.sets {g b : Nat} : ∀ (vs : List Value) (o : Nat) (w : World), Free w g → Free (w.setCells b o vs) g := fun vs o w h i => by rw [World.frozen?_setCells]; exact h i
theorem upon_store_new {P : Program} {o : Oper} {a : Act} {K : Act → World → Prop} {Q : Exit → Act → World → Prop} {f : Unit → World → Result Next} {w1 : World} {zs vs : List Value} {t : TypeId}
    (hl : vs.length = zs.length) (h1 : vs.toArray.all (·.oneCell') = true)
    (h : ∀ W, Cells W ⟨w1.heap.size, 0, none⟩ vs → Free W w1.heap.size → Below w1.heap.size w1 W → W.heap.size = w1.heap.size + 1 → Oper.upon P o a K Q (f () W)) :
    Oper.upon P o a K Q (((storeCells ⟨w1.heap.size, 0, none⟩ vs).run P (w1.alloc (.cells zs.toArray t))).andThen f) := by
  have hc := cells_alloc w1 zs t
  have hf := free_alloc w1 zs.toArray t
  have hth : (w1.alloc (.cells zs.toArray t)).there w1.heap.size 0 vs.length := fun j hj => by
    have := hc.there hf j (by omega); exact this
  have hr := run_storeCells_cells (P := P) w1.heap.size 0 vs 0 (w1.alloc (.cells zs.toArray t)) (fun j hj => by simpa using (hth j hj).1) (fun j hj => by have := (hth j hj).2; rwa [Nat.add_zero]) (fun v hv => (Array.all_eq_true_iff_forall_mem.1 h1) v (by simpa using hv))
  rw [hr]
  refine h _ ?_ ?_ ?_ ?_
  · exact range_cells (World.rangeAt_setCells_same _ _ 0 vs hth)
  · exact hf.sets _ _ _
  · exact setCells_below _ (Nat.le_refl _) _ _ _ (below_al _ _)
  · simp [setCells_size]
end Go.Proofs.YtaoehkoffhnidaaDoor.Dg

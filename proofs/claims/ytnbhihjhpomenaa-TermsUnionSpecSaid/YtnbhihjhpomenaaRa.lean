/- A row of 1024 truth values in memory; steps that lay it, store into it, read it whole. -/
import Derived.Test.YtnbhihjhpomenaaR
import Derived.Deep.MidRow
import Derived.Great.Walk
import Derived.Great.Ranges
import Derived.Laws.Tables
namespace Go.Proofs.Ytnbhihjhpomenaa
open Go.RowKit Go Go.Great
set_option linter.unusedVariables false
set_option linter.unusedSimpArgs false
theorem Cells.at0 {w : World} {g : Nat} {vs : List Value} (h : Cells w ⟨g, 0, none⟩ vs) {j : Nat} {v : Value} (hj : vs[j]? = some v) : w.cell? ⟨g, j, none⟩ = some v := by
  have := h j v hj; rwa [add_plain, Nat.zero_add] at this
theorem Cells.set {w : World} {g : Nat} {vs : List Value} (h : Cells w ⟨g, 0, none⟩ vs) (i : Nat) (v : Value) : Cells (w.setCell ⟨g, i, none⟩ v) ⟨g, 0, none⟩ (vs.set i v) := fun j u hj => by
  rw [add_plain, Nat.zero_add]
  rw [List.getElem?_set] at hj
  by_cases e : i = j
  · subst e
    simp at hj
    obtain ⟨hi, rfl⟩ := hj
    obtain ⟨x, hx⟩ : ∃ x, vs[i]? = some x := ⟨_, List.getElem?_eq_getElem hi⟩
    exact World.cell?_setCell_same (h := h.at0 hx) ..
  · rw [if_neg e] at hj
    rw [World.cell?_setCell_other (h := by intro hh; simp only [Addr.mk.injEq] at hh; exact e hh.2.1)]
    exact h.at0 hj
theorem range_cells {w : World} {g o : Nat} {vs : List Value} (h : w.rangeAt g o vs) : Cells w ⟨g, o, none⟩ vs := fun j v hj => by rw [add_plain]; exact h j v hj
theorem Cells.range {w : World} {g : Nat} {vs : List Value} (h : Cells w ⟨g, 0, none⟩ vs) : w.rangeAt g 0 vs := fun j v hj => by rw [Nat.zero_add]; exact h.at0 hj
def Free (w : World) (g : Nat) : Prop := ∀ i, w.frozen? ⟨g, i, none⟩ = false
theorem Free.set {w : World} {g : Nat} (h : Free w g) (a : Addr) (v : Value) : Free (w.setCell a v) g := fun i => by simpa using h i
theorem free_alloc (w : World) (vs : Array Value) (t : TypeId) : Free (w.alloc (.cells vs t)) w.heap.size := fun i => by simp
theorem Free.up {w w' : World} {B g : Nat} (h : Free w g) (hb : Below B w w') (hg : g < B) : Free w' g := fun i => (hb.frozen (p := ⟨g, i, none⟩) hg).trans (h i)
theorem below_al (w : World) (o : Obj) : Below w.heap.size w (w.alloc o) := (Below.refl _ _).alloc (Nat.le_refl _) _
theorem setCells_below {a : World} {B : Nat} (g : Nat) (hg : B ≤ g) : ∀ (vs : List Value) (o : Nat) (w : World), Below B a w → Below B a (w.setCells g o vs)
  | [], o, w, h => h
  | v :: r, o, w, h => by rw [World.setCells]; exact setCells_below g hg r (o + 1) _ (h.setCell hg v)
theorem setCells_size (g : Nat) : ∀ (vs : List Value) (o : Nat) (w : World), (w.setCells g o vs).heap.size = w.heap.size
  | [], o, w => rfl
  | v :: r, o, w => by rw [World.setCells, setCells_size g r]; simp
theorem Free.sets {g b : Nat} : ∀ (vs : List Value) (o : Nat) (w : World), Free w g → Free (w.setCells b o vs) g := fun vs o w h i => by rw [World.frozen?_setCells]; exact h i
theorem wpl_store_new {ops : Array Oper} {rest : List Oper} {o : Oper} {a : Act} {w1 : World} {Q : Exit → Act → World → Prop} {zs vs : List Value} {t : TypeId} (T : TypeId) (p x : Operand) (hg : o.guard = none) (ho : o.op = .store T p x)
    (hp : a.eval p = .pointer (some ⟨w1.heap.size, 0, none⟩)) (hx : a.eval x = .agg vs.toArray) (hl : vs.length = zs.length) (hi : (Try.prog.info? T).map (·.size) = some vs.length) (h1 : vs.toArray.all (·.oneCell') = true)
    (h : ∀ W, Cells W ⟨w1.heap.size, 0, none⟩ vs → Free W w1.heap.size → Below w1.heap.size w1 W → W.heap.size = w1.heap.size + 1 → wpList Try.prog ops Q rest (a.put o.dst undef) W) :
    wpList Try.prog ops Q (o :: rest) a (w1.alloc (.cells zs.toArray t)) := by
  have hc : Cells (w1.alloc (.cells zs.toArray t)) ⟨w1.heap.size, 0, none⟩ zs := cells_new w1 zs t
  have hf := free_alloc w1 zs.toArray t
  have hth : (w1.alloc (.cells zs.toArray t)).there w1.heap.size 0 vs.length := fun j hj => ⟨by
    rw [Nat.zero_add, hc.at0 (List.getElem?_eq_getElem (by omega))]; rfl, hf _⟩
  refine wpList_store_mid hg T p x ho w1.heap.size 0 vs.toArray hp hx (by rw [List.size_toArray]; exact hth) (by rw [List.size_toArray]; exact hi) h1 ?_
  refine h _ (range_cells (World.rangeAt_setCells_same _ w1.heap.size 0 vs hth)) (hf.sets vs 0 _) (setCells_below w1.heap.size (Nat.le_refl _) vs 0 _ (below_al _ _)) ?_
  show ((w1.alloc _).setCells w1.heap.size 0 vs).heap.size = _
  rw [setCells_size]; simp
/-- the first k truth values of P, and no more -/
@[irreducible] def row (P : Nat → Bool) (k : Nat) : List Value := (List.range 1024).map fun i => .bool (decide (i < k) && P i)
theorem row_len (P : Nat → Bool) (k : Nat) : (row P k).length = 1024 := by unfold row; simp
theorem row_get (P : Nat → Bool) (k j : Nat) (hj : j < 1024) : (row P k)[j]? = some (.bool (decide (j < k) && P j)) := by
  unfold row; rw [List.getElem?_map, List.getElem?_range hj]; rfl
theorem row_set (P : Nat → Bool) (k : Nat) (hk : k < 1024) : (row P k).set k (.bool (P k)) = row P (k + 1) := by
  refine List.ext_getElem? (fun j => ?_)
  rw [List.getElem?_set]
  by_cases hj : j < 1024
  · rw [row_get P (k + 1) j hj, row_len]
    by_cases e : k = j
    · subst e; rw [if_pos rfl, if_pos hk]; simp
    · rw [if_neg e, row_get P k j hj]
      congr 3
      simp; omega
  · rw [List.getElem?_eq_none (l := row P (k + 1)) (by rw [row_len]; omega)]
    by_cases e : k = j
    · omega
    · rw [if_neg e, List.getElem?_eq_none (by rw [row_len]; omega)]
theorem row_one (P : Nat → Bool) (k : Nat) : (row P k).toArray.all (·.oneCell') = true := all_oneCell_toArray (fun v hv => by
  unfold row at hv
  obtain ⟨_, _, rfl⟩ := List.mem_map.1 hv
  rfl)
theorem row_zero (P : Nat → Bool) : row P 0 = List.replicate 1024 (.bool false) := by
  unfold row
  refine List.ext_getElem? (fun j => ?_)
  rw [List.getElem?_map, List.getElem?_replicate]
  by_cases hj : j < 1024
  · rw [List.getElem?_range hj, if_pos hj]; simp
  · rw [if_neg hj, List.getElem?_eq_none (by simp; omega)]; rfl
theorem built47 (P : Nat → Bool) : Try.prog.built 47 [] = some (row P 0).toArray := by
  rw [row_zero]; kernel_rfl
theorem info47 (P : Nat → Bool) (k : Nat) : (Try.prog.info? 47).map (·.size) = some (row P k).length := by rw [row_len]; kernel_rfl
theorem zero47 (P : Nat → Bool) (w : World) : (zeroValue 47).run Try.prog w = .ok (.agg (row P 0).toArray) w := by
  have h : (Try.prog.info? 47).map (·.zero) = some (some (.agg (row P 0).toArray)) := by rw [row_zero]; kernel_rfl
  cases hq : Try.prog.info? 47 with
  | none => rw [hq] at h; cases h
  | some ti =>
    rw [hq] at h
    have hz : ti.zero = some (.agg (row P 0).toArray) := Option.some.inj h
    simp only [zeroValue, typeInfo, Sem.run_bind]
    simp [hq, hz]
theorem wpl_build47 (P : Nat → Bool) {ops : Array Oper} {rest : List Oper} {o : Oper} {a : Act} {w : World} {Q : Exit → Act → World → Prop} (hg : o.guard = none) (ho : o.op = .build 47 #[]) (d : Option Tmp) (hd : o.dst = d)
    (h : wpList Try.prog ops Q rest (a.put d (.agg (row P 0).toArray)) w) : wpList Try.prog ops Q (o :: rest) a w := by
  refine wpList_runTo hg d hd _ w ?_ h
  unfold execOp
  simp only [ho, Sem.run_bind]
  rw [show (Array.map (fun (x : Nat × Operand) => (x.1, a.eval x.2)) #[]) = #[] from by simp]
  rw [run_build w 47 #[] (row P 0).toArray (built47 P)]
  rfl
theorem wpl_alloc47 (P : Nat → Bool) {ops : Array Oper} {rest : List Oper} {o : Oper} {a : Act} {w : World} {Q : Exit → Act → World → Prop} (hg : o.guard = none) (ho : o.op = .alloc 47) (d : Option Tmp) (hd : o.dst = d)
    (h : wpList Try.prog ops Q rest (a.put d (.pointer (some ⟨w.heap.size, 0, none⟩))) (w.alloc (.cells (row P 0).toArray 47))) : wpList Try.prog ops Q (o :: rest) a w := by
  refine wpList_runTo hg d hd _ _ ?_ h
  unfold execOp
  simp only [ho, Sem.run_bind, Instr.alloc, zero47 P, Result.andThen_ok, newVar, newRow, run_newObj_alloc, Sem.run_pure]
  rfl
end Go.Proofs.Ytnbhihjhpomenaa

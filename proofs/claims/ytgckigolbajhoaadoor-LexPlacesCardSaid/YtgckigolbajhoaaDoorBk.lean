/- A block of the call's own. -/
import Derived.Test.YtgckigolbajhoaaDoorC2
import Derived.Sort.Grow
import Derived.RangeFuncBox
namespace Go.Proofs.YtgckigolbajhoaaDoor
open Go.RowKit Go
set_option linter.unusedVariables false
set_option linter.unusedSimpArgs false
def Blk (W : World) (B : Nat) (t : TypeId) (cs : List Value) : Prop := W.heap[B]? = some (.cells cs.toArray t (0, 0))
theorem Blk.lt {W : World} {B : Nat} {t : TypeId} {cs : List Value} (h : Blk W B t cs) : B < W.heap.size := (Array.getElem?_eq_some_iff.1 h).1
theorem Blk.cell {W : World} {B : Nat} {t : TypeId} {cs : List Value} (h : Blk W B t cs) (j : Nat) (v : Value) (hj : cs[j]? = some v) : W.cell? ⟨B, j, none⟩ = some v := by simp [World.cell?, show W.heap[B]? = _ from h, hj]
theorem Blk.frozen {W : World} {B : Nat} {t : TypeId} {cs : List Value} (h : Blk W B t cs) (j : Nat) : W.frozen? ⟨B, j, none⟩ = false := by simp [World.frozen?, show W.heap[B]? = _ from h]
theorem Blk.new (W : World) (t : TypeId) (cs : List Value) : Blk (W.alloc (.cells cs.toArray t)) W.heap.size t cs := World.alloc_heap_new W _
theorem Blk.kept {W W' : World} {row : Option Nat} {B : Nat} {t : TypeId} {cs : List Value} (h : Blk W B t cs) (hg : W.grownBy W' row) (hne : some B ≠ row) : Blk W' B t cs := (hg.block B h.lt hne).trans h
theorem Blk.alloc {W : World} {B : Nat} {t : TypeId} {cs : List Value} (h : Blk W B t cs) (o : Obj) : Blk (W.alloc o) B t cs := h.kept (World.grownBy_alloc W o none) (by simp)
theorem Blk.below {W W' : World} {B n : Nat} {t : TypeId} {cs : List Value} (h : Blk W B t cs) (hb : Below n W W') (hlt : B < n) : Blk W' B t cs := (hb.block B hlt).trans h
theorem Blk.set {W : World} {B : Nat} {t : TypeId} {cs : List Value} (h : Blk W B t cs) (j : Nat) (v : Value) : Blk (W.setCell ⟨B, j, none⟩ v) B t (cs.set j v) := by
  obtain ⟨hlt, hk⟩ := Array.getElem?_eq_some_iff.1 h
  show (W.heap.modify B _)[B]? = _
  rw [Array.getElem?_eq_getElem (by rw [Array.size_modify]; exact hlt), Array.getElem_modify_self, hk]
  simp
theorem grown_set (W : World) (B j : Nat) (u : Value) : W.grownBy (W.setCell ⟨B, j, none⟩ u) (some B) := by
  refine ⟨rfl, rfl, rfl, by rw [World.size_setCell]; exact Nat.le_refl _, fun k _ hk => ?_⟩
  rw [Go.Sort.setCell_eq]
  simp only [Go.Sort.mapBlock]
  rw [Array.getElem?_modify, if_neg (fun e => hk (by rw [e]))]
theorem Blk.other {W : World} {B B' j : Nat} {t : TypeId} {cs : List Value} (h : Blk W B t cs) (hne : B ≠ B') (u : Value) : Blk (W.setCell ⟨B', j, none⟩ u) B t cs := h.kept (grown_set W B' j u) (fun e => hne (by cases e; rfl))
/-- all that lies below base stays, but the block rb -/
structure Kpb (base rb : Nat) (W W' : World) : Prop where
  os : W'.os = W.os
  tape : W'.tape = W.tape
  output : W'.output = W.output
  size : W.heap.size ≤ W'.heap.size
  block : ∀ k, k < base → k ≠ rb → W'.heap[k]? = W.heap[k]?
theorem Kpb.of {base rb : Nat} {W W' : World} (h : Below base W W') : Kpb base rb W W' := ⟨h.os, h.tape, h.output, h.size, fun k hk _ => h.block k hk⟩
theorem Kpb.refl (base rb : Nat) (W : World) : Kpb base rb W W := .of (Below.refl _ _)
theorem Kpb.trans {base rb : Nat} {a b c : World} (h : Kpb base rb a b) (k : Kpb base rb b c) : Kpb base rb a c :=
  ⟨k.os.trans h.os, k.tape.trans h.tape, k.output.trans h.output, Nat.le_trans h.size k.size, fun x hx hn => (k.block x hx hn).trans (h.block x hx hn)⟩
theorem Kpb.set (base rb : Nat) (W : World) (j : Nat) (u : Value) : Kpb base rb W (W.setCell ⟨rb, j, none⟩ u) := by
  have hg := grown_set W rb j u
  exact ⟨rfl, rfl, rfl, by rw [World.size_setCell]; exact Nat.le_refl _, fun k _ hn => Below.heap_setCell W _ u k hn⟩
theorem Kpb.blk {base rb : Nat} {W W' : World} (h : Kpb base rb W W') {B : Nat} {t : TypeId} {cs : List Value} (hb : Blk W B t cs) (hlt : B < base) (hne : B ≠ rb) : Blk W' B t cs := (h.block B hlt hne).trans hb
theorem Kpb.below {base rb n : Nat} {W W' : World} (h : Kpb base rb W W') (h1 : n ≤ rb) (h2 : n ≤ base) : Below n W W' := ⟨h.os, h.tape, h.output, h.size, fun k hk => h.block k (by omega) (by omega)⟩
/-- the reader: its block, its own row of tokens -/
structure Rdr (W : World) (rb base : Nat) (s : ByteArray) (at_ : Nat) (v : Value) (l : List Tk) : Prop where
  blk : Blk W rb 45 [.string s, .int .i64 at_, v]
  own : KO W base v l
  lt : rb < base
  le : base ≤ W.heap.size
theorem Rdr.below {W W' : World} {rb base at_ : Nat} {s : ByteArray} {v : Value} {l : List Tk} (h : Rdr W rb base s at_ v l) (hb : Below W.heap.size W W') : Rdr W' rb base s at_ v l :=
  ⟨h.blk.below hb h.blk.lt, h.own.ups hb, h.lt, Nat.le_trans h.le hb.size⟩
theorem Rdr.ne {W : World} {rb base at_ : Nat} {s : ByteArray} {v : Value} {l : List Tk} (h : Rdr W rb base s at_ v l) (j : Nat) (hj : v.ownBlock = some j) : j ≠ rb := by
  have := (h.own.lt j hj).1; have := h.lt; omega
/-- the place is turned -/
theorem Rdr.at' {W : World} {rb base at_ : Nat} {s : ByteArray} {v : Value} {l : List Tk} (h : Rdr W rb base s at_ v l) (m : Nat) : Rdr (W.setCell ⟨rb, 1, none⟩ (.int .i64 m)) rb base s m v l :=
  ⟨h.blk.set 1 _, h.own.kept (grown_set W rb 1 _) (fun j hj e => h.ne j hj (by cases e; rfl)), h.lt, by rw [World.size_setCell]; exact h.le⟩
/-- the row is turned -/
theorem Rdr.row {W W' : World} {rb base at_ : Nat} {s : ByteArray} {v u : Value} {l m : List Tk} (h : Rdr W rb base s at_ v l) (hb : Below base W W') (ho : KO W' base u m) : Rdr (W'.setCell ⟨rb, 2, none⟩ u) rb base s at_ u m := by
  have h1 : Blk W' rb 45 [.string s, .int .i64 at_, v] := h.blk.below hb h.lt
  refine ⟨h1.set 2 _, ho.kept (grown_set W' rb 2 _) (fun j hj e => ?_), h.lt, by rw [World.size_setCell]; exact Nat.le_trans h.le hb.size⟩
  have := (ho.lt j hj).1; have := h.lt; cases e; omega
end Go.Proofs.YtgckigolbajhoaaDoor

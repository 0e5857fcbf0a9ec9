/- Blocks of several cells; what is kept in rounds; the iterator over the facts of a key as a sequence. -/
import Derived.Test.YtbejjindkcjecaaF
import Derived.RangeFuncBox
namespace Go.Proofs.Ytbejjindkcjecaa
open Go.RowKit Go Go.Shelf
set_option linter.unusedVariables false
set_option linter.unusedSimpArgs false
/-- block B holds just these cells -/
def Blk (W : World) (B : Nat) (t : TypeId) (cs : List Value) : Prop := W.heap[B]? = some (.cells cs.toArray t (0, 0))
theorem Blk.lt {W : World} {B : Nat} {t : TypeId} {cs : List Value} (h : Blk W B t cs) : B < W.heap.size := (Array.getElem?_eq_some_iff.1 h).1
theorem Blk.cell {W : World} {B : Nat} {t : TypeId} {cs : List Value} (h : Blk W B t cs) (j : Nat) (v : Value) (hj : cs[j]? = some v) : W.cell? ⟨B, j, none⟩ = some v := by simp [World.cell?, show W.heap[B]? = _ from h, hj]
theorem Blk.frozen {W : World} {B : Nat} {t : TypeId} {cs : List Value} (h : Blk W B t cs) (j : Nat) : W.frozen? ⟨B, j, none⟩ = false := by simp [World.frozen?, show W.heap[B]? = _ from h]
theorem Blk.new (W : World) (t : TypeId) (cs : List Value) : Blk (W.alloc (.cells cs.toArray t)) W.heap.size t cs := World.alloc_heap_new W _
theorem Blk.kept {W W' : World} {row : Option Nat} {B : Nat} {t : TypeId} {cs : List Value} (h : Blk W B t cs) (hg : W.grownBy W' row) (hne : some B ≠ row) : Blk W' B t cs := (hg.block B h.lt hne).trans h
theorem Blk.alloc {W : World} {B : Nat} {t : TypeId} {cs : List Value} (h : Blk W B t cs) (o : Obj) : Blk (W.alloc o) B t cs := h.kept (World.grownBy_alloc W o none) (by simp)
theorem Blk.below {W W' : World} {B n : Nat} {t : TypeId} {cs : List Value} (h : Blk W B t cs) (hb : Below n W W') (hlt : B < n) : Blk W' B t cs := (hb.block B hlt).trans h
theorem Blk.set {W : World} {B : Nat} {t : TypeId} {cs : List Value} (h : Blk W B t cs) (j : Nat) (v : Value) : Blk (W.setCell ⟨B, j, none⟩ v) B t (cs.set j v) := by
  obtain ⟨hlt, hk⟩ := Array.getElem?_eq_some_iff.1 h
  show (W.heap.modify B _)[B]? = _
  rw [Array.getElem?_eq_getElem (by rw [Array.size_modify]; exact hlt), Array.getElem_modify_self, hk]
  simp
theorem grown_set (W : World) (B j : Nat) (u : Value) : W.grownBy (W.setCell ⟨B, j, none⟩ u) (some B) := by
  refine ⟨rfl, rfl, rfl, by rw [World.size_setCell]; exact Nat.le_refl _, fun k _ hk => ?_⟩
  rw [Go.Sort.setCell_eq]
  simp only [Go.Sort.mapBlock]
  rw [Array.getElem?_modify, if_neg (fun e => hk (by rw [e]))]
theorem Blk.other {W : World} {B B' j : Nat} {t : TypeId} {cs : List Value} (h : Blk W B t cs) (hne : B ≠ B') (u : Value) : Blk (W.setCell ⟨B', j, none⟩ u) B t cs := h.kept (grown_set W B' j u) (fun e => hne (by cases e; rfl))
theorem blk_own {β : Type} (B : Nat) (t : TypeId) (f : β → List Value) : Own (fun s W => Blk W B t (f s)) := fun s X Y row hs hg hrow =>
  Blk.kept hs hg (fun e' => by obtain ⟨o, ho, hc⟩ := hrow B e'.symm; rw [show X.heap[B]? = _ from hs] at ho; cases ho; cases hc)
/-- the iterator of the facts of a key, as a sequence -/
theorem of_stops (n : Nat) (hn : 1 ≤ n) (B1 B2 B3 n0 : Nat) (S : Nat → Prop) (hS : ∀ j, j < n0 → S j) (p : Option Addr) (c m : Nat) (L : List FA) (hL : m = L.length) (hm : m ≤ 9223372036854775807) (k : KE) (q : Int) (w : World) (k1 : B1 < w.heap.size) (k2 : B2 < w.heap.size) (k3 : B3 < w.heap.size)
    (s2 : S B2) (s3 : S B3) (h01 : n0 ≤ w.heap.size) (c1 : w.cell? ⟨B1, 0, none⟩ = some (.slice p m c)) (c2 : Kq B2 B3 k q w) (hR : FR p n0 L w) :
    SeqStopsK Fence.wide n Try.prog 52 #[.pointer (some ⟨B1, 0, none⟩), .pointer (some ⟨B2, 0, none⟩), .pointer (some ⟨B3, 0, none⟩)] (fun x : FA => #[FV x]) (KpN S) (fun zs => zs = sel k q L) (fun pre => pre <+: sel k q L) m w :=
  fun l J Jx W hW hJ _ hY h0 => by
    have e1 := (hW.cell (p := ⟨B1, 0, none⟩) k1).trans c1
    have e2 := (hW.cell (p := ⟨B2, 0, none⟩) k2).trans c2.1
    have e3 := (hW.cell (p := ⟨B2, 1, none⟩) k2).trans c2.2.1
    have e4 := (hW.cell (p := ⟨B2, 2, none⟩) k2).trans c2.2.2.1
    have e5 := (hW.cell (p := ⟨B3, 0, none⟩) k3).trans c2.2.2.2
    refine (of1_in n hn l B1 B2 B3 n0 w.heap.size S hS h01 p c m L hL hm k q k1 k2 k3 s2 s3 J Jx (fun pre W o h => hJ pre W (W.alloc o) none h (World.grownBy_alloc W o none) (fun r e => by cases e))
      (fun pre W h => hJ pre W W.drew none h ⟨rfl, rfl, rfl, Nat.le_refl _, fun _ _ _ => rfl⟩ (fun r e => by cases e)) hY W e1 e2 e3 e4 e5 (hR.up (hW.mono h01)) h0 hW.size).mono ?_
    rintro e W' ⟨h1, h2 | ⟨pre, h2, h3⟩⟩
    · exact ⟨h1, .inl ⟨_, rfl, h2⟩⟩
    · exact ⟨h1, .inr ⟨pre, h2, h3⟩⟩
/-- no fact comes before it -/
def init : FA := ⟨0, 0, 0, -1, 0, 0, -9223372036854775808, -9223372036854775808⟩
/-- one fact more -/
def step (t : Int) (b x : FA) : FA := if has1 x.frm x.to t = true ∧ ord b x ≤ 0 then x else b
def lst (t : Int) (l : List FA) : FA := l.foldl (step t) init
theorem lst_snoc (t : Int) (l : List FA) (x : FA) : lst t (l ++ [x]) = step t (lst t l) x := by unfold lst; rw [List.foldl_append]; rfl
/-- numbers that a machine holds -/
def WF (l : List FA) : Prop := ∀ f ∈ l, I64 f.known ∧ I64 f.no
theorem cmpI_le {a b : Int} : cmpI a b < 0 ↔ a < b := by unfold cmpI; split <;> (try split) <;> omega
theorem ord_lt {a b : FA} : ord a b < 0 ↔ F7.bef a b := by
  unfold ord F7.bef orl orl orl cmpI
  repeat' split
  all_goals omega
theorem ord_le {a b : FA} : ord a b ≤ 0 ↔ ¬ F7.bef b a := by
  unfold ord F7.bef orl orl orl cmpI
  repeat' split
  all_goals omega
/-- the program's fold finds what counts -/
theorem lst_best {k : KE} {t q : Int} {l : List FA} (hw : WF l) : (F7.best k t q l = none ∧ lst t (sel k q l) = init) ∨ F7.best k t q l = some (lst t (sel k q l)) := by
  revert hw
  refine F7.snocRec (P := fun l => WF l → (F7.best k t q l = none ∧ lst t (sel k q l) = init) ∨ F7.best k t q l = some (lst t (sel k q l))) ?_ ?_ l
  · intro _; exact .inl ⟨rfl, rfl⟩
  · intro l f ih hw
    have hwl : WF l := fun g hg => hw g (by simp [hg])
    have hf := hw f (by simp)
    rw [F7.best_snoc, sel_snoc]
    by_cases hk : f.key = k ∧ f.known ≤ q
    · rw [if_pos hk, lst_snoc]
      unfold step
      by_cases hc : f.frm ≤ t ∧ t < f.to
      · rw [if_pos (show F7.hit k t q f from ⟨hk.1, hc.1, hc.2, hk.2⟩)]
        have hh : has1 f.frm f.to t = true := decide_eq_true hc
        rcases ih hwl with ⟨h1, h2⟩ | h1
        · rw [h1, h2, if_pos ⟨hh, by
            rw [ord_le]; unfold F7.bef init I64 at *; simp only; omega⟩]
          exact .inr rfl
        · rw [h1]
          by_cases hb : F7.bef f (lst t (sel k q l))
          · rw [if_neg (fun e => by rw [ord_le] at e; exact e.2 hb)]
            simp only [F7.upd, if_pos hb]; exact .inr trivial
          · rw [if_pos ⟨hh, ord_le.2 hb⟩]
            simp only [F7.upd, if_neg hb]; exact .inr trivial
      · have hh : ¬ has1 f.frm f.to t = true := fun e => hc (of_decide_eq_true e)
        rw [if_neg (fun e => hc ⟨e.2.1, e.2.2.1⟩), if_neg (fun e => hh e.1)]
        exact ih hwl
    · rw [if_neg hk, List.append_nil, if_neg (fun e => hk ⟨e.1, e.2.2.2⟩)]
      exact ih hwl
/-- the value that the program reads off -/
theorem val_lst {k : KE} {t q : Int} {l : List FA} (hw : WF l) : F7.val k t q l = if (lst t (sel k q l)).val ≤ -1 then (0, false) else ((lst t (sel k q l)).val, true) := by
  unfold F7.val
  rcases lst_best (k := k) (t := t) (q := q) hw with ⟨h1, h2⟩ | h1
  · rw [h1, h2]; rfl
  · rw [h1]
    by_cases h : (lst t (sel k q l)).val < 0
    · simp only [if_pos h]; rw [if_pos (by omega)]
    · simp only [if_neg h]; rw [if_neg (by omega)]
end Go.Proofs.Ytbejjindkcjecaa

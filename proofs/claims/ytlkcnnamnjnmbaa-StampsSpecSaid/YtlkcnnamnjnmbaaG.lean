/- What a round of Merge keeps of the iterator's cells; rests of rows. -/
import Derived.Test.YtlkcnnamnjnmbaaF
import Derived.Test.YtlkcnnamnjnmbaaE
import Derived.RangeFuncFrom
import Derived.RangeFuncNested
import Derived.Shelf.RegionOpen
namespace Go.Proofs.Ytlkcnnamnjnmbaa
open Go.RowKit Go Go.Shelf
set_option linter.unusedVariables false
set_option linter.unusedSimpArgs false
theorem cell_block {W : World} {a : Addr} {v : Value} (h : W.cell? a = some v) : a.block < W.heap.size := by
  rcases Nat.lt_or_ge a.block W.heap.size with hh | hh
  · exact hh
  · simp [World.cell?, Array.getElem?_eq_none hh] at h
/-- cell L holds a row of the call's own that lies from N on -/
def Own (L N : Nat) (W : World) (vl : Value) : Prop := W.cell? ⟨L, 0, none⟩ = some vl ∧ ∀ j, vl.ownBlock = some j → N ≤ j ∧ j < W.heap.size
/-- what a round keeps: all cells but L's and those of the row that L holds -/
def Kp (L N : Nat) (W W' : World) : Prop := W.heap.size ≤ W'.heap.size ∧ ∀ vl, Own L N W vl →
  (∃ vl', Own L N W' vl' ∧ ∀ j, vl'.ownBlock = some j → vl.ownBlock = some j ∨ W.heap.size ≤ j) ∧
  ∀ a v, a.block ≠ L → vl.ownBlock ≠ some a.block → W.cell? a = some v → W'.cell? a = some v
theorem Kp.trans {L N : Nat} {A B C : World} (h : Kp L N A B) (k : Kp L N B C) : Kp L N A C := by
  refine ⟨Nat.le_trans h.1 k.1, fun vl ho => ?_⟩
  obtain ⟨⟨v1, o1, s1⟩, c1⟩ := h.2 vl ho
  obtain ⟨⟨v2, o2, s2⟩, c2⟩ := k.2 v1 o1
  refine ⟨⟨v2, o2, fun j hj => ?_⟩, fun a v ha hv hc => ?_⟩
  · rcases s2 j hj with h1 | h1
    · exact s1 j h1
    · exact .inr (Nat.le_trans h.1 h1)
  · refine c2 a v ha (fun e => ?_) (c1 a v ha hv hc)
    rcases s1 _ e with h1 | h1
    · exact hv h1
    · have := cell_block hc; omega
theorem kp_b {L N n : Nat} (W : World) (l : Nat) (o o' : Obj) (_ : n ≤ l) (h : W.heap[l]? = some o) (ho : o.isCells = false) (_ : o.isWalk = false) : Kp L N W (W.putObj l o') := by
  have hs : (W.putObj l o').heap.size = W.heap.size := by simp [World.putObj]
  have keep : ∀ a v, W.cell? a = some v → (W.putObj l o').cell? a = some v := fun a v e => cell_kept e (grownBy_putObj' _ l o') (fun r e => by cases e; exact ⟨_, h, ho⟩)
  refine ⟨by omega, fun vl ho => ⟨⟨vl, ⟨keep _ _ ho.1, fun j hj => by rw [hs]; exact ho.2 j hj⟩, fun j hj => .inl hj⟩, fun a v _ _ hc => keep a v hc⟩⟩
/-- what the iterator knows: old cells, and its own -/
def It (L : Nat) (W0 W : World) : Prop := L < W0.heap.size ∧ W0.heap.size ≤ W.heap.size ∧ (∃ vl, Own L W0.heap.size W vl) ∧ ∀ a v, a.block < W0.heap.size → a.block ≠ L → W0.cell? a = some v → W.cell? a = some v
theorem It.kp {L : Nat} {W0 W W' : World} (h : It L W0 W) (k : Kp L W0.heap.size W W') : It L W0 W' := by
  obtain ⟨h1, h2, ⟨vl, h3⟩, h4⟩ := h
  obtain ⟨⟨v', o', s'⟩, c⟩ := k.2 vl h3
  exact ⟨h1, Nat.le_trans h2 k.1, ⟨v', o'⟩, fun a v ha hl hc => c a v hl (fun e => by have := (h3.2 _ e).1; omega) (h4 a v ha hl hc)⟩
theorem Own.up {L N : Nat} {W W' : World} {vl : Value} (h : Own L N W vl) (hb : Below W.heap.size W W') : Own L N W' vl :=
  ⟨(hb.cell (p := ⟨L, 0, none⟩) (cell_block h.1)).trans h.1, fun j hj => ⟨(h.2 j hj).1, Nat.lt_of_lt_of_le (h.2 j hj).2 hb.size⟩⟩
theorem It.up {L : Nat} {W0 W W' : World} (h : It L W0 W) (hb : Below W.heap.size W W') : It L W0 W' := by
  obtain ⟨h1, h2, ⟨vl, h3⟩, h4⟩ := h
  exact ⟨h1, Nat.le_trans h2 hb.size, ⟨vl, h3.up hb⟩, fun a v ha hl hc => (hb.cell (Nat.lt_of_lt_of_le ha h2)).trans (h4 a v ha hl hc)⟩
/-- boxes made since stay in a round -/
theorem It.box {L : Nat} {W0 W W1 W' : World} (h : It L W0 W) (hb : Below W.heap.size W W1) (k : Kp L W0.heap.size W1 W') {a : Addr} {v : Value} (ha : W.heap.size ≤ a.block) (hc : W1.cell? a = some v) : W'.cell? a = some v := by
  obtain ⟨h1, h2, ⟨vl, h3⟩, h4⟩ := h
  refine (k.2 vl (h3.up hb)).2 a v (by omega) (fun e => ?_) hc
  have := (h3.2 _ e).2; omega
/-- the rows that the iterator reads -/
theorem It.row {L n0 : Nat} {W0 W : World} (h : It L W0 W) {p : Option Addr} {l : List St} (hr : KR p n0 l W0) (hn : n0 ≤ L) : KR p n0 l W := fun i x hi => by
  obtain ⟨b, o, e, hl, h1⟩ := hr i x hi
  have := h.1
  exact ⟨b, o, e, hl, fun c v hc => h.2.2.2 ⟨b, o + i * 3 + c, none⟩ v (by show b < _; omega) (by show b ≠ _; omega) (h1 c v hc)⟩
/-- the rest from i on -/
theorem size33 : ∀ w : World, (sizeOf (Try.prog.elem 33)).run Try.prog w = .ok 3 w := by
  have he : Try.prog.elem 33 = 23 := by kernel_rfl
  rw [he]
  exact size23
theorem und33 : Try.prog.underlying 33 = some (.slice (Try.prog.elem 33)) := by kernel_rfl
theorem slice_rest (p : Option Addr) (i len cap : Nat) (hi : i ≤ len) (hc : len ≤ cap) (hm : cap ≤ 9223372036854775807) :
    ∃ q m k, ∀ W : World, (Instr.slice 33 (.slice p len cap) (some (.int .i64 (i : Int))) none none).run Try.prog W = .ok (.slice q m k) W ∧ ∀ l, l.length = len → KS W (.slice p len cap) l → KS W (.slice q m k) (l.drop i) := by
  refine ⟨if cap = i then p else p.map (·.add (i * 3)), len - i, cap - i, fun W => ⟨?_, ?_⟩⟩
  · rw [run_slice_l W 33 p len cap und33 .i64 (i : Int) (by omega) (by omega)]
    simp [size33, Result.andThen, sliced]
  · intro l hl h
    rcases h with ⟨h1, rfl⟩ | ⟨a, cap', h1, h2, h3, h4, h5⟩
    · simp only [Value.slice.injEq] at h1
      obtain ⟨rfl, rfl, rfl⟩ := h1
      exact .inl ⟨by simp, by simp⟩
    · simp only [Value.slice.injEq] at h1
      obtain ⟨rfl, rfl, rfl⟩ := h1
      by_cases hci : cap = i
      · rw [if_pos hci]
        have hnil : l.drop i = [] := by rw [List.drop_eq_nil_iff]; omega
        refine .inr ⟨a, cap - i, by rw [hnil]; simp; omega, by rw [hnil]; simp, by omega, by rw [hnil]; intro j v hj; simp at hj, h5⟩
      · rw [if_neg hci]
        refine .inr ⟨a.add (i * 3), cap - i, by simp, by simp; omega, by omega, ?_, by rw [add_block]; exact h5⟩
        by_cases hnil : l.drop i = []
        · rw [hnil]; intro j v hj; simp at hj
        · intro j v hj
          have hne : l ≠ [] := fun e => hnil (by rw [e]; simp)
          have ha : a = ⟨a.block, a.off, none⟩ := by
            obtain ⟨x, r, rfl⟩ := List.exists_cons_of_ne_nil hne
            exact Cells.spot (v := .int .i64 x.1) (vs := [.int .i64 x.2.1, .int .i64 x.2.2] ++ r.flatMap kc) h4
          have hfl : (l.drop i).flatMap kc = (l.flatMap kc).drop (i * 3) := by
            have e := congrArg (List.flatMap kc) (List.take_append_drop i l)
            rw [List.flatMap_append] at e
            rw [← e, List.drop_left' (by rw [flat_length kc 3 kc_len, List.length_take]; congr 1; omega)]
          rw [hfl, List.getElem?_drop] at hj
          have := h4 _ _ hj
          rw [ha] at this ⊢
          rw [add_plain] at this
          rw [add_plain, add_plain, Nat.add_assoc]
          exact this
/-- cells made from A to Z stay -/
def Kept (L N : Nat) (A Z W : World) : Prop := L < A.heap.size ∧ Z.heap.size ≤ W.heap.size ∧ (∃ vl, Own L N W vl ∧ ∀ j, vl.ownBlock = some j → j < A.heap.size ∨ Z.heap.size ≤ j) ∧ ∀ a v, A.heap.size ≤ a.block → Z.cell? a = some v → W.cell? a = some v
theorem Kept.start {L : Nat} {W0 A Z : World} (h : It L W0 A) (hb : Below A.heap.size A Z) : Kept L W0.heap.size A Z Z := by
  obtain ⟨h1, h2, ⟨vl, h3⟩, h4⟩ := h
  exact ⟨by omega, Nat.le_refl _, ⟨vl, h3.up hb, fun j hj => .inl (h3.2 j hj).2⟩, fun a v _ hc => hc⟩
theorem Kept.up {L N : Nat} {A Z W W' : World} (h : Kept L N A Z W) (hb : Below W.heap.size W W') : Kept L N A Z W' := by
  obtain ⟨h1, h2, ⟨vl, h3, h3'⟩, h4⟩ := h
  exact ⟨h1, Nat.le_trans h2 hb.size, ⟨vl, h3.up hb, h3'⟩, fun a v ha hc => by
    have := cell_block hc
    exact (hb.cell (by omega)).trans (h4 a v ha hc)⟩
theorem Kept.kp {L N : Nat} {A Z W W' : World} (h : Kept L N A Z W) (k : Kp L N W W') : Kept L N A Z W' := by
  obtain ⟨h1, h2, ⟨vl, h3, h3'⟩, h4⟩ := h
  obtain ⟨⟨v', o', s'⟩, c⟩ := k.2 vl h3
  refine ⟨h1, Nat.le_trans h2 k.1, ⟨v', o', fun j hj => ?_⟩, fun a v ha hc => ?_⟩
  · rcases s' j hj with e | e
    · exact h3' j e
    · exact .inr (Nat.le_trans h2 e)
  · refine c a v (by omega) (fun e => ?_) (h4 a v ha hc)
    have := cell_block hc
    rcases h3' _ e with e | e <;> omega
theorem ko_row {w : World} {base : Nat} {p : Option Addr} {n c : Nat} {l : List St} (h : KO w base (.slice p n c) l) {i : Nat} {x : St} (hi : l[i]? = some x) : ∃ g, p = some ⟨g, 0, none⟩ ∧ base ≤ g ∧ At3 w g (0 + i * 3) x := by
  have hr : KR p w.heap.size l w := (GO.gs h).gr 3 kc_len (by omega)
  obtain ⟨b, o, rfl, hb, h1⟩ := KR.at3 hr hi
  have hlt := h.lt b
  rcases h.2 with ⟨h2, _⟩ | ⟨g, cap, cur, h2, h3, _⟩
  · cases h2
  · simp only [Value.slice.injEq, Option.some.injEq, Addr.mk.injEq] at h2
    obtain ⟨⟨rfl, rfl, _⟩, rfl, rfl⟩ := h2
    exact ⟨b, rfl, h3, h1⟩
end Go.Proofs.Ytlkcnnamnjnmbaa

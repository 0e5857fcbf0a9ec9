/- The reader of the reference: a list whose elements are read. -/
import Derived.Test.YtiklpimnmbjenaaRdG
namespace Go.Proofs.Ytiklpimnmbjenaa
open Go.RowKit Go
set_option linter.unusedVariables false
set_option linter.unusedSimpArgs false
/-- the variable of the list, in block kv -/
def LV (w : World) (kv : Nat) (v : Value) : Prop := w.cell? ⟨kv, 0, none⟩ = some (.int .i64 3) ∧ w.cell? ⟨kv, 1, none⟩ = some (.int .i64 0) ∧ w.cell? ⟨kv, 2, none⟩ = some (.string ⟨#[]⟩) ∧ w.cell? ⟨kv, 3, none⟩ = some v ∧ w.frozen? ⟨kv, 3, none⟩ = false
theorem LV.grown {w w' : World} {kv b : Nat} {v : Value} (h : LV w kv v) (hg : w.grownBy w' (some b)) (hb : kv ≠ b) (hlt : kv < w.heap.size) : LV w' kv v := by
  obtain ⟨h0, h1, h2, h3, h4⟩ := h
  have hc : ∀ j, w'.cell? ⟨kv, j, none⟩ = w.cell? ⟨kv, j, none⟩ := fun j => World.cell?_of_block (a := ⟨kv, j, none⟩) (hg.block kv hlt (by simpa using hb))
  have hf : w'.frozen? ⟨kv, 3, none⟩ = w.frozen? ⟨kv, 3, none⟩ := World.frozen?_of_block (a := ⟨kv, 3, none⟩) (hg.block kv hlt (by simpa using hb))
  exact ⟨(hc 0).trans h0, (hc 1).trans h1, (hc 2).trans h2, (hc 3).trans h3, hf.trans h4⟩
theorem LV.below {w w' : World} {kv : Nat} {v : Value} (h : LV w kv v) (hb : Below (kv + 1) w w') : LV w' kv v := by
  obtain ⟨h0, h1, h2, h3, h4⟩ := h
  have hc : ∀ j, w'.cell? ⟨kv, j, none⟩ = w.cell? ⟨kv, j, none⟩ := fun j => hb.cell (p := ⟨kv, j, none⟩) (by show kv < kv + 1; omega)
  have hf : w'.frozen? ⟨kv, 3, none⟩ = w.frozen? ⟨kv, 3, none⟩ := hb.frozen (p := ⟨kv, 3, none⟩) (by show kv < kv + 1; omega)
  exact ⟨(hc 0).trans h0, (hc 1).trans h1, (hc 2).trans h2, (hc 3).trans h3, hf.trans h4⟩
theorem LV.put {w : World} {kv : Nat} {v : Value} (h : LV w kv v) (v' : Value) : LV (w.setCell ⟨kv, 3, none⟩ v') kv v' := by
  obtain ⟨h0, h1, h2, h3, h4⟩ := h
  refine ⟨?_, ?_, ?_, World.cell?_setCell_same (h := h3) .., by rw [World.frozen?_setCell]; exact h4⟩
  · rw [World.cell?_setCell_other (h := by simp)]; exact h0
  · rw [World.cell?_setCell_other (h := by simp)]; exact h1
  · rw [World.cell?_setCell_other (h := by simp)]; exact h2
/-- what holds at each round's head, while no fault is found -/
structure RW (w wr : World) (d b kv cnt : Nat) (L r : List Int) (v : Value) (i : Nat) (ts : List T) (n : Nat) : Prop where
  more : More (pv d) cnt r (cnt - i) ts (L.drop n)
  len : ts.length = i
  rr : RR wr b L n false
  vs : Vs wr (kv + 1) v ts
  grown : w.grownBy wr (some b)
  zed : Zed wr w.heap.size
  lv : LV wr kv v
  new : w.heap.size < kv
  lt : kv < wr.heap.size
  far : b < w.heap.size
/-- what holds where a fault has been found -/
structure RX (w wr : World) (d b kv cnt : Nat) (L r : List Int) (v : Value) : Prop where
  none : pl (pv d) cnt r = none
  rr : ∃ n, RR wr b L n true
  grown : w.grownBy wr (some b)
  zed : Zed wr w.heap.size
  lv : LV wr kv v
  shp : ∃ p len cap, v = .slice p len cap
theorem zed_below {w w' : World} {k : Nat} (h : Zed w k) (hb : Below (k + 1) w w') : Zed w' k := by
  have hlt : k < w.heap.size := by
    unfold Zed at h
    exact (Array.getElem?_eq_some_iff.1 h).1
  unfold Zed
  rw [hb.block k (by omega)]
  exact h
theorem below_grown {w w1 w2 : World} {k b : Nat} (hg : w.grownBy w1 (some b)) (hb : Below k w1 w2) (hk : w.heap.size ≤ k) : w.grownBy w2 (some b) :=
  ⟨hb.os.trans hg.os, hb.tape.trans hg.tape, hb.output.trans hg.output, Nat.le_trans hg.size hb.size, fun j hj hr => (hb.block j (by omega)).trans (hg.block j hj hr)⟩
theorem RW.start {w w2 W : World} {d b cnt n : Nat} {L r : List Int} (hr : RR w2 b L n false) (hd : L.drop n = r) (hg : w.grownBy w2 (some b)) (hz : Zed w2 w.heap.size) (hb : b < w.heap.size) (hsz : w.heap.size < w2.heap.size)
    (hW : Below w2.heap.size w2 W) (hlt : w2.heap.size < W.heap.size) (hl : LV W w2.heap.size (.slice none 0 0)) : RW w W d b w2.heap.size cnt L r (.slice none 0 0) 0 [] n :=
  ⟨by rw [hd]; exact More.start _ _ _, rfl, hr.kept (hW.mono (by omega)), Vs.nil _ _, below_grown hg hW (by omega), zed_below hz (hW.mono (by omega)), hl, hsz, hlt, hb⟩
/-- a round that has read an element -/
theorem RW.next {w wr w1 w4 : World} {d b kv cnt : Nat} {L r : List Int} {v v' : Value} {i n n1 : Nat} {ts : List T} {t : T} (h : RW w wr d b kv cnt L r v i ts n) (hi : i < cnt) (ht : pv d (L.drop n) = some (t, L.drop n1)) (hg : wr.grownBy w1 (some b)) (hr : RR w1 b L n1 false)
    (hb : Below (kv + 1) w1 w4) (hv : Vs w4 (kv + 1) v' (ts ++ [t])) : RW w (w4.setCell ⟨kv, 3, none⟩ v') d b kv cnt L r v' (i + 1) (ts ++ [t]) n1 := by
  have h1 := h.new; have h2 := h.lt; have h3 := h.far; have h4 := hg.size; have h5 := hb.size
  have e : cnt - i = (cnt - (i + 1)) + 1 := by omega
  have hm := h.more
  rw [e] at hm
  have hsb : ∀ W, Below kv W (W.setCell ⟨kv, 3, none⟩ v') := fun W => (Below.refl kv W).setCell (p := ⟨kv, 3, none⟩) (Nat.le_refl kv) v'
  have hs4 : w4.grownBy (w4.setCell ⟨kv, 3, none⟩ v') (some kv) := grown_setCell _ _ _ _
  refine ⟨hm.step ht, by simp [h.len], (hr.kept (hb.mono (by omega))).kept ((hsb _).mono (by omega)), hv.grown hs4 (by omega), ?_, ?_, ?_, h1, by simp; omega, h3⟩
  · exact below_grown (below_grown (grown_trans h.grown hg) hb (by omega)) (hsb _) (by omega)
  · exact zed_below (zed_below (h.zed.grown hg (by omega)) (hb.mono (by omega))) ((hsb _).mono (by omega))
  · exact ((h.lv.grown hg (by omega) h2).below hb).put v'
/-- a round that has found a fault -/
theorem RW.stop {w wr w1 w4 : World} {d b kv cnt : Nat} {L r : List Int} {v : Value} {i n n1 : Nat} {ts : List T} {p : Option Addr} {len cap : Nat} (h : RW w wr d b kv cnt L r v i ts n) (hi : i < cnt) (ht : pv d (L.drop n) = none) (hg : wr.grownBy w1 (some b)) (hr : RR w1 b L n1 true)
    (hb : Below (kv + 1) w1 w4) : RX w (w4.setCell ⟨kv, 3, none⟩ (.slice p len cap)) d b kv cnt L r (.slice p len cap) := by
  have h1 := h.new; have h2 := h.lt; have h3 := h.far; have h4 := hg.size; have h5 := hb.size
  have e : cnt - i = (cnt - (i + 1)) + 1 := by omega
  have hm := h.more
  rw [e] at hm
  have hsb : ∀ W, Below kv W (W.setCell ⟨kv, 3, none⟩ (.slice p len cap)) := fun W => (Below.refl kv W).setCell (p := ⟨kv, 3, none⟩) (Nat.le_refl kv) _
  refine ⟨hm.none ht, ⟨n1, (hr.kept (hb.mono (by omega))).kept ((hsb _).mono (by omega))⟩, ?_, ?_, ?_, ⟨_, _, _, rfl⟩⟩
  · exact below_grown (below_grown (grown_trans h.grown hg) hb (by omega)) (hsb _) (by omega)
  · exact zed_below (zed_below (h.zed.grown hg (by omega)) (hb.mono (by omega))) ((hsb _).mono (by omega))
  · exact ((h.lv.grown hg (by omega) h2).below hb).put _
/-- what the append does with the element read, whether it counts or not -/
theorem RW.app {w wr w1 : World} {d b kv cnt : Nat} {L r : List Int} {v : Value} {i n : Nat} {ts : List T} {k' n' : Int} {s : ByteArray} {p : Option Addr} {len cap : Nat} (h : RW w wr d b kv cnt L r v i ts n) (hi : i ≤ 100000000) (hg : wr.grownBy w1 (some b)) :
    ∃ g cap2 w', (Builtin.append_ #[22, 22] 22 #[v, .slice (some ⟨w1.heap.size, 0, none⟩) 1 1]).run Try.prog (w1.alloc (.cells #[.int .i64 k', .int .i64 n', .string s, .slice p len cap] 24)) = .ok (.slice (some ⟨g, 0, none⟩) (i + 1) cap2) w' ∧
      (∀ t, AtP w1 (fun k => wr.heap.size ≤ k ∧ k < w1.heap.size) t (.agg #[.int .i64 k', .int .i64 n', .string s, .slice p len cap]) → Vs w' (kv + 1) (.slice (some ⟨g, 0, none⟩) (i + 1) cap2) (ts ++ [t])) ∧ Below (kv + 1) w1 w' := by
  have h1 := h.new; have h2 := h.lt; have h3 := h.far; have h4 := hg.size; have h5 := h.len
  subst h5
  obtain ⟨g, cap2, w', hr, hv, hb⟩ := Vs.push (k' := k') (n' := n') (s := s) (p := p) (len := len) (cap := cap) (h.vs.grown hg (by omega)) hi (by omega)
  refine ⟨g, cap2, w', hr, fun t ha => hv t (AtP.kept (fun k hk => ⟨⟨by omega, hk.2, ?_⟩, rfl⟩) ha), hb⟩
  intro e
  have := (h.vs.lt k e).2
  omega
end Go.Proofs.Ytiklpimnmbjenaa

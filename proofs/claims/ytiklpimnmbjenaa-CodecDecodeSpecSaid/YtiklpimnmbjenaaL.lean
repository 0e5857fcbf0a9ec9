/- Contracts of the functions of package codec and lemmas for them: what each call returns and what becomes of memory, for every input within the bounds that each theorem states. -/
import Derived.Test.YtiklpimnmbjenaaK
import Derived.RegionDies
namespace Go.Proofs.Ytiklpimnmbjenaa
open Go.RowKit Go
set_option linter.unusedVariables false
set_option linter.unusedSimpArgs false

theorem Try.info24 : (Try.prog.info? 24).map (fun i => (i.zero, i.size, i.bytes)) = some (some (.agg #[.int .i64 0, .int .i64 0, .string ⟨#[]⟩, .slice none 0 0]), 4, 56) := by kernel_rfl

theorem grown_undrew {w w1 : World} {r : Option Nat} (h : w.drew.grownBy w1 r) : w.grownBy w1 r := ⟨h.os, h.tape, h.output, h.size, h.block⟩

def OutL (w w' : World) (b owed : Nat) (o : Option (List T × List Int)) (e : Ending) : Prop :=
  w.grownBy w' (some b) ∧ ((∃ ts r v, o = some (ts, r) ∧ e = .returned v ∧ Rdr w' b r owed ∧ AtP w' (fun k => w.heap.size ≤ k ∧ k < w'.heap.size) (T.mk 3 0 ⟨#[]⟩ ts) (.agg #[.int .i64 3, .int .i64 0, .string ⟨#[]⟩, v])) ∨ (e = .panicked Bad ∧ ∀ t r, o = some (t, r) → r.length < 2 * owed))
theorem OutL.bad {w w' : World} {b owed : Nat} {o : Option (List T × List Int)} (hg : w.grownBy w' (some b)) (h : ∀ t r, o = some (t, r) → r.length < 2 * owed) : OutL w w' b owed o (.panicked Bad) := ⟨hg, .inr ⟨rfl, h⟩⟩

theorem rdr_owed {w : World} {b owed : Nat} {l : List Int} (h : Rdr w b l owed) (o : Nat) : Rdr (w.setCell ⟨b, 1, none⟩ (.int .u64 o)) b l o := by
  obtain ⟨h1, h2, p, cap, h3, h4, h5, h6, h7, h8, h9⟩ := h
  refine ⟨h1, by simpa using h2, p, cap, ?_, h4, h5, ?_, ?_, ?_, fun hl => ?_⟩
  · rw [World.cell?_setCell_other _ _ _ _ (by simp)]; exact h3
  · exact World.cell?_setCell_same _ _ _ h6
  · rw [World.frozen?_setCell]; exact h7
  · rw [World.frozen?_setCell]; exact h8
  · obtain ⟨c, o', hp, hc, hby⟩ := h9 hl
    exact ⟨c, o', hp, hc, hby.kept fun o' => World.cell?_setCell_far _ _ _ _ (by show b ≠ c; omega)⟩
theorem rdr_cells {w : World} {b owed : Nat} {l : List Int} (h : Rdr w b l owed) : w.cell? ⟨b, 1, none⟩ = some (.int .u64 owed) ∧ w.frozen? ⟨b, 1, none⟩ = false := by
  obtain ⟨h1, h2, p, cap, h3, h4, h5, h6, h7, h8, h9⟩ := h
  exact ⟨h6, h8⟩

/-- a slice of n values that the call has made -/
def Slab (w : World) (g n : Nat) : Prop := ∃ Y : Array Value, w.heap[g]? = some (.cells Y 24) ∧ Y.size = n * 4
theorem Slab.cells {w : World} {g n i : Nat} (h : Slab w g n) (hi : i < n) : (∃ c0 c1 c2 c3, w.cell? ⟨g, i * 4, none⟩ = some c0 ∧ w.cell? ⟨g, i * 4 + 1, none⟩ = some c1 ∧ w.cell? ⟨g, i * 4 + 2, none⟩ = some c2 ∧ w.cell? ⟨g, i * 4 + 3, none⟩ = some c3) ∧
    w.frozen? ⟨g, i * 4, none⟩ = false ∧ w.frozen? ⟨g, i * 4 + 1, none⟩ = false ∧ w.frozen? ⟨g, i * 4 + 2, none⟩ = false ∧ w.frozen? ⟨g, i * 4 + 3, none⟩ = false := by
  obtain ⟨Y, h, hs⟩ := h
  have hc : ∀ k, k < n * 4 → w.cell? ⟨g, k, none⟩ = some (Y.getD k undef) := by
    intro k hk
    have hlt : k < Y.size := by omega
    have h2 : Y[k]? = some Y[k] := Array.getElem?_eq_getElem hlt
    have h3 : Y.getD k undef = Y[k] := by unfold Array.getD; rw [dif_pos hlt]; rfl
    rw [h3]
    simp [World.cell?, h, h2]
  refine ⟨⟨_, _, _, _, hc _ (by omega), hc _ (by omega), hc _ (by omega), hc _ (by omega)⟩, ?_, ?_, ?_, ?_⟩ <;> simp [World.frozen?, h]
theorem Slab.grown {w w' : World} {g n b : Nat} (h : Slab w g n) (hg : w.grownBy w' (some b)) (hk : g ≠ b) : Slab w' g n := by
  obtain ⟨Y, h, hs⟩ := h
  have hlt : g < w.heap.size := (Array.getElem?_eq_some_iff.1 h).1
  exact ⟨Y, by rw [hg.block g hlt (by simpa using hk)]; exact h, hs⟩
theorem Slab.set {w : World} {g n : Nat} (h : Slab w g n) (k : Nat) (v : Value) : Slab (w.setCell ⟨g, k, none⟩ v) g n := by
  obtain ⟨Y, h, hs⟩ := h
  exact ⟨Y.setIfInBounds k v, by simp [World.setCell, Array.getElem?_modify, h], by simpa using hs⟩

theorem made4 (n : Nat) (h : n ≤ 100000000) : ∃ Z : Array Value, (∀ w : World, (Instr.makeSlice 22 (.int .u64 (n : Int)) (.int .u64 (n : Int))).run Try.prog w = .ok (.slice (some ⟨w.heap.size, 0, none⟩) n n) (w.alloc (.cells Z 24))) ∧ Z.size = n * 4 := by
  obtain ⟨i0, hi, hz0, hz1, hz2⟩ := info_parts Try.info24
  have hr : ∀ w : World, _ := fun w => run_make (P := Try.prog) w 22 24 i0 _ Try.underlying22 hi hz0 .u64 .u64 n n (by omega) (by omega) (by rw [hz2]; omega) (by omega)
  exact ⟨_, fun w => by simpa using hr w, by rw [size_madeCells, hz1]⟩

/-- the values that have been read -/
def Done (w : World) (g : Nat) (ts : List T) : Prop := ∀ j t, ts[j]? = some t → ∃ c0 c1 c2 c3, AtP w (fun k => g < k ∧ k < w.heap.size) t (.agg #[c0, c1, c2, c3]) ∧
  w.cell? ⟨g, j * 4, none⟩ = some c0 ∧ w.cell? ⟨g, j * 4 + 1, none⟩ = some c1 ∧ w.cell? ⟨g, j * 4 + 2, none⟩ = some c2 ∧ w.cell? ⟨g, j * 4 + 3, none⟩ = some c3
theorem Done.grown {w w' : World} {g b : Nat} {ts : List T} (h : Done w g ts) (hg : w.grownBy w' (some b)) (hk : b < g) (hlt : g < w.heap.size) : Done w' g ts := by
  intro j t ht
  obtain ⟨c0, c1, c2, c3, ha, h0, h1, h2, h3⟩ := h j t ht
  have hc : ∀ o, w'.cell? ⟨g, o, none⟩ = w.cell? ⟨g, o, none⟩ := fun o => World.cell?_of_block (a := ⟨g, o, none⟩) (hg.block g hlt (by simp; omega))
  exact ⟨c0, c1, c2, c3, AtP.kept (fun k hk' => ⟨⟨hk'.1, Nat.lt_of_lt_of_le hk'.2 hg.size⟩, hg.block k hk'.2 (by simp; omega)⟩) ha, by rw [hc]; exact h0, by rw [hc]; exact h1, by rw [hc]; exact h2, by rw [hc]; exact h3⟩

abbrev put4at (w : World) (g o : Nat) (c0 c1 c2 c3 : Value) : World :=
  (((w.setCell ⟨g, o, none⟩ c0).setCell ⟨g, o + 1, none⟩ c1).setCell ⟨g, o + 2, none⟩ c2).setCell ⟨g, o + 3, none⟩ c3
theorem put4at_other (w : World) (g o : Nat) (c0 c1 c2 c3 : Value) (a : Addr) (h : a.block ≠ g ∨ a.off < o ∨ o + 3 < a.off) : (put4at w g o c0 c1 c2 c3).cell? a = w.cell? a := by
  have : ∀ k, k ≤ 3 → (⟨g, o + k, none⟩ : Addr) ≠ a := by intro k hk e; subst e; simp at h; omega
  rw [World.cell?_setCell_other _ _ _ _ (this 3 (by omega)), World.cell?_setCell_other _ _ _ _ (this 2 (by omega)), World.cell?_setCell_other _ _ _ _ (this 1 (by omega)), World.cell?_setCell_other _ _ _ _ (by simpa using this 0 (by omega))]
theorem put4at_block (w : World) (g o : Nat) (c0 c1 c2 c3 : Value) (k : Nat) (h : k ≠ g) : (put4at w g o c0 c1 c2 c3).heap[k]? = w.heap[k]? := by
  unfold put4at
  rw [Below.heap_setCell _ _ _ _ h, Below.heap_setCell _ _ _ _ h, Below.heap_setCell _ _ _ _ h, Below.heap_setCell _ _ _ _ h]
theorem put4at_below (w : World) (g o : Nat) (c0 c1 c2 c3 : Value) : Below g w (put4at w g o c0 c1 c2 c3) :=
  ((((Below.refl g w).setCell (p := ⟨g, o, none⟩) (Nat.le_refl g) c0).setCell (p := ⟨g, o + 1, none⟩) (Nat.le_refl g) c1).setCell (p := ⟨g, o + 2, none⟩) (Nat.le_refl g) c2).setCell (p := ⟨g, o + 3, none⟩) (Nat.le_refl g) c3
theorem put4at_size (w : World) (g o : Nat) (c0 c1 c2 c3 : Value) : (put4at w g o c0 c1 c2 c3).heap.size = w.heap.size := by simp
theorem put4at_slab {w : World} {g n : Nat} (h : Slab w g n) (o : Nat) (c0 c1 c2 c3 : Value) : Slab (put4at w g o c0 c1 c2 c3) g n := (((h.set _ _).set _ _).set _ _).set _ _
theorem Done.snoc {w : World} {g n : Nat} {ts : List T} {t : T} {c0 c1 c2 c3 : Value} (h : Done w g ts) (hr : Slab w g n) (hn : ts.length < n) (ha : AtP w (fun k => g < k ∧ k < w.heap.size) t (.agg #[c0, c1, c2, c3])) :
    Done (put4at w g (ts.length * 4) c0 c1 c2 c3) g (ts ++ [t]) := by
  have hk : ∀ {t v}, AtP w (fun k => g < k ∧ k < w.heap.size) t v → AtP (put4at w g (ts.length * 4) c0 c1 c2 c3) (fun k => g < k ∧ k < (put4at w g (ts.length * 4) c0 c1 c2 c3).heap.size) t v :=
    fun ha => AtP.kept (fun k hk => ⟨⟨hk.1, by rw [put4at_size]; exact hk.2⟩, put4at_block _ _ _ _ _ _ _ k (by omega)⟩) ha
  obtain ⟨⟨d0, d1, d2, d3, e0, e1, e2, e3⟩, _⟩ := hr.cells hn
  intro j u hj
  by_cases hlt : j < ts.length
  · rw [List.getElem?_append_left hlt] at hj
    obtain ⟨a0, a1, a2, a3, hu, h0, h1, h2, h3⟩ := h j u hj
    refine ⟨a0, a1, a2, a3, hk hu, ?_, ?_, ?_, ?_⟩
    all_goals rw [put4at_other _ _ _ _ _ _ _ _ (by right; left; simp; omega)]; assumption
  · have hjl : j = ts.length := by
      have := (List.getElem?_eq_some_iff.1 hj).1
      simp at this; omega
    subst hjl
    simp at hj; subst hj
    refine ⟨c0, c1, c2, c3, hk ha, ?_, ?_, ?_, ?_⟩
    · unfold put4at
      rw [World.cell?_setCell_other _ _ _ _ (by simp), World.cell?_setCell_other _ _ _ _ (by simp), World.cell?_setCell_other _ _ _ _ (by simp)]
      exact World.cell?_setCell_same _ _ _ e0
    · unfold put4at
      rw [World.cell?_setCell_other _ _ _ _ (by simp), World.cell?_setCell_other _ _ _ _ (by simp)]
      exact World.cell?_setCell_same _ _ _ (by rw [World.cell?_setCell_other _ _ _ _ (by simp)]; exact e1)
    · unfold put4at
      rw [World.cell?_setCell_other _ _ _ _ (by simp)]
      exact World.cell?_setCell_same _ _ _ (by rw [World.cell?_setCell_other _ _ _ _ (by simp), World.cell?_setCell_other _ _ _ _ (by simp)]; exact e2)
    · unfold put4at
      exact World.cell?_setCell_same _ _ _ (by rw [World.cell?_setCell_other _ _ _ _ (by simp), World.cell?_setCell_other _ _ _ _ (by simp), World.cell?_setCell_other _ _ _ _ (by simp)]; exact e3)

theorem atp_agg {w : World} {P : Nat → Prop} {t : T} {v : Value} (h : AtP w P t v) : ∃ (k n : Int) (s : ByteArray) (p : Option Addr) (len cap : Nat), v = .agg #[.int .i64 k, .int .i64 n, .string s, .slice p len cap] := by
  obtain ⟨k, n, s, l⟩ := t
  rw [AtP] at h
  obtain ⟨_, _, p, cap, h, _⟩ := h
  exact ⟨_, _, _, _, _, _, h⟩

/-- what a list reads, behind its kind -/
def lv (f : List Int → Option (T × List Int)) (l : List Int) : Option (List T × List Int) := (rn 0 0 l).bind fun x => pl f x.1 x.2

set_option maxRecDepth 100000 in
set_option maxHeartbeats 1000000 in
theorem list_none (f : List Int → Option (T × List Int)) (w : World) (b : Nat) (l : List Int) (owed lev : Nat) (hr : Rdr w b l owed) (hl : l.length ≤ 100000000) (hn : rn 0 0 l = none) :
    Calls Try.prog 39 #[.pointer (some ⟨b, 0, none⟩), .int .i64 lev] w fun e w' => OutL w w' b owed (lv f l) e := by
  have hbad : Hid (∀ t r', lv f l = some (t, r') → r'.length < 2 * owed) := by
    intro t r' h; unfold lv at h; rw [hn] at h; cases h
  have HN := hid hn; clear hn
  have HR : Hid (Rdr w.drew b l owed) := hr
  obtain ⟨_, hbl, p, cap, h0, hlc, hm, h1, hf0, hf1, _⟩ := hr
  obtain ⟨len, hlen⟩ : ∃ len, len = l.length := ⟨_, rfl⟩
  rw [← hlen] at h0 hlc hm
  clear hlen
  go_enter Try.func39, Try.ntmps39
  go_wp2_with fail
  go_region_dies
  all_goals (refine (numeral_none b l owed _ HR.out hl HN.out).mono ?_; rintro e w2 ⟨rfl, hg2⟩; exact ⟨rfl, OutL.bad (grown_undrew hg2) hbad.out⟩)

/-- what is still to be read of a list -/
def More (f : List Int → Option (T × List Int)) (n : Nat) (r : List Int) (m : Nat) (ts : List T) (ri : List Int) : Prop :=
  pl f n r = match pl f m ri with | none => none | some (ts2, r2) => some (ts ++ ts2, r2)
theorem More.start (f : List Int → Option (T × List Int)) (n : Nat) (r : List Int) : More f n r n [] r := by
  unfold More; cases pl f n r <;> rfl
theorem More.step {f : List Int → Option (T × List Int)} {n m : Nat} {r ri r1 : List Int} {ts : List T} {t : T} (h : More f n r (m + 1) ts ri) (ht : f ri = some (t, r1)) : More f n r m (ts ++ [t]) r1 := by
  unfold More at h ⊢
  rw [h, pl, ht]
  cases h3 : pl f m r1 with
  | none => simp only [h3]
  | some x => obtain ⟨a, b⟩ := x; simp only [h3]; simp
theorem More.stop {f : List Int → Option (T × List Int)} {n : Nat} {r ri : List Int} {ts : List T} (h : More f n r 0 ts ri) : pl f n r = some (ts, ri) := by
  unfold More at h; rw [h, pl]; simp
theorem More.short {d n m owed : Nat} {r ri : List Int} {ts : List T} (h : More (pv d) n r (m + 1) ts ri) (hs : ∀ t r, pv d ri = some (t, r) → r.length < 2 * (owed + m)) : ∀ t' r', pl (pv d) n r = some (t', r') → r'.length < 2 * owed := by
  intro t' r' hp
  unfold More at h
  rw [h, pl] at hp
  cases h1 : pv d ri with
  | none => rw [h1] at hp; cases hp
  | some x =>
    obtain ⟨t, r1⟩ := x
    have h2 := hs t r1 h1
    rw [h1] at hp
    cases h3 : pl (pv d) m r1 with
    | none => simp only [h3] at hp; cases hp
    | some y =>
      obtain ⟨ts2, r2⟩ := y
      simp only [h3] at hp
      simp at hp
      have := pl_len (pv_len d) _ _ _ _ h3
      rw [← hp.2]; omega

theorem list_end {w wr : World} {g n : Nat} {ts : List T} (hn : n ≤ 100000000) (hg : w.heap.size ≤ g) (hlt : g < wr.heap.size) (hd : Done wr g ts) (hl : ts.length = n) :
    AtP wr (fun k => w.heap.size ≤ k ∧ k < wr.heap.size) (T.mk 3 0 ⟨#[]⟩ ts) (.agg #[.int .i64 3, .int .i64 0, .string ⟨#[]⟩, .slice (some ⟨g, 0, none⟩) n n]) := by
  rw [AtP]
  refine ⟨⟨by unfold wfI; omega, by unfold wfI; omega⟩, Nat.zero_le _, some ⟨g, 0, none⟩, n, by rw [hl], by omega, by omega, g, 0, fun _ => ⟨rfl, hg, hlt⟩, fun i hi => ?_⟩
  obtain ⟨c0, c1, c2, c3, ha, h0, h1, h2, h3⟩ := hd i ts[i] (List.getElem?_eq_getElem hi)
  refine ⟨c0, c1, c2, c3, AtP.kept (fun k hk => ⟨⟨by omega, hk.2⟩, rfl⟩) ha, ?_, ?_, ?_, ?_⟩ <;> simpa using by assumption

/-- what holds at each round's head -/
structure Rounds (w wr : World) (d b g n owed : Nat) (r : List Int) (i : Nat) (ts : List T) (ri : List Int) : Prop where
  more : More (pv d) n r (n - i) ts ri
  len : ts.length = i
  rdr : Rdr wr b ri (owed + (n - i))
  short : ri.length ≤ 100000000
  slab : Slab wr g n
  done : Done wr g ts
  grown : w.grownBy wr (some b)
  new : w.heap.size ≤ g
  lt : g < wr.heap.size
  far : b < g

theorem Rounds.start {w w2 : World} {d b n owed : Nat} {r : List Int} {Z : Array Value} (hr : Rdr w2 b r owed) (hs : r.length ≤ 100000000) (hg : w.grownBy w2 (some b)) (hb : b < w.heap.size) (hZ : Z.size = n * 4) (v : Value) (hv : v = .int .u64 ((owed + n : Nat) : Int)) :
    Rounds w ((w2.setCell ⟨b, 1, none⟩ v).alloc (.cells Z 24)) d b w2.heap.size n owed r 0 [] r := by
  subst hv
  have hsz := hg.size
  have h1 := rdr_owed hr (owed + n)
  refine ⟨More.start _ _ _, rfl, ?_, hs, ?_, by intro j t h; simp at h, ?_, hsz, by simp, by omega⟩
  · exact rdr_kept h1 ((Below.refl _ _).alloc (by simp; omega) _)
  · refine ⟨Z, ?_, hZ⟩
    have := heap_alloc_new (w2.setCell ⟨b, 1, none⟩ (.int .u64 ((owed + n : Nat) : Int))) (.cells Z 24)
    simpa using this
  · exact grown_trans (grown_trans hg (grown_setCell _ _ _ _)) (grown_alloc _ _ _)

theorem Rounds.next {w wr w1 : World} {d b g n owed : Nat} {r r1 : List Int} {i : Nat} {ts : List T} {ri : List Int} (h : Rounds w wr d b g n owed r i ts ri) (hi : i < n) {t : T} (ht : pv d ri = some (t, r1)) (hg : wr.grownBy w1 (some b)) (hr : Rdr w1 b r1 (owed + (n - (i + 1))))
    {c0 c1 c2 c3 : Value} (ha : AtP w1 (fun k => wr.heap.size ≤ k ∧ k < w1.heap.size) t (.agg #[c0, c1, c2, c3])) :
    Rounds w (put4at w1 g (i * 4) c0 c1 c2 c3) d b g n owed r (i + 1) (ts ++ [t]) r1 := by
  have hsz := hg.size
  have hlt := h.lt
  have hfar := h.far
  have e : n - i = (n - (i + 1)) + 1 := by omega
  have hm := h.more
  rw [e] at hm
  have hb := put4at_below w1 g (i * 4) c0 c1 c2 c3
  refine ⟨hm.step ht, by simp [h.len], rdr_kept hr (hb.mono (by omega)), by have := pv_len d _ _ _ ht; have := h.short; omega, put4at_slab (h.slab.grown hg (by omega)) _ _ _ _ _, ?_, ?_, h.new, by rw [put4at_size]; omega, h.far⟩
  · have := Done.snoc (h.done.grown hg h.far h.lt) (h.slab.grown hg (by omega)) (by rw [h.len]; exact hi) (AtP.kept (fun k hk => ⟨⟨by omega, hk.2⟩, rfl⟩) ha)
    rw [h.len] at this
    exact this
  · have hgr := grown_trans h.grown hg
    exact ⟨hb.os.trans hgr.os, hb.tape.trans hgr.tape, hb.output.trans hgr.output, Nat.le_trans hgr.size hb.size, fun k hk hr => (hb.block k (by have := h.new; omega)).trans (hgr.block k hk hr)⟩

set_option maxRecDepth 100000 in
set_option maxHeartbeats 2000000 in
theorem list_some (d : Nat) (hv : SaidValue d) (w : World) (b : Nat) (l : List Int) (owed lev n : Nat) (r : List Int) (hd : lev + d = 16) (hr : Rdr w b l owed) (hl : l.length ≤ 100000000) (ho : owed ≤ 50000000) (hn : rn 0 0 l = some (n, r)) :
    Calls Try.prog 39 #[.pointer (some ⟨b, 0, none⟩), .int .i64 lev] w fun e w' => OutL w w' b owed (lv (pv d) l) e := by
  have hlv : lv (pv d) l = pl (pv d) n r := by unfold lv; rw [hn]; rfl
  rw [hlv]
  clear hlv
  have hrl := rn_len _ _ _ _ _ hn
  have HN := hid hn; clear hn
  have HR : Hid (Rdr w.drew b l owed) := hr
  have HV := hid hv; clear hv
  obtain ⟨_, hbl, p, cap, h0, hlc, hm, h1, hf0, hf1, _⟩ := hr
  obtain ⟨len, hlen⟩ : ∃ len, len = l.length := ⟨_, rfl⟩
  rw [← hlen] at h0 hlc hl hrl
  have HLen := hid hlen; clear hlen
  obtain ⟨rl, hrl'⟩ : ∃ rl, rl = r.length := ⟨_, rfl⟩
  rw [← hrl'] at hrl
  have HRL := hid hrl'; clear hrl'
  have q1 : IntKind.u64.wrap (len : Int) = (len : Int) := IntWalk.u64_in _ (by omega)
  have q2 : IntKind.u64.wrap (rl : Int) = (rl : Int) := IntWalk.u64_in _ (by omega)
  have q3 : (len : Int).tdiv 2 = ((len / 2 : Nat) : Int) := by rw [Int.tdiv_eq_ediv_of_nonneg (by omega)]; omega
  have q4 : (rl : Int).tdiv 2 = ((rl / 2 : Nat) : Int) := by rw [Int.tdiv_eq_ediv_of_nonneg (by omega)]; omega
  have HBad : Hid (rl / 2 < n + owed → ∀ t r', pl (pv d) n r = some (t, r') → r'.length < 2 * owed) := by
    intro hlt t r' h
    have := pl_len (pv_len d) _ _ _ _ h
    have := HRL.out
    omega
  go_enter Try.func39, Try.ntmps39
  go_wp2_with fail
  go_region_with (go_at_call 38; refine (numeral_some b l owed _ n r HR.out (by rw [← HLen.out]; omega) HN.out).mono ?_; rintro e w2 ⟨rfl, hr2, hg2⟩; obtain ⟨_, hbl2, p2, cap2, h02, hlc2, hm2, h12, hf02, hf12, _⟩ := id hr2; rw [← HRL.out] at h02 hlc2; have HR2 := hid hr2; clear hr2)
  all_goals
    by_cases hbig : n ≤ 50000000
    · obtain ⟨Z, hmk, hZ⟩ := made4 n (by omega)
      have HST : Hid (∀ v : Value, v = .int .u64 ((owed + n : Nat) : Int) → Rounds w ((w2.setCell ⟨b, 1, none⟩ v).alloc (.cells Z 24)) d b w2.heap.size n owed r 0 [] r) := fun v hv => Rounds.start HR2.out (by have := HRL.out; omega) (grown_undrew hg2) hbl hZ v hv
      go_wp2
      all_goals first
        | exact ⟨rfl, OutL.bad (grown_undrew hg2) (HBad.out (by omega))⟩
        | skip
      go_loopw [48] (fun iv wr => ∃ (i : Nat) (ts : List T) (ri : List Int), i ≤ n ∧ iv = .int .i64 i ∧ Hid (Rounds w wr d b w2.heap.size n owed r i ts ri)) (fun iv _ => n - (intOf iv).toNat)
      case atStart => exact ⟨0, [], r, by omega, rfl, HST.out _ (by simp)⟩
      case round =>
        obtain ⟨i, ts, ri, hi, rfl, HH⟩ := hrel
        by_cases hlt : i < n
        · obtain ⟨k1, k2⟩ := rdr_cells HH.out.rdr
          obtain ⟨o, ho'⟩ : ∃ o, o = owed + (n - (i + 1)) := ⟨_, rfl⟩
          have ho2 : o ≤ 50000000 := by omega
          rw [show owed + (n - i) = o + 1 from by omega] at k1
          have HO := hid ho'; clear ho'
          have HR1 : Hid (Rdr (wr.setCell ⟨b, 1, none⟩ (.int .u64 o)) b ri o) := rdr_owed HH.out.rdr o
          have hne : b ≠ w2.heap.size := by have := HH.out.far; omega
          go_wp2_with fail
          refine (HV.out _ b ri o lev hd HR1.out HH.out.short ho2).mono ?_
          rintro e w1 ⟨hg1, h⟩
          have hgw : wr.grownBy w1 (some b) := grown_trans (grown_setCell _ _ _ _) hg1
          rcases h with ⟨t, r1, v, hp, rfl, hr1, ha⟩ | ⟨rfl, hs⟩
          · obtain ⟨k', n', s', p', len', cap', rfl⟩ := atp_agg ha
            obtain ⟨⟨d0, d1, d2, d3, e0, e1, e2, e3⟩, f0, f1, f2, f3⟩ := (HH.out.slab.grown hgw (Ne.symm hne)).cells hlt
            have HN1 : Hid (Rounds w (put4at w1 w2.heap.size (i * 4) (.int .i64 k') (.int .i64 n') (.string s') (.slice p' len' cap')) d b w2.heap.size n owed r (i + 1) (ts ++ [t]) r1) :=
              Rounds.next HH.out hlt hp hgw (by rw [← HO.out]; exact hr1) (AtP.kept (fun k hk => ⟨⟨by simpa using hk.1, hk.2⟩, rfl⟩) ha)
            clear hp hr1 ha hgw
            go_wp2
            go_roundw
            case rel => exact ⟨i + 1, ts ++ [t], r1, by omega, by go_num, HN1.out⟩
            case measure => simp [intOf]; omega
          · have HBD : Hid (∀ t' r', pl (pv d) n r = some (t', r') → r'.length < 2 * owed) := by
              have hm := HH.out.more
              rw [show n - i = (n - (i + 1)) + 1 from by omega] at hm
              exact hm.short (by rw [← HO.out]; exact hs)
            go_wp2
            exact ⟨rfl, OutL.bad (grown_trans HH.out.grown hgw) HBD.out⟩
        · obtain rfl : i = n := by omega
          go_wp2
          go_ret
          have h := HH.out
          have hm := h.more
          rw [Nat.sub_self] at hm
          refine ⟨h.grown, .inl ⟨ts, ri, _, hm.stop, rfl, by have := h.rdr; simpa using this, list_end (by omega) h.new h.lt h.done h.len⟩⟩
    · go_wp2
      all_goals exact ⟨rfl, OutL.bad (grown_undrew hg2) (HBad.out (by omega))⟩
end Go.Proofs.Ytiklpimnmbjenaa

/- Rows of numbers in memory; the iterator of pairs. -/
import Derived.Test.YthmakdlmadgpcaaE
import Derived.RangeFuncFrom
namespace Go.Proofs.Ythmakdlmadgpcaa
open Go.RowKit Go Go.Shelf
set_option linter.unusedVariables false
set_option linter.unusedSimpArgs false
attribute [local go_sem] Oper.semAt_some
/-- from a on the cells hold vs -/
def Cells (w : World) (a : Addr) (vs : List Value) : Prop := ∀ j v, vs[j]? = some v → w.cell? (a.add j) = some v
theorem add_block (a : Addr) (m : Nat) : (a.add m).block = a.block := by unfold Addr.add; split <;> rfl
theorem Cells.up {w w' : World} {B : Nat} {a : Addr} {vs : List Value} (h : Cells w a vs) (hb : Below B w w') (ha : a.block < B) : Cells w' a vs :=
  fun j v hj => (hb.cell (p := a.add j) (by rw [add_block]; exact ha)).trans (h j v hj)
/-- a slice value that holds the numbers l -/
def IS (k : IntKind) (w : World) (v : Value) (l : List Int) : Prop := (v = .slice none 0 0 ∧ l = []) ∨ ∃ a cap, v = .slice (some a) l.length cap ∧ l.length ≤ cap ∧ cap ≤ maxLen ∧ Cells w a (l.map (Value.int k)) ∧ a.block < w.heap.size
theorem IS.ups {k : IntKind} {w w' : World} {v : Value} {l : List Int} (h : IS k w v l) (hb : Below w.heap.size w w') : IS k w' v l := by
  rcases h with h | ⟨a, cap, h1, h2, h3, h4, h5⟩
  · exact .inl h
  · exact .inr ⟨a, cap, h1, h2, h3, h4.up hb h5, Nat.lt_of_lt_of_le h5 hb.size⟩
theorem IS.form {k : IntKind} {w : World} {v : Value} {l : List Int} (h : IS k w v l) : ∃ p cap, v = .slice p l.length cap := by
  rcases h with ⟨rfl, rfl⟩ | ⟨a, cap, rfl, _⟩
  · exact ⟨_, _, rfl⟩
  · exact ⟨_, _, rfl⟩
theorem IS.len {k : IntKind} {w : World} {v : Value} {l : List Int} (h : IS k w v l) : l.length ≤ maxLen := by
  rcases h with ⟨rfl, rfl⟩ | ⟨a, cap, rfl, h1, h2, _⟩
  · simp
  · omega
/-- the row's numbers can be read -/
def RD (k : IntKind) (p : Option Addr) (n0 : Nat) (xs : List Int) (W : World) : Prop := ∀ j, j < xs.length → ∃ a, p = some a ∧ a.block < n0 ∧ W.cell? (a.add j) = some (.int k (xs.getD j 0))
theorem IS.rd {k : IntKind} {w : World} {p : Option Addr} {cap : Nat} {l : List Int} (h : IS k w (.slice p l.length cap) l) : RD k p w.heap.size l w := by
  intro j hj
  rcases h with ⟨_, rfl⟩ | ⟨a, cap', h1, _, _, h4, h5⟩
  · simp at hj
  · injection h1 with e1 e2 e3
    refine ⟨a, e1, h5, h4 j _ ?_⟩
    rw [List.getElem?_map, List.getElem?_eq_getElem hj]
    simp [List.getD_eq_getElem?_getD, List.getElem?_eq_getElem hj]
theorem RD.mono {k : IntKind} {p : Option Addr} {n0 n1 : Nat} {xs : List Int} {W : World} (h : RD k p n0 xs W) (hn : n0 ≤ n1) : RD k p n1 xs W := fun j hj => by
  obtain ⟨a, e, hb, hc⟩ := h j hj
  exact ⟨a, e, Nat.lt_of_lt_of_le hb hn, hc⟩
theorem RD.up {k : IntKind} {p : Option Addr} {n0 : Nat} {xs : List Int} {W W' : World} (h : RD k p n0 xs W) (hb : Below n0 W W') : RD k p n0 xs W' := fun j hj => by
  obtain ⟨a, e, hl, hc⟩ := h j hj
  exact ⟨a, e, hl, (hb.cell (p := a.add j) (by rw [add_block]; exact hl)).trans hc⟩
/-- what old cells and the cell of block B hold stays -/
def KpD (n0 B : Nat) (W W' : World) : Prop := (∀ a v, a.block < n0 → W.cell? a = some v → W'.cell? a = some v) ∧ ∀ v, W.cell? ⟨B, 0, none⟩ = some v → W'.cell? ⟨B, 0, none⟩ = some v
theorem kpD_t {n0 n : Nat} {A B C : World} (h : KpD n0 n A B) (k : KpD n0 n B C) : KpD n0 n A C := ⟨fun a v ha e => k.1 a v ha (h.1 a v ha e), fun v e => k.2 v (h.2 v e)⟩
theorem kpD_b {n0 n : Nat} {w : World} (W : World) (l : Nat) (o o' : Obj) (_ : w.heap.size ≤ l) (h : W.heap[l]? = some o) (ho : o.isCells = false) (_ : o.isWalk = false) : KpD n0 n W (W.putObj l o') :=
  ⟨fun a v _ e => cell_kept e (grownBy_putObj' _ l o') (fun r e => by cases e; exact ⟨_, h, ho⟩), fun v e => cell_kept e (grownBy_putObj' _ l o') (fun r e => by cases e; exact ⟨_, h, ho⟩)⟩
theorem RD.kp {k : IntKind} {p : Option Addr} {n0 B : Nat} {xs : List Int} {W W' : World} (h : RD k p n0 xs W) (hk : KpD n0 B W W') : RD k p n0 xs W' := fun j hj => by
  obtain ⟨a, e, hl, hc⟩ := h j hj
  exact ⟨a, e, hl, hk.1 (a.add j) _ (by rw [add_block]; exact hl) hc⟩
theorem range_prefix {n m : Nat} (h : n ≤ m) : List.range n <+: List.range m := by
  refine ⟨(List.range (m - n)).map (n + ·), ?_⟩
  rw [← List.range_add, Nat.add_sub_cancel' h]
set_option maxRecDepth 100000 in
set_option maxHeartbeats 2000000 in
theorem prs_in (n : Nat) (hn : 1 ≤ n) (l B1 B2 n0 : Nat) (p1 p2 : Option Addr) (c1 c2 : Nat) (xs ys : List Int) (hl : xs.length = ys.length) (hm : xs.length ≤ 9223372036854775807) (J Jx : List Nat → World → Prop)
    (hY : ∀ pre x W, J pre W → pre.length < xs.length → YieldAt Fence.wide (n - 1) Try.prog l #[.int .i64 (xs.getD x 0), .int .i64 (ys.getD x 0)] W fun e W' =>
      (e = .returned (.bool true) ∧ J (pre ++ [x]) W' ∧ KpD n0 B2 W W') ∨ (e = .returned (.bool false) ∧ Jx (pre ++ [x]) W'))
    (W : World) (hB1 : W.cell? ⟨B1, 0, none⟩ = some (.slice p1 xs.length c1)) (hB2 : W.cell? ⟨B2, 0, none⟩ = some (.slice p2 ys.length c2)) (h1 : RD .i64 p1 n0 xs W) (h2 : RD .i64 p2 n0 ys W) (h0 : J [] W) :
    CallsIn Fence.wide n Try.prog 40 #[.func (.yield l) #[] #[], .pointer (some ⟨B1, 0, none⟩), .pointer (some ⟨B2, 0, none⟩)] W fun e W' => (∃ v, e = .returned v) ∧
      ((∃ zs, zs = List.range xs.length ∧ J zs W') ∨ (∃ pre, pre <+: List.range xs.length ∧ Jx pre W')) := by
  refine callsIn_of_wp Try.func40 rfl trivial ?_ rfl
  simp only [Try.ntmps40, List.size_toArray, List.length_cons, List.length_nil, Nat.reduceAdd, Nat.reduceSub, Array.replicate_succ, Array.replicate_zero, List.push_toArray, List.append_toArray, List.nil_append, List.cons_append]
  obtain ⟨len, hlen⟩ : ∃ len, len = xs.length := ⟨_, rfl⟩
  have hly : len = ys.length := by omega
  rw [← hlen] at hB1 hm hY ⊢
  rw [← hly] at hB2
  have HL := hid hlen; have HLY := hid hly
  clear hlen hly hl
  gi_wp2
  gi_loopw [8] (fun s wr => ∃ i : Nat, i ≤ len ∧ s = .int .i64 (i : Int) ∧ wr.cell? ⟨B2, 0, none⟩ = some (.slice p2 len c2) ∧ Hid (RD .i64 p1 n0 xs wr) ∧ Hid (RD .i64 p2 n0 ys wr) ∧ J (List.range i) wr) (fun s _ => len - (RowKit.intOf s).toNat)
  case atStart => exact ⟨0, by omega, rfl, hB2, hid h1, hid h2, h0⟩
  case round =>
    obtain ⟨i, hi, rfl, hc2, hr1, hr2, hJ⟩ := hrel
    by_cases hlt : i < len
    · obtain ⟨a1, rfl, hb1, hx⟩ := hr1.out i (by rw [← HL.out]; exact hlt)
      obtain ⟨a2, rfl, hb2, hy⟩ := hr2.out i (by rw [← HLY.out]; exact hlt)
      obtain ⟨x, hxv⟩ : ∃ x, x = xs.getD i 0 := ⟨_, rfl⟩
      obtain ⟨y, hyv⟩ : ∃ y, y = ys.getD i 0 := ⟨_, rfl⟩
      have hYY := hY (List.range i) i wr hJ (by simpa using hlt)
      rw [← hxv] at hx hYY
      rw [← hyv] at hy hYY
      obtain ⟨fn, tmps, assign, body, hy0, hR⟩ := hYY
      have HR := hid hR
      clear hR hxv hyv h0 h1 h2 hB1 hB2 hY
      gi_wp2
      refine HR.out.mono ?_
      have hrg : List.range i ++ [i] = List.range (i + 1) := List.range_succ.symm
      have HRG := hid hrg
      clear hrg
      rintro e W3 (⟨rfl, hJ3, hk3⟩ | ⟨rfl, hJx3⟩)
      · have hc3 := hk3.2 _ hc2
        have r1 := hid (hr1.out.kp hk3)
        have r2 := hid (hr2.out.kp hk3)
        rw [HRG.out] at hJ3
        clear hk3
        gi_wp2
        go_roundw
        case rel => exact ⟨i + 1, by omega, rfl, hc3, r1, r2, hJ3⟩
        case measure => simp [RowKit.intOf]; omega
      · gi_wp2
        refine bodyPost_ret (results_none rfl _ _ _) rfl ?_
        exact ⟨⟨_, rfl⟩, .inr ⟨_, by rw [HRG.out]; exact range_prefix (by omega), hJx3⟩⟩
    · obtain rfl : i = len := by omega
      clear hY h0
      gi_wp2
      go_end0
      exact ⟨⟨_, rfl⟩, .inl ⟨_, rfl, hJ⟩⟩
theorem prs_stops (n : Nat) (hn : 1 ≤ n) (B1 B2 n0 : Nat) (p1 p2 : Option Addr) (c1 c2 : Nat) (xs ys : List Int) (hl : xs.length = ys.length) (hm : xs.length ≤ 9223372036854775807) (w : World) (k1 : B1 < w.heap.size) (k2 : B2 < w.heap.size) (hn0 : n0 ≤ w.heap.size)
    (hB1 : w.cell? ⟨B1, 0, none⟩ = some (.slice p1 xs.length c1)) (hB2 : w.cell? ⟨B2, 0, none⟩ = some (.slice p2 ys.length c2)) (h1 : RD .i64 p1 n0 xs w) (h2 : RD .i64 p2 n0 ys w) :
    SeqStopsK Fence.wide n Try.prog 40 #[.pointer (some ⟨B1, 0, none⟩), .pointer (some ⟨B2, 0, none⟩)] (fun x : Nat => #[Value.int .i64 (xs.getD x 0), Value.int .i64 (ys.getD x 0)]) (KpD n0 B2) (fun zs => zs = List.range xs.length) (fun pre => pre <+: List.range xs.length) xs.length w :=
  fun l J Jx W hW _ _ hY h0 => prs_in n hn l B1 B2 n0 p1 p2 c1 c2 xs ys hl hm J Jx hY W ((hW.cell (p := ⟨B1, 0, none⟩) k1).trans hB1) ((hW.cell (p := ⟨B2, 0, none⟩) k2).trans hB2)
    (fun j hj => by obtain ⟨a, e, hb, hc⟩ := h1 j hj; exact ⟨a, e, hb, (hW.cell (p := a.add j) (by rw [add_block]; omega)).trans hc⟩)
    (fun j hj => by obtain ⟨a, e, hb, hc⟩ := h2 j hj; exact ⟨a, e, hb, (hW.cell (p := a.add j) (by rw [add_block]; omega)).trans hc⟩) h0
theorem pairs_in (n : Nat) (v1 v2 : Value) (w : World) (h1 : ∃ p l c, v1 = .slice p l c) (h2 : ∃ p l c, v2 = .slice p l c) :
    CallsIn Fence.wide n Try.prog 37 #[v1, v2] w fun e w' => e = .returned (.func (.func 40) #[] #[.pointer (some ⟨w.heap.size, 0, none⟩), .pointer (some ⟨w.heap.size + 1, 0, none⟩)]) ∧ w' = (w.alloc (.cells #[v1] 34)).alloc (.cells #[v2] 34) := by
  obtain ⟨p1, l1, c1, rfl⟩ := h1
  obtain ⟨p2, l2, c2, rfl⟩ := h2
  have hmf : ∀ (fn : Fn) (first cap : Array Value) (w : World), (Instr.makeFunc fn first cap).run Try.prog w = .ok (.func fn first cap) w := fun _ _ _ _ => rfl
  refine callsIn_of_wp Try.func37 rfl trivial ?_ rfl
  simp only [Try.ntmps37, List.size_toArray, List.length_cons, List.length_nil, Nat.reduceAdd, Nat.reduceSub, Array.replicate_succ, Array.replicate_zero, List.push_toArray, List.append_toArray, List.nil_append, List.cons_append]
  gi_wp2
  go_ret
  exact ⟨rfl, rfl⟩
end Go.Proofs.Ythmakdlmadgpcaa

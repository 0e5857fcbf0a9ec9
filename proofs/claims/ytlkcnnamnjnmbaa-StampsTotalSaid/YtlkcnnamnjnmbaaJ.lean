/- Contract: either, Merge. -/
import Derived.Test.YtlkcnnamnjnmbaaI
namespace Go.Proofs.Ytlkcnnamnjnmbaa
open Go.RowKit Go Go.Shelf
set_option linter.unusedVariables false
set_option linter.unusedSimpArgs false
attribute [local go_sem] Oper.semAt_some
theorem blk_own {β : Type} (B : Nat) (t : TypeId) (f : β → List Value) : Go.Own (fun s W => Blk W B t (f s)) := fun s X Y row hs hg hrow =>
  Blk.kept hs hg (fun e' => by obtain ⟨o, ho, hc⟩ := hrow B e'.symm; rw [show X.heap[B]? = _ from hs] at ho; cases ho; cases hc)
theorem cell_kept_l {W : World} {a : Addr} {v : Value} {D : Nat} {o : Obj} (h : W.cell? a = some v) (hK : W.heap[D]? = some o) (ho : o.isCells = false) (o' : Obj) : (W.putObj D o').cell? a = some v :=
  cell_kept h (grownBy_putObj' _ D o') (fun r e => by cases e; exact ⟨_, hK, ho⟩)
theorem wpListIn_append_run {F : Fence} {n : Nat} {P : Program} {w w' : World} {ops : Array Oper} {rest : List Oper} {o : Oper} {a : Act} {Q : Exit → Act → World → Prop}
    (hg : o.guard = none) (s x : Operand) (t u : TypeId) (hop : o.op = Op.call { callee := Callee.builtin Builtin.append, args := #[s, x], argTypes := #[t, u] })
    (vs vx r : Value) (hs : a.eval s = vs) (hx : a.eval x = vx) (hrun : (Builtin.append_ #[t, u] o.type #[vs, vx]).run P w = .ok r w') (hK : wpListIn F n P ops Q rest (a.put o.dst r) w') :
    wpListIn F n P ops Q (o :: rest) a w := by
  refine wpListIn_plain hg fun K hK' => ?_
  unfold Oper.wpIn
  refine ⟨?_, ?_⟩
  · simp [Oper.about, hop, resolve, Target.leads, Sem.run_pure]
  · rw [Oper.semAt_plain F _ _ (by rw [hop]; intro c hc'; cases hc')]
    simp [execOp, hop, resolve, invoke, builtin, hs, hx, hrun, Result.andThen]
    exact hK' _ _ hK
theorem row_cells {α : Type} {enc : α → List Value} {e k : Nat} {w : World} {base : Nat} {v : Value} {l : List α} (h : GO e k enc w base v l) {j : Nat} {o : Obj} (hj : v.ownBlock = some j) (ho : w.heap[j]? = some o) : o.isCells = true := by
  rcases h.2 with ⟨rfl, _⟩ | ⟨g, cap, cur, rfl, _, hg, _⟩
  · simp [Value.ownBlock] at hj
  · simp [Value.ownBlock] at hj
    subst hj
    rw [hg] at ho
    cases ho
    rfl
theorem kp_below {L N : Nat} {W W' : World} (hb : Below W.heap.size W W') : Kp L N W W' := by
  refine ⟨hb.size, fun vl ho => ⟨⟨vl, ho.up hb, fun j hj => .inl hj⟩, fun a v _ _ hc => (hb.cell (cell_block hc)).trans hc⟩⟩
theorem eit_stops (n : Nat) (hn : 1 ≤ n) (L B1 B2 : Nat) (va vb : Value) (a b : List St) (w W0 : World) (hla : (a ++ b).length ≤ 10000) (hw : w.heap.size ≤ L) (hL : L < W0.heap.size) (hb0 : Below w.heap.size w W0) (hva : KS w va a) (hvb : KS w vb b)
    (h1 : B1 ≠ L) (h2 : B2 ≠ L) (l1 : B1 < W0.heap.size) (l2 : B2 < W0.heap.size) (hB1 : W0.cell? ⟨B1, 0, none⟩ = some va) (hB2 : W0.cell? ⟨B2, 0, none⟩ = some vb) (hLn : W0.cell? ⟨L, 0, none⟩ = some (.slice none 0 0)) :
    SeqStopsK Fence.wide n Try.prog 33 #[.pointer (some ⟨B1, 0, none⟩), .pointer (some ⟨B2, 0, none⟩)] (fun x : St => #[KV x]) (Kp L W0.heap.size) (fun zs => zs = S8.mrg a b) (fun pre => pre <+: S8.mrg a b) (S8.mrg a b).length W0 :=
  fun l J Jx W hW hJ hJx hY h0 => by
    have hI : It L W0 W := ⟨hL, hW.size, ⟨.slice none 0 0, (hW.cell (p := ⟨L, 0, none⟩) hL).trans hLn, fun j hj => by simp [Value.ownBlock] at hj⟩, fun a v ha _ hc => (hW.cell ha).trans hc⟩
    refine (eit_in n hn l L B1 B2 _ va vb a b w W0 J Jx (fun pre X X' h hb => hJ pre X X' none h (grown_of_below hb) (fun r e => by cases e)) (fun pre x X hX hl => hY pre x X hX hl) rfl hla hw hb0 hva hvb h1 h2 l1 l2 hB1 hB2 W hI h0).mono ?_
    rintro e W' ⟨h3, ⟨zs, h4, h5⟩ | ⟨pre, h4, h5⟩⟩
    · exact ⟨h3, .inl ⟨zs, h4, h5⟩⟩
    · exact ⟨h3, .inr ⟨pre, h4, h5⟩⟩
theorem either_in (n : Nat) (va vb : Value) (w : World) (h1 : ∃ p l c, va = .slice p l c) (h2 : ∃ p l c, vb = .slice p l c) :
    CallsIn Fence.wide n Try.prog 30 #[va, vb] w fun e w' => e = .returned (.func (.func 33) #[] #[.pointer (some ⟨w.heap.size, 0, none⟩), .pointer (some ⟨w.heap.size + 1, 0, none⟩)]) ∧ w' = (w.alloc (.cells #[va] 33)).alloc (.cells #[vb] 33) := by
  obtain ⟨p1, l1, c1, rfl⟩ := h1
  obtain ⟨p2, l2, c2, rfl⟩ := h2
  have hmf : ∀ (fn : Fn) (first cap : Array Value) (w : World), (Instr.makeFunc fn first cap).run Try.prog w = .ok (.func fn first cap) w := fun _ _ _ _ => rfl
  refine callsIn_of_wp Try.func30 rfl trivial ?_ rfl
  simp only [Try.ntmps30, List.size_toArray, List.length_cons, List.length_nil, Nat.reduceAdd, Nat.reduceSub, Array.replicate_succ, Array.replicate_zero, List.push_toArray, List.append_toArray, List.nil_append, List.cons_append]
  gi_wp2
  go_ret
  exact ⟨rfl, rfl⟩
/-- the row that block L holds -/
def RowIn (L : Nat) (W0 : World) (pre : List St) (W : World) : Prop := ∃ v, Blk W L 33 [v] ∧ KO W W0.heap.size v pre ∧ Below L W0 W
theorem rowin_own (L : Nat) (W0 : World) (hL : L < W0.heap.size) : OwnFrom W0.heap.size (RowIn L W0) := by
  rintro s W W' row ⟨v, h1, h2, h3⟩ hg hr
  refine ⟨v, blk_own L 33 (fun (_ : Unit) => [v]) () W W' row h1 hg (fun r e => (hr r e).2), h2.kept hg (fun j hj e => ?_), h3.grown hg (Nat.le_trans (Nat.le_of_lt hL) h3.size) (fun k hk => Nat.le_trans (Nat.le_of_lt hL) (hr k hk).1)⟩
  obtain ⟨_, o, ho, hc⟩ := hr j e
  have := row_cells h2 hj ho
  rw [hc] at this
  cases this
theorem app_at {w : World} {base : Nat} {v : Value} {l : List (St)} (h : KO w base v l) (x : St) (hn : l.length ≤ 1000000) (hb : base ≤ w.heap.size) :
    ∃ g cap w', (Builtin.append_ #[33, 33] 33 #[v, .slice (some ⟨w.heap.size, 0, none⟩) 1 1]).run Try.prog (w.alloc (.cells #[.int .i64 x.1, .int .i64 x.2.1, .int .i64 x.2.2] 23)) = .ok (.slice (some ⟨g, 0, none⟩) (l.length + 1) cap) w' ∧
      KO w' base (.slice (some ⟨g, 0, none⟩) (l.length + 1) cap) (l ++ [x]) ∧ (w.alloc (.cells #[.int .i64 x.1, .int .i64 x.2.1, .int .i64 x.2.2] 23)).grownBy w' v.ownBlock ∧ (v.ownBlock = some g ∨ w.heap.size ≤ g) := by
  obtain ⟨i, hi, hf⟩ := Option.map_eq_some_iff.1 info23
  simp only [Prod.mk.injEq] at hf
  obtain ⟨hz, hs, hbyt⟩ := hf
  obtain ⟨z, hz, hzs⟩ := Option.map_eq_some_iff.1 hz
  obtain ⟨g, cap, w', h6, h7, h8, h9, h10⟩ := run_append_lies (P := Try.prog) (w := w.alloc (.cells (kc x).toArray 23)) 33 33 base 23 i z 3 24 Try.underlying33 hi hz hs hbyt hzs (by omega) v l.length _ (h.alloc _) ⟨w.heap.size, 0, none⟩ 1 1 (kc x) (by rw [kc_len])
    (cells_new w (kc x) 23) (kc_one x) (by omega) (by unfold maxLen; omega) (by omega) (by simp; omega) _ rfl
  refine ⟨g, cap, w', h6, ?_, h8, ?_⟩
  · unfold KO GO
    rw [List.length_append, List.length_singleton, List.flatMap_append, List.flatMap_singleton]
    exact h7
  · rcases h9 with h9 | h9
    · exact .inl h9
    · right; rw [h9]; simp
theorem rowin_next {L : Nat} {W0 W W3 : World} {pre : List St} {x : St} {v : Value} {g cap n : Nat} (cs : Array Value) (hL : L < W0.heap.size) (hv : Blk W L 33 [v]) (ho : KO W W0.heap.size v pre) (hb : Below L W0 W)
    (hg1 : KO W3 W0.heap.size (.slice (some ⟨g, 0, none⟩) n cap) (pre ++ [x])) (hg2 : (W.alloc (.cells cs 23)).grownBy W3 v.ownBlock) (hg3 : v.ownBlock = some g ∨ W.heap.size ≤ g) :
    Blk W3 L 33 [v] ∧ KeepsOthers W (W3.setCell ⟨L, 0, none⟩ (.slice (some ⟨g, 0, none⟩) n cap)) ∧ Kp L W0.heap.size W (W3.setCell ⟨L, 0, none⟩ (.slice (some ⟨g, 0, none⟩) n cap)) ∧
      RowIn L W0 (pre ++ [x]) (W3.setCell ⟨L, 0, none⟩ (.slice (some ⟨g, 0, none⟩) n cap)) := by
  have hne : some L ≠ v.ownBlock := fun e => by have := (ho.lt _ e.symm).1; omega
  have hv3 : Blk W3 L 33 [v] := (hv.alloc _).kept hg2 hne
  have hbW : Below L W W3 := ((Below.refl _ W).alloc (by have := hv.lt; omega) _).grown hg2 (by have := hv.lt; simp; omega) (fun j hj => by have := (ho.lt j hj).1; omega)
  have hset : Below L W (W3.setCell ⟨L, 0, none⟩ (.slice (some ⟨g, 0, none⟩) n cap)) := hbW.setCell (p := ⟨L, 0, none⟩) (Nat.le_refl _) _
  have hsz : W.heap.size ≤ W3.heap.size := hbW.size
  have hgb := hg1.lt g rfl
  have hsv := hv3.set 0 (.slice (some ⟨g, 0, none⟩) n cap)
  have hss : (W3.setCell ⟨L, 0, none⟩ (.slice (some ⟨g, 0, none⟩) n cap)).heap.size = W3.heap.size := World.size_setCell ..
  refine ⟨hv3, ?_, ⟨by rw [hss]; exact hsz, fun vl hvl => ⟨⟨.slice (some ⟨g, 0, none⟩) n cap, ⟨hsv.cell 0 _ rfl, fun j hj => ?_⟩, fun j hj => ?_⟩, fun a u ha hu hc => ?_⟩⟩, _, hsv, ?_, hb.trans hset⟩
  · exact ((KeepsOthers.alloc W _).trans (KeepsOthers.of_grownBy hg2 (fun j o hj ho' => row_cells (ho.alloc _) hj ho'))).trans (KeepsOthers.setCell _ _ _)
  · rw [hss]
    exact hg1.lt j hj
  · have h1 := hvl.1
    rw [hv.cell 0 _ rfl] at h1
    obtain rfl : v = vl := by simpa using h1
    obtain rfl : g = j := by simpa [Value.ownBlock] using hj
    exact hg3
  · have h1 := hvl.1
    rw [hv.cell 0 _ rfl] at h1
    obtain rfl : v = vl := by simpa using h1
    have hlt := cell_block hc
    have h3 : (W.alloc (.cells cs 23)).cell? a = some u := cell_alloc_l _ hc
    have h4 := hg2.block a.block (cell_block h3) (fun e => hu e.symm)
    have h5 : W3.cell? a = some u := by rw [← h3]; simp only [World.cell?]; rw [h4]
    rw [← h5]
    exact World.cell?_setCell_other _ _ _ _ (by rintro rfl; exact ha rfl)
  · exact hg1.kept (grown_set W3 L 0 _) (fun j hj e => by have := (hg1.lt j hj).1; cases e; omega)
end Go.Proofs.Ytlkcnnamnjnmbaa

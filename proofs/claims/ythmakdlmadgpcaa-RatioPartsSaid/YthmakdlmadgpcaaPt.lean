/- The law of means of parts. -/
import Derived.Test.YthmakdlmadgpcaaPp
import Derived.Deep.RegionLaw
import Derived.Deep.RegionHeld3
namespace Go.Proofs.Ythmakdlmadgpcaa
open Go.RowKit Go
set_option linter.unusedVariables false
set_option linter.unusedSimpArgs false
theorem step_append_run {P : Program} {w w' : World} {ops : Array Oper} {o : Oper} {a : Act} {K : Act → World → Prop} {Q : Exit → Act → World → Prop} {E : Prop}
    (hg : o.guard = none) (s x : Operand) (t u : TypeId) (hop : o.op = Op.call { callee := Callee.builtin Builtin.append, args := #[s, x], argTypes := #[t, u] })
    (vs vx r : Value) (hs : a.eval s = vs) (hx : a.eval x = vx) (hrun : (Builtin.append_ #[t, u] o.type #[vs, vx]).run P w = .ok r w') (hK : K (a.put o.dst r) w') :
    if Region.wanted o (yielded ops a.tmps) = true then Oper.wp P o a w K Q else E := by
  have hw : Region.wanted o (yielded ops a.tmps) = true := by simp [Region.wanted, hg]
  rw [if_pos hw]
  unfold Oper.wp
  simp [execOp, hop, resolve, invoke, builtin, hs, hx, hrun, Result.andThen]
  exact hK
/-- a number in a cell of its own is appended -/
theorem app_at {w : World} {base : Nat} {v : Value} {l : List Int} (h : ON w base v l) (g : Nat) (x : Int) (hc : w.cell? ⟨g, 0, none⟩ = some (.int .i64 x)) (hn : l.length ≤ 1000) (hb : base ≤ w.heap.size) :
    ∃ v' w', (Builtin.append_ #[34, 34] 34 #[v, .slice (some ⟨g, 0, none⟩) 1 1]).run Try.prog w = .ok v' w' ∧ ON w' base v' (l ++ [x]) ∧
      w.grownBy w' v.ownBlock ∧ (∀ k, v'.ownBlock = some k → v.ownBlock = some k ∨ w.heap.size ≤ k) := by
  obtain ⟨i, hi, hf⟩ := Option.map_eq_some_iff.1 info3s
  simp only [Prod.mk.injEq] at hf
  obtain ⟨hz, hs, hby⟩ := hf
  obtain ⟨z, hz, hzs⟩ := Option.map_eq_some_iff.1 hz
  obtain ⟨g', cap, w', h6, h7, h8, h9, h10⟩ := run_append_lies (P := Try.prog) (w := w) 34 34 base 3 i z 1 8 Try.underlying34 hi hz hs hby hzs (by omega) v l.length _ h ⟨g, 0, none⟩ 1 1 [.int .i64 x] (by simp)
    (by
      intro j u hj
      cases j with
      | zero =>
        simp at hj
        subst hj
        exact hc
      | succ j => simp at hj) (one_int [x]) (by omega) (by unfold maxLen; omega) (by omega) hb _ rfl
  refine ⟨_, w', h6, ?_, h8, ?_⟩
  · unfold ON
    rw [List.length_append, List.map_append]
    exact h7
  · intro k hk
    simp [Value.ownBlock] at hk
    subst hk
    rcases h9 with h9 | h9
    · exact .inl h9
    · right; rw [h9]; exact Nat.le_refl _
/-- two rows of the call's own -/
structure Two (w : World) (base : Nat) (v1 v2 : Value) (l1 l2 : List Int) : Prop where
  o1 : ON w base v1 l1
  o2 : ON w base v2 l2
  s12 : Sep v1 v2
theorem Two.swap {w : World} {base : Nat} {v1 v2 : Value} {l1 l2 : List Int} (h : Two w base v1 v2 l1 l2) : Two w base v2 v1 l2 l1 := ⟨h.o2, h.o1, h.s12.symm⟩
theorem two_nil (w : World) (base : Nat) : Two w base (.slice none 0 0) (.slice none 0 0) [] [] := ⟨on_nil _ _, on_nil _ _, fun k h => by simp [Value.ownBlock] at h⟩
theorem Two.alloc {w : World} {base : Nat} {v1 v2 : Value} {l1 l2 : List Int} (h : Two w base v1 v2 l1 l2) (o : Obj) : Two (w.alloc o) base v1 v2 l1 l2 := ⟨h.o1.alloc o, h.o2.alloc o, h.s12⟩
theorem ON.drew {w : World} {base : Nat} {v : Value} {l : List Int} (h : ON w base v l) : ON w.drew base v l := by
  have hb : Below w.heap.size w w.drew := (Below.refl _ _).drew
  refine h.kept (r := none) ⟨hb.os, hb.tape, hb.output, hb.size, fun k hk _ => hb.block k hk⟩ ?_
  cases hv : v.ownBlock with
  | none => exact .inl rfl
  | some k => exact .inr (by simp)
theorem Two.drew {w : World} {base : Nat} {v1 v2 : Value} {l1 l2 : List Int} (h : Two w base v1 v2 l1 l2) : Two w.drew base v1 v2 l1 l2 := ⟨h.o1.drew, h.o2.drew, h.s12⟩
theorem Two.app {w : World} {base : Nat} {v1 v2 : Value} {l1 l2 : List Int} (h : Two w base v1 v2 l1 l2) (g : Nat) (x : Int) (hc : w.cell? ⟨g, 0, none⟩ = some (.int .i64 x)) (hn : l1.length ≤ 1000) (hb : base ≤ w.heap.size) :
    ∃ v' w', (Builtin.append_ #[34, 34] 34 #[v1, .slice (some ⟨g, 0, none⟩) 1 1]).run Try.prog w = .ok v' w' ∧ Two w' base v' v2 (l1 ++ [x]) l2 ∧ Below base w w' ∧
      (∀ g2 y, v1.ownBlock ≠ some g2 → w.cell? ⟨g2, 0, none⟩ = some y → w'.cell? ⟨g2, 0, none⟩ = some y) ∧ (∀ k, v'.ownBlock = some k → v1.ownBlock = some k ∨ w.heap.size ≤ k) := by
  obtain ⟨v', w', h1, h2, h3, h4⟩ := app_at h.o1 g x hc hn hb
  refine ⟨v', w', h1, ⟨h2, h.o2.kept h3 ?_, ?_⟩, (Below.refl base _).grown h3 hb (fun k hk => (h.o1.lt k hk).1), ?_, h4⟩
  · cases hu : v2.ownBlock with
    | none => exact .inl rfl
    | some k => exact .inr (fun e => h.s12 k e.symm hu)
  · intro k hk hu
    rcases h4 k hk with h5 | h5
    · exact h.s12 k h5 hu
    · have := (h.o2.lt k hu).2; omega
  · intro g2 y hne hy
    have hlt : g2 < w.heap.size := by
      rcases Nat.lt_or_ge g2 w.heap.size with hh | hh
      · exact hh
      · simp [World.cell?, Array.getElem?_eq_none hh] at hy
    have hbk := h3.block g2 hlt (Ne.symm hne)
    simp only [World.cell?] at hy ⊢
    rw [hbk]; exact hy
/-- two temporaries and two appends, in the three orders -/
structure Fin2 (w w' : World) (base : Nat) (v1 v2 : Value) (l1 l2 : List Int) : Prop where
  two : Two w' base v1 v2 l1 l2
  bel : Below base w w'
theorem ordA {w : World} {base : Nat} {v1 v2 : Value} {l1 l2 : List Int} (h : Two w base v1 v2 l1 l2) (X Y : Int) (n1 : l1.length ≤ 1000) (n2 : l2.length ≤ 1000) (hb : base ≤ w.heap.size) :
    ∃ q1 W1 q2 W2, (Builtin.append_ #[34, 34] 34 #[v1, .slice (some ⟨w.heap.size, 0, none⟩) 1 1]).run Try.prog (w.alloc (.cells #[.int .i64 X] 3)) = .ok q1 W1 ∧
      (Builtin.append_ #[34, 34] 34 #[v2, .slice (some ⟨W1.heap.size, 0, none⟩) 1 1]).run Try.prog (W1.alloc (.cells #[.int .i64 Y] 3)) = .ok q2 W2 ∧ Fin2 w W2 base q1 q2 (l1 ++ [X]) (l2 ++ [Y]) ∧ Below base w W1 := by
  obtain ⟨q1, W1, e1, t1, b1, _⟩ := (h.alloc (.cells #[.int .i64 X] 3)).app w.heap.size X (cell_new_l w (.int .i64 X) 3).1 n1 (by simp; omega)
  have a1 : Below base w (w.alloc (.cells #[.int .i64 X] 3)) := ((Below.refl _ w).alloc (Nat.le_refl _) _).mono hb
  have hb1 : base ≤ W1.heap.size := Nat.le_trans hb (a1.trans b1).size
  obtain ⟨q2, W2, e2, t2, b2, _⟩ := (t1.swap.alloc (.cells #[.int .i64 Y] 3)).app W1.heap.size Y (cell_new_l W1 (.int .i64 Y) 3).1 n2 (by simp; omega)
  have a2 : Below base W1 (W1.alloc (.cells #[.int .i64 Y] 3)) := ((Below.refl _ W1).alloc (Nat.le_refl _) _).mono hb1
  exact ⟨q1, W1, q2, W2, e1, e2, ⟨t2.swap, (a1.trans b1).trans (a2.trans b2)⟩, a1.trans b1⟩
theorem ordBC {w : World} {base : Nat} {v1 v2 : Value} {l1 l2 : List Int} (h : Two w base v1 v2 l1 l2) (X Y U V : Int) (gx gy : Nat) (n1 : l1.length ≤ 1000) (n2 : l2.length ≤ 1000) (hb : base ≤ w.heap.size) (hUV : (gx = w.heap.size ∧ gy = w.heap.size + 1 ∧ U = X ∧ V = Y) ∨ (gy = w.heap.size ∧ gx = w.heap.size + 1 ∧ U = Y ∧ V = X)) :
    ∃ q1 W1 q2 W2, (Builtin.append_ #[34, 34] 34 #[v1, .slice (some ⟨gx, 0, none⟩) 1 1]).run Try.prog ((w.alloc (.cells #[.int .i64 U] 3)).alloc (.cells #[.int .i64 V] 3)) = .ok q1 W1 ∧
      (Builtin.append_ #[34, 34] 34 #[v2, .slice (some ⟨gy, 0, none⟩) 1 1]).run Try.prog W1 = .ok q2 W2 ∧ Fin2 w W2 base q1 q2 (l1 ++ [X]) (l2 ++ [Y]) ∧ Below base w W1 := by
  have c0 := cell_alloc_l (.cells #[.int .i64 V] 3) (cell_new_l w (.int .i64 U) 3).1
  have c1 := (cell_new_l (w.alloc (.cells #[.int .i64 U] 3)) (.int .i64 V) 3).1
  rw [World.size_alloc] at c1
  have a1 : Below base w ((w.alloc (.cells #[.int .i64 U] 3)).alloc (.cells #[.int .i64 V] 3)) := (((Below.refl _ w).alloc (Nat.le_refl _) _).alloc (by simp) _).mono hb
  have cx : ((w.alloc (.cells #[.int .i64 U] 3)).alloc (.cells #[.int .i64 V] 3)).cell? ⟨gx, 0, none⟩ = some (.int .i64 X) := by
    rcases hUV with ⟨rfl, rfl, rfl, rfl⟩ | ⟨rfl, rfl, rfl, rfl⟩
    · exact c0
    · exact c1
  have cy : ((w.alloc (.cells #[.int .i64 U] 3)).alloc (.cells #[.int .i64 V] 3)).cell? ⟨gy, 0, none⟩ = some (.int .i64 Y) := by
    rcases hUV with ⟨rfl, rfl, rfl, rfl⟩ | ⟨rfl, rfl, rfl, rfl⟩
    · exact c1
    · exact c0
  have hge : w.heap.size ≤ gx ∧ w.heap.size ≤ gy := by rcases hUV with ⟨rfl, rfl, _⟩ | ⟨rfl, rfl, _⟩ <;> omega
  obtain ⟨q1, W1, e1, t1, b1, k1, _⟩ := ((h.alloc (.cells #[.int .i64 U] 3)).alloc (.cells #[.int .i64 V] 3)).app gx X cx n1 (by simp; omega)
  have hb1 : base ≤ W1.heap.size := Nat.le_trans hb (a1.trans b1).size
  have cy1 := k1 gy _ (fun e => by have := (h.o1.lt gy e).2; omega) cy
  obtain ⟨q2, W2, e2, t2, b2, _⟩ := t1.swap.app gy Y cy1 n2 hb1
  exact ⟨q1, W1, q2, W2, e1, e2, ⟨t2.swap, (a1.trans b1).trans b2⟩, a1.trans b1⟩
theorem size34 : ∀ w : World, (sizeOf (Try.prog.elem 34)).run Try.prog w = .ok 1 w := by
  have h : (Try.prog.info? 3).map (·.size) = some 1 := by kernel_rfl
  intro w
  cases hq : Try.prog.info? 3 with
  | none => simp [hq] at h
  | some ti =>
    have hs1 : ti.size = 1 := by simpa [hq] using h
    have he : Try.prog.elem 34 = 3 := by kernel_rfl
    rw [he]
    simp [sizeOf, typeInfo, hq, hs1]
theorem cells_shift {w : World} {a : Addr} {l : List Value} (h : Cells w a l) (k : Nat) : Cells w (a.add k) (l.drop k) := fun j v hj => by
  have e : (a.add k).add j = a.add (k + j) := by
    unfold Addr.add
    by_cases hm : k = 0
    · subst hm; simp
    · by_cases hn : j = 0
      · subst hn; simp [hm]
      · have : ¬ (k + j = 0) := by omega
        simp [hm, hn, this]; omega
  rw [e]
  exact h _ _ (by simpa [List.getElem?_drop] using hj)
/-- the first k numbers of a row -/
theorem slice_h {w : World} {v : Value} {l : List Int} (h : IS .i64 w v l) (k : Nat) (hk : k ≤ l.length) :
    ∃ v', (∀ W : World, (Instr.slice 34 v none (some (.int .i64 (k : Int))) none).run Try.prog W = .ok v' W) ∧ IS .i64 w v' (l.take k) := by
  have h34 : Try.prog.underlying 34 = some (.slice (Try.prog.elem 34)) := by kernel_rfl
  rcases h with ⟨rfl, rfl⟩ | ⟨a, cap, rfl, h1, h2, h3, h4⟩
  · have : k = 0 := by simpa using hk
    subst this
    refine ⟨.slice none 0 0, fun W => ?_, .inl ⟨rfl, by simp⟩⟩
    rw [run_slice_h W 34 none 0 0 h34 .i64 ((0 : Nat) : Int) (by omega) (by omega)]
    simp [size34, Result.andThen, sliced]
  · refine ⟨sliced (some a) 0 k cap 1, fun W => ?_, .inr ⟨a, cap, ?_, by simp; omega, h2, ?_, h4⟩⟩
    · rw [run_slice_h W 34 (some a) l.length cap h34 .i64 (k : Int) (by omega) (by omega)]
      simp [size34, Result.andThen]
    · have ha : a.add 0 = a := by unfold Addr.add; simp
      have hl : (l.take k).length = k := by simp; omega
      rw [hl]
      simp [sliced, ha]
    · rw [List.map_take]
      intro j u hj
      rw [List.getElem?_take] at hj
      split at hj
      · exact h3 j u hj
      · cases hj
/-- the numbers of a row from the k-th on -/
theorem slice_l {w : World} {v : Value} {l : List Int} (h : IS .i64 w v l) (k : Nat) (hk : k ≤ l.length) :
    ∃ v', (∀ W : World, (Instr.slice 34 v (some (.int .i64 (k : Int))) none none).run Try.prog W = .ok v' W) ∧ IS .i64 w v' (l.drop k) := by
  have h34 : Try.prog.underlying 34 = some (.slice (Try.prog.elem 34)) := by kernel_rfl
  rcases h with ⟨rfl, rfl⟩ | ⟨a, cap, rfl, h1, h2, h3, h4⟩
  · have : k = 0 := by simpa using hk
    subst this
    refine ⟨.slice none 0 0, fun W => ?_, .inl ⟨rfl, by simp⟩⟩
    rw [run_slice_l W 34 none 0 0 h34 .i64 ((0 : Nat) : Int) (by omega) (by omega)]
    simp [size34, Result.andThen, sliced]
  · refine ⟨sliced (some a) k l.length cap 1, fun W => ?_, .inr ⟨if cap = k then a else a.add k, cap - k, ?_, by simp; omega, by omega, ?_, ?_⟩⟩
    · rw [run_slice_l W 34 (some a) l.length cap h34 .i64 (k : Int) (by omega) (by omega)]
      simp [size34, Result.andThen]
    · rw [List.length_drop]
      unfold sliced
      split <;> simp
    · split
      · rename_i hck
        have : l.drop k = [] := by apply List.drop_eq_nil_of_le; omega
        rw [this]
        intro j u hj
        simp at hj
      · rw [List.map_drop]
        exact cells_shift h3 k
    · split
      · exact h4
      · rw [add_block]; exact h4
end Go.Proofs.Ythmakdlmadgpcaa

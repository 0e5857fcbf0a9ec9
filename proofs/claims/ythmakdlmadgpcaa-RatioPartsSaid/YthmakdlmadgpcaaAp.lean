/- Rows of numbers of the call's own that append makes longer; what means of bounded numbers are. -/
import Derived.Test.YthmakdlmadgpcaaQ
import Derived.Laws.AppendOwn
import Derived.Deep.AppendLies
namespace Go.Proofs.Ythmakdlmadgpcaa
open Go.RowKit Go
set_option linter.unusedVariables false
set_option linter.unusedSimpArgs false
theorem wpList_append_run {P : Program} {w w' : World} {ops : Array Oper} {rest : List Oper} {o : Oper} {a : Act} {Q : Exit → Act → World → Prop}
    (hg : o.guard = none) (s x : Operand) (t u : TypeId) (hop : o.op = Op.call { callee := Callee.builtin Builtin.append, args := #[s, x], argTypes := #[t, u] })
    (vs vx r : Value) (hs : a.eval s = vs) (hx : a.eval x = vx) (hrun : (Builtin.append_ #[t, u] o.type #[vs, vx]).run P w = .ok r w') (hK : wpList P ops Q rest (a.put o.dst r) w') :
    wpList P ops Q (o :: rest) a w := by
  refine wpList_plain hg fun K hK' => ?_
  unfold Oper.wp
  simp [execOp, hop, resolve, invoke, builtin, hs, hx, hrun, Result.andThen]
  exact hK' _ _ hK
theorem info3s : (Try.prog.info? 3).map (fun i => (i.zero.map (fun z => z.cells.size), i.size, i.bytes)) = some (some 1, 1, 8) := by kernel_rfl
/-- numbers in a row of the call's own, or nothing yet -/
def ON (w : World) (base : Nat) (v : Value) (l : List Int) : Prop := w.ownsRow base 3 1 v l.length (l.map (Value.int .i64))
theorem on_nil (w : World) (base : Nat) : ON w base (.slice none 0 0) [] := ⟨by simp, .inl ⟨rfl, rfl⟩⟩
theorem ON.is {w : World} {base : Nat} {v : Value} {l : List Int} (h : ON w base v l) : IS .i64 w v l := by
  rcases h.2 with ⟨rfl, hl⟩ | ⟨g, cap, cur, rfl, hb, hg, hn, hm, hs, ht⟩
  · exact .inl ⟨rfl, List.eq_nil_of_length_eq_zero hl⟩
  · refine .inr ⟨_, cap, rfl, hn, hm, ?_, (Array.getElem?_eq_some_iff.1 hg).1⟩
    intro j v hj
    have hadd : (⟨g, 0, none⟩ : Addr).add j = ⟨g, j, none⟩ := by
      unfold Addr.add; split
      · rename_i h; subst h; rfl
      · simp
    rw [hadd]
    have hjl : j < l.length := by
      have := (List.getElem?_eq_some_iff.1 hj).1
      simpa using this
    rw [← ht, Nat.mul_one, List.getElem?_take, if_pos hjl] at hj
    simp only [World.cell?, hg]
    simpa using hj
theorem ON.lt {w : World} {base : Nat} {v : Value} {l : List Int} (h : ON w base v l) (k : Nat) (hk : v.ownBlock = some k) : base ≤ k ∧ k < w.heap.size := World.ownsRow.lt h k hk
def Sep (u v : Value) : Prop := ∀ k, u.ownBlock = some k → v.ownBlock ≠ some k
theorem Sep.symm {u v : Value} (h : Sep u v) : Sep v u := fun k hk hu => h k hu hk
theorem ON.kept {w w' : World} {base : Nat} {v : Value} {l : List Int} {r : Option Nat} (h : ON w base v l) (hg : w.grownBy w' r) (hne : v.ownBlock = none ∨ v.ownBlock ≠ r) : ON w' base v l := World.ownsRow.kept h hg hne
theorem one_int (l : List Int) : ∀ u ∈ l.map (Value.int .i64), u.oneCell' = true := by
  intro u hu
  obtain ⟨x, _, rfl⟩ := List.mem_map.1 hu
  rfl
theorem app_one {w : World} {base : Nat} {v : Value} {l : List Int} (h : ON w base v l) (x : Int) (hn : l.length ≤ 1000) (hb : base ≤ w.heap.size) :
    ∃ v' w', (Builtin.append_ #[34, 34] 34 #[v, .slice (some ⟨w.heap.size, 0, none⟩) 1 1]).run Try.prog (w.alloc (.cells #[.int .i64 x] 3)) = .ok v' w' ∧ ON w' base v' (l ++ [x]) ∧
      (w.alloc (.cells #[.int .i64 x] 3)).grownBy w' v.ownBlock ∧ (∀ k, v'.ownBlock = some k → v.ownBlock = some k ∨ w.heap.size < k) := by
  obtain ⟨i, hi, hf⟩ := Option.map_eq_some_iff.1 info3s
  simp only [Prod.mk.injEq] at hf
  obtain ⟨hz, hs, hby⟩ := hf
  obtain ⟨z, hz, hzs⟩ := Option.map_eq_some_iff.1 hz
  have h1 : ON (w.alloc (.cells #[.int .i64 x] 3)) base v l := h.kept (World.grownBy_alloc w _ none) (by
    cases hv : v.ownBlock with
    | none => exact .inl rfl
    | some k => exact .inr (by simp))
  obtain ⟨g, cap, w', h6, h7, h8, h9, h10⟩ := run_append_lies (P := Try.prog) (w := w.alloc (.cells #[.int .i64 x] 3)) 34 34 base 3 i z 1 8 Try.underlying34 hi hz hs hby hzs (by omega) v l.length _ h1 ⟨w.heap.size, 0, none⟩ 1 1 [.int .i64 x] (by simp)
    (by
      intro j u hj
      cases j with
      | zero =>
        simp at hj
        subst hj
        exact (cell_new_l w (.int .i64 x) 3).1
      | succ j => simp at hj) (one_int [x]) (by omega) (by unfold maxLen; omega) (by omega) (by simp; omega) _ rfl
  refine ⟨_, w', h6, ?_, h8, ?_⟩
  · unfold ON
    rw [List.length_append, List.map_append]
    exact h7
  · intro k hk
    simp [Value.ownBlock] at hk
    subst hk
    rcases h9 with h9 | h9
    · exact .inl h9
    · right; rw [h9]; simp
/-- three rows of the call's own -/
structure Three (w : World) (base : Nat) (v1 v2 v3 : Value) (l1 l2 l3 : List Int) : Prop where
  o1 : ON w base v1 l1
  o2 : ON w base v2 l2
  o3 : ON w base v3 l3
  s12 : Sep v1 v2
  s13 : Sep v1 v3
  s23 : Sep v2 v3
theorem Three.rot {w : World} {base : Nat} {v1 v2 v3 : Value} {l1 l2 l3 : List Int} (h : Three w base v1 v2 v3 l1 l2 l3) : Three w base v2 v3 v1 l2 l3 l1 := ⟨h.o2, h.o3, h.o1, h.s23, h.s12.symm, h.s13.symm⟩
theorem three_nil (w : World) (base : Nat) : Three w base (.slice none 0 0) (.slice none 0 0) (.slice none 0 0) [] [] [] :=
  ⟨on_nil _ _, on_nil _ _, on_nil _ _, fun k h => by simp [Value.ownBlock] at h, fun k h => by simp [Value.ownBlock] at h, fun k h => by simp [Value.ownBlock] at h⟩
theorem ON.alloc {w : World} {base : Nat} {v : Value} {l : List Int} (h : ON w base v l) (o : Obj) : ON (w.alloc o) base v l := h.kept (World.grownBy_alloc w o none) (by
  cases hv : v.ownBlock with
  | none => exact .inl rfl
  | some k => exact .inr (by simp))
theorem Three.app {w : World} {base : Nat} {v1 v2 v3 : Value} {l1 l2 l3 : List Int} (h : Three w base v1 v2 v3 l1 l2 l3) (x : Int) (hn : l1.length ≤ 1000) (hb : base ≤ w.heap.size) :
    ∃ v' w', (Builtin.append_ #[34, 34] 34 #[v1, .slice (some ⟨w.heap.size, 0, none⟩) 1 1]).run Try.prog (w.alloc (.cells #[.int .i64 x] 3)) = .ok v' w' ∧ Three w' base v' v2 v3 (l1 ++ [x]) l2 l3 ∧ Below base w w' := by
  obtain ⟨v', w', h1, h2, h3, h4⟩ := app_one h.o1 x hn hb
  have sep : ∀ {u : Value} {m : List Int}, ON w base u m → Sep v1 u → ON w' base u m ∧ Sep v' u := by
    intro u m ho hs
    refine ⟨(ho.alloc _).kept h3 ?_, ?_⟩
    · cases hu : u.ownBlock with
      | none => exact .inl rfl
      | some k => exact .inr (fun e => hs k e.symm hu)
    · intro k hk hu
      rcases h4 k hk with h5 | h5
      · exact hs k h5 hu
      · have := (ho.lt k hu).2; omega
  refine ⟨v', w', h1, ⟨h2, (sep h.o2 h.s12).1, (sep h.o3 h.s13).1, (sep h.o2 h.s12).2, (sep h.o3 h.s13).2, h.s23⟩, ?_⟩
  have a1 : Below base w (w.alloc (.cells #[.int .i64 x] 3)) := ((Below.refl _ w).alloc (Nat.le_refl _) _).mono hb
  have a2 : Below base (w.alloc (.cells #[.int .i64 x] 3)) w' := (Below.refl base _).grown h3 (by simp; omega) (fun k hk => (h.o1.lt k hk).1)
  exact a1.trans a2
theorem take_snoc (xs : List Int) (i : Nat) (h : i < xs.length) : xs.take (i + 1) = xs.take i ++ [xs.getD i 0] := by
  rw [List.take_add_one, List.getElem?_eq_getElem h]
  simp [List.getD_eq_getElem?_getD, List.getElem?_eq_getElem h]
end Go.Proofs.Ythmakdlmadgpcaa

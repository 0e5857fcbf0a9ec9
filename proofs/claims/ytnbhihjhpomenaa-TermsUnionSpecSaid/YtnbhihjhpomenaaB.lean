/- Rows of the call's own (numbers, spans) that append makes longer; contracts: boundaries, slices.Grow, slices.Concat. -/
import Derived.Test.YtnbhihjhpomenaaA
import Derived.Laws.AppendOwn
import Derived.Laws.MakeOwn
import Derived.Laws.OwnMore
import Derived.Lib.AppendZerosOnto
namespace Go.Proofs.Ytnbhihjhpomenaa
open Go.RowKit Go
set_option linter.unusedVariables false
set_option linter.unusedSimpArgs false
theorem wpList_append_run {P : Program} {w w' : World} {ops : Array Oper} {rest : List Oper} {o : Oper} {a : Act} {Q : Exit → Act → World → Prop}
    (hg : o.guard = none) (s x : Operand) (t u : TypeId) (hop : o.op = Op.call { callee := Callee.builtin Builtin.append, args := #[s, x], argTypes := #[t, u] })
    (vs vx r : Value) (hs : a.eval s = vs) (hx : a.eval x = vx) (hrun : (Builtin.append_ #[t, u] o.type #[vs, vx]).run P w = .ok r w') (hK : wpList P ops Q rest (a.put o.dst r) w') :
    wpList P ops Q (o :: rest) a w := by
  refine wpList_plain hg fun K hK' => ?_
  unfold Oper.wp
  simp [execOp, hop, resolve, invoke, builtin, hs, hx, hrun, Result.andThen]
  exact hK' _ _ hK
/-- a slice value that holds the numbers l -/
def IS (w : World) (v : Value) (l : List Int) : Prop := (v = .slice none 0 0 ∧ l = []) ∨ ∃ a cap, v = .slice (some a) l.length cap ∧ l.length ≤ cap ∧ cap ≤ maxLen ∧ Cells w a (l.map (Value.int .i64)) ∧ a.block < w.heap.size
theorem IS.ups {w w' : World} {v : Value} {l : List Int} (h : IS w v l) (hb : Below w.heap.size w w') : IS w' v l := by
  rcases h with h | ⟨a, cap, h1, h2, h3, h4, h5⟩
  · exact .inl h
  · exact .inr ⟨a, cap, h1, h2, h3, h4.up hb h5, Nat.lt_of_lt_of_le h5 hb.size⟩
theorem IS.form {w : World} {v : Value} {l : List Int} (h : IS w v l) : ∃ p cap, v = .slice p l.length cap := by
  rcases h with ⟨rfl, rfl⟩ | ⟨a, cap, rfl, _⟩
  · exact ⟨_, _, rfl⟩
  · exact ⟨_, _, rfl⟩
/-- the numbers' cells can be read -/
def RI (p : Option Addr) (n0 : Nat) (l : List Int) (W : World) : Prop := ∀ i x, l[i]? = some x → ∃ b o, p = some ⟨b, o, none⟩ ∧ b < n0 ∧ W.cell? ⟨b, o + i, none⟩ = some (.int .i64 x)
theorem IS.ri {w : World} {p : Option Addr} {cap n : Nat} {l : List Int} (h : IS w (.slice p n cap) l) : RI p w.heap.size l w := by
  intro i x hi
  rcases h with ⟨_, rfl⟩ | ⟨a, cap', h1, _, _, h4, h5⟩
  · simp at hi
  · injection h1 with e1 e2 e3
    cases l with
    | nil => simp at hi
    | cons y ys =>
      have ha : a = ⟨a.block, a.off, none⟩ := by simp only [List.map_cons] at h4; exact h4.spot
      have c1 := h4 i (.int .i64 x) (by rw [List.getElem?_map, hi]; rfl)
      rw [ha, add_plain] at c1
      exact ⟨a.block, a.off, by rw [e1, ← ha], h5, c1⟩
theorem RI.up {p : Option Addr} {n0 : Nat} {l : List Int} {W W' : World} (h : RI p n0 l W) (hb : Below n0 W W') : RI p n0 l W' := fun i x hi => by
  obtain ⟨b, o, e, hl, h1⟩ := h i x hi
  exact ⟨b, o, e, hl, (hb.cell (p := ⟨b, o + i, none⟩) hl).trans h1⟩
theorem info3s : (Try.prog.info? 3).map (fun i => (i.zero.map (fun z => z.cells.size), i.size, i.bytes)) = some (some 1, 1, 8) := by kernel_rfl
theorem info35s : (Try.prog.info? 35).map (fun i => (i.zero.map (fun z => z.cells.size), i.size, i.bytes)) = some (some 2, 2, 16) := by kernel_rfl
/-- numbers in a row of the call's own, or nothing yet -/
def ON (w : World) (base : Nat) (v : Value) (l : List Int) : Prop := w.ownsRow base 3 1 v l.length (l.map (Value.int .i64))
/-- spans in a row of the call's own, or nothing yet -/
def OS (w : World) (base : Nat) (v : Value) (l : Sp) : Prop := w.ownsRow base 35 2 v l.length (sc l)
theorem on_nil (w : World) (base : Nat) : ON w base (.slice none 0 0) [] := ⟨by simp, .inl ⟨rfl, rfl⟩⟩
theorem os_nil (w : World) (base : Nat) : OS w base (.slice none 0 0) [] := ⟨by simp [sc, T.ends_nil], .inl ⟨rfl, rfl⟩⟩
theorem ON.is {w : World} {base : Nat} {v : Value} {l : List Int} (h : ON w base v l) : IS w v l := by
  rcases h.2 with ⟨rfl, hl⟩ | ⟨g, cap, cur, rfl, hb, hg, hn, hm, hs, ht⟩
  · exact .inl ⟨rfl, List.eq_nil_of_length_eq_zero hl⟩
  · exact .inr ⟨_, cap, rfl, hn, hm, fun j v hj => World.ownsRow.cells h rfl j v hj, (Array.getElem?_eq_some_iff.1 hg).1⟩
theorem OS.ss {w : World} {base : Nat} {v : Value} {l : Sp} (h : OS w base v l) : SS w v l := by
  rcases h.2 with ⟨rfl, hl⟩ | ⟨g, cap, cur, rfl, hb, hg, hn, hm, hs, ht⟩
  · exact .inl ⟨rfl, List.eq_nil_of_length_eq_zero hl⟩
  · exact .inr ⟨_, cap, rfl, hn, hm, fun j v hj => World.ownsRow.cells h rfl j v hj, (Array.getElem?_eq_some_iff.1 hg).1⟩
theorem ON.alloc {w : World} {base : Nat} {v : Value} {l : List Int} (h : ON w base v l) (o : Obj) : ON (w.alloc o) base v l := World.ownsRow.alloc h o
theorem OS.alloc {w : World} {base : Nat} {v : Value} {l : Sp} (h : OS w base v l) (o : Obj) : OS (w.alloc o) base v l := World.ownsRow.alloc h o
theorem grown_of_below {w w' : World} {r : Option Nat} (hb : Below w.heap.size w w') : w.grownBy w' r := ⟨hb.os, hb.tape, hb.output, hb.size, fun k hk _ => hb.block k hk⟩
theorem ON.ups {w w' : World} {base : Nat} {v : Value} {l : List Int} (h : ON w base v l) (hb : Below w.heap.size w w') : ON w' base v l :=
  World.ownsRow.kept h (grown_of_below (r := none) hb) (by
    cases v.ownBlock with
    | none => exact .inl rfl
    | some k => exact .inr (by simp))
theorem OS.ups {w w' : World} {base : Nat} {v : Value} {l : Sp} (h : OS w base v l) (hb : Below w.heap.size w w') : OS w' base v l :=
  World.ownsRow.kept h (grown_of_below (r := none) hb) (by
    cases v.ownBlock with
    | none => exact .inl rfl
    | some k => exact .inr (by simp))
theorem one_int (l : List Int) : ∀ u ∈ l.map (Value.int .i64), u.oneCell' = true := by
  intro u hu
  obtain ⟨x, _, rfl⟩ := List.mem_map.1 hu
  rfl
/-- numbers are appended to a row of the call's own -/
theorem app_is {w : World} {base : Nat} {v u : Value} {l m : List Int} (h : ON w base v l) (hu : IS w u m) (hn : l.length + m.length ≤ 1000000) (hb : base ≤ w.heap.size) :
    ∃ v' w', (Builtin.append_ #[42, 42] 42 #[v, u]).run Try.prog w = .ok v' w' ∧ ON w' base v' (l ++ m) ∧ Below base w w' := by
  obtain ⟨i, hi, hf⟩ := Option.map_eq_some_iff.1 info3s
  simp only [Prod.mk.injEq] at hf
  obtain ⟨hz, hs, hby⟩ := hf
  obtain ⟨z, hz, hzs⟩ := Option.map_eq_some_iff.1 hz
  rcases hu with ⟨rfl, rfl⟩ | ⟨a, c, rfl, h2, h3, h4, h5⟩
  · have hr := run_append_owned_none (P := Try.prog) (w := w) base 42 42 3 i 1 Try.underlying42 hi _ _ _ h
    exact ⟨v, w, hr, by simpa using h, Below.refl _ _⟩
  · obtain ⟨v', w', h6, h7, h8, h9⟩ := run_append_own (P := Try.prog) w base 42 42 3 i z 1 8 Try.underlying42 hi hz hs hby hzs (by omega) v l.length _ h a m.length c (m.map (Value.int .i64)) (by simp) h4 (one_int m) (by unfold maxLen; omega) (by omega) hb
    refine ⟨v', w', h6, ?_, (Below.refl base w).grown h8 hb (fun k hk => (World.ownsRow.lt h k hk).1)⟩
    unfold ON
    rw [List.length_append, List.map_append]; exact h7
theorem cells_new (w : World) (xs : List Value) (e : TypeId) : Cells (w.alloc (.cells xs.toArray e)) ⟨w.heap.size, 0, none⟩ xs := by
  intro j v hj
  rw [add_plain, Nat.zero_add]
  simp only [World.cell?, heap_alloc_new]
  simpa using hj
/-- numbers that have just been laid are appended -/
theorem app_new {w : World} {base : Nat} {v : Value} {l : List Int} (h : ON w base v l) (xs : List Int) (hn : l.length + xs.length ≤ 1000000) (hb : base ≤ w.heap.size) :
    ∃ v' w', (Builtin.append_ #[42, 42] 42 #[v, .slice (some ⟨w.heap.size, 0, none⟩) xs.length xs.length]).run Try.prog (w.alloc (.cells (xs.map (Value.int .i64)).toArray 3)) = .ok v' w' ∧ ON w' base v' (l ++ xs) ∧ Below base w w' := by
  obtain ⟨v', w', h1, h2, h3⟩ := app_is (h.alloc (.cells (xs.map (Value.int .i64)).toArray 3)) (u := .slice (some ⟨w.heap.size, 0, none⟩) xs.length xs.length) (m := xs)
    (.inr ⟨_, _, rfl, Nat.le_refl _, by unfold maxLen; omega, cells_new _ _ _, by simp⟩) hn (by simp; omega)
  exact ⟨v', w', h1, h2, (((Below.refl _ w).alloc (Nat.le_refl _) _).mono hb).trans h3⟩
theorem make_nums (w : World) (c : Nat) (m : Int) (hm : m = c) (hc : c ≤ 1000000) : ∃ v w', (Instr.makeSlice 42 (.int .i64 0) (.int .i64 m)).run Try.prog w = .ok v w' ∧ ON w' w.heap.size v [] ∧ Below w.heap.size w w' := by
  subst hm
  obtain ⟨i, hi, hf⟩ := Option.map_eq_some_iff.1 info3s
  simp only [Prod.mk.injEq] at hf
  obtain ⟨hz, hs, hby⟩ := hf
  obtain ⟨z, hz, hzs⟩ := Option.map_eq_some_iff.1 hz
  obtain ⟨w', h1, h2, h3⟩ := run_make_own (P := Try.prog) w w.heap.size 42 3 i z 1 Try.underlying42 hi hz hs .i64 .i64 c (by rw [hby]; omega) (by unfold maxLen; omega) (Nat.le_refl _)
  exact ⟨_, w', h1, h2, (Below.refl _ w).grown h3 (Nat.le_refl _) (fun k hk => by cases hk)⟩
set_option maxRecDepth 100000 in
theorem boundaries_any (v : Value) (l : Sp) (w : World) (hv : SS w v l) (hl : l.length ≤ 1024) :
    Calls Try.prog 32 #[v] w fun e w' => ∃ u, e = .returned u ∧ IS w' u (T.ends l) ∧ Below w.heap.size w w' := by
  obtain ⟨p, cap, rfl⟩ := hv.form
  have hr := hv.rs
  obtain ⟨n, hn⟩ : ∃ n, n = l.length := ⟨_, rfl⟩
  rw [← hn] at hl ⊢
  obtain ⟨u0, w0, hmk, hon, hb0⟩ := make_nums w (2 * n) (2 * (n : Int)) (by simp) (by omega)
  have HR := hid hr; have HN := hid hn; have HON := hid hon; have HB0 := hid hb0
  clear hr hv hn hon hb0
  go_enter Try.func32, Try.ntmps32
  go_wp2
  go_loopw [3, 12] (fun s i w1 => ∃ k : Nat, k ≤ n ∧ i = .int .i64 k ∧ Below w.heap.size w w1 ∧ ON w1 w.heap.size s (T.ends (l.take k))) (fun _ i _ => n - (intOf i).toNat)
  case atStart => exact ⟨0, by omega, rfl, HB0.out, HON.out⟩
  case round =>
    obtain ⟨k, hk, rfl, hb, hon⟩ := hrel
    clear hmk
    by_cases hlt : k < n
    · obtain ⟨f, t, hi⟩ := get_lt (l := l) (i := k) (by rw [← HN.out]; exact hlt)
      obtain ⟨b, o, rfl, hab, hc1, hc2⟩ := HR.out.up hb k f t hi
      have al := (Below.refl _ wr).alloc (Nat.le_refl _) (.cells #[Value.int .i64 f, Value.int .i64 t] 35)
      have hlen : (T.ends (l.take k)).length + [f, t].length ≤ 1000000 := by
        have h1 := T.ends_length (l.take k)
        have h2 : (l.take k).length ≤ k := by rw [List.length_take]; omega
        have h3 : [f, t].length = 2 := rfl
        omega
      obtain ⟨v', w2, happ, hon2, hb2⟩ := app_new (w := wr.alloc (.cells #[Value.int .i64 f, Value.int .i64 t] 35)) (hon.alloc _) [f, t] hlen (Nat.le_trans hb.size al.size)
      have he : T.ends (l.take k) ++ [f, t] = T.ends (l.take (k + 1)) := by rw [take_snoc hi, T.ends_append]; rfl
      rw [he] at hon2
      simp only [World.size_alloc, List.map_cons, List.map_nil, List.length_cons, List.length_nil, Nat.zero_add, Nat.reduceAdd] at happ
      have HB := hid (hb.trans ((al.mono hb.size).trans hb2)); have HO2 := hid hon2; have HAPP := hid happ
      clear hb hi hab hon2 hb2 happ he al hon
      go_wp2_with (at_builtin; refine wpList_append_run rfl (.tmp 16) (.tmp 21) 42 42 ?h0 _ _ _ ?h1 ?h2 HAPP.out ?_; exact rfl; exact rfl; exact rfl)
      go_roundw
      case rel => exact ⟨k + 1, by omega, by go_num, HB.out, HO2.out⟩
      case measure => simp [intOf]; omega
    · have hd : T.ends (l.take k) = T.ends l := by rw [show k = l.length by have := HN.out; omega, List.take_length]
      rw [hd] at hon
      have HB := hid hb; have HO := hid hon
      clear hd hb hon
      go_wp2
      go_ret
      exact ⟨_, rfl, HO.out.is, HB.out⟩
end Go.Proofs.Ytnbhihjhpomenaa

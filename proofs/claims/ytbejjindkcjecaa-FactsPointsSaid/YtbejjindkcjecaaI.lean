/- Contracts: slices.AppendSeq of facts, of keys, over any iterator. -/
import Derived.Test.YtbejjindkcjecaaH
namespace Go.Proofs.Ytbejjindkcjecaa
open Go.RowKit Go Go.Shelf
set_option linter.unusedVariables false
set_option linter.unusedSimpArgs false
attribute [local go_sem] Oper.semAt_some
theorem wpListIn_append_run {F : Fence} {n : Nat} {P : Program} {w w' : World} {ops : Array Oper} {rest : List Oper} {o : Oper} {a : Act} {Q : Exit → Act → World → Prop}
    (hg : o.guard = none) (s x : Operand) (t u : TypeId) (hop : o.op = Op.call { callee := Callee.builtin Builtin.append, args := #[s, x], argTypes := #[t, u] })
    (vs vx r : Value) (hs : a.eval s = vs) (hx : a.eval x = vx) (hrun : (Builtin.append_ #[t, u] o.type #[vs, vx]).run P w = .ok r w') (hK : wpListIn F n P ops Q rest (a.put o.dst r) w') :
    wpListIn F n P ops Q (o :: rest) a w := by
  refine wpListIn_plain hg fun K hK' => ?_
  unfold Oper.wpIn
  refine ⟨?_, ?_⟩
  · simp [Oper.about, hop, resolve, Target.leads, Sem.run_pure]
  · rw [Oper.semAt_plain F _ _ (by rw [hop]; intro c hc'; cases hc')]
    simp [execOp, hop, resolve, invoke, builtin, hs, hx, hrun, Result.andThen]
    exact hK' _ _ hK
section
variable {α : Type} {enc : α → List Value}
theorem row_cells {e k : Nat} {w : World} {base : Nat} {v : Value} {l : List α} (h : GO e k enc w base v l) {j : Nat} {o : Obj} (hj : v.ownBlock = some j) (ho : w.heap[j]? = some o) : o.isCells = true := by
  rcases h.2 with ⟨rfl, _⟩ | ⟨g, cap, cur, rfl, _, hg, _⟩
  · simp [Value.ownBlock] at hj
  · simp [Value.ownBlock] at hj
    subst hj
    rw [hg] at ho
    cases ho
    rfl
/-- the row that block H holds, made since -/
def RowIn (st et k : Nat) (enc : α → List Value) (w : World) (pre : List α) (W : World) : Prop := ∃ v, Blk W w.heap.size st [v] ∧ GO et k enc W (w.heap.size + 1) v pre ∧ Below w.heap.size w W
theorem rowin_own (st et k : Nat) (enc : α → List Value) (w : World) (B : Nat) (hB : w.heap.size ≤ B) : OwnFrom B (RowIn st et k enc w) := by
  rintro s W W' row ⟨v, h1, h2, h3⟩ hg hr
  refine ⟨v, blk_own w.heap.size st (fun (_ : Unit) => [v]) () W W' row h1 hg (fun r e => (hr r e).2), h2.kept hg (fun j hj e => ?_), h3.grown hg h3.size (fun k hk => Nat.le_trans hB (hr k hk).1)⟩
  obtain ⟨_, o, ho, hc⟩ := hr j e
  have := row_cells h2 hj ho
  rw [hc] at this
  cases this
theorem rowin_next {st et k : Nat} {w W W3 : World} {pre : List α} {x : α} {v : Value} {g cap n : Nat} (cs : Array Value) (hv : Blk W w.heap.size st [v]) (ho : GO et k enc W (w.heap.size + 1) v pre) (hb : Below w.heap.size w W)
    (hg1 : GO et k enc W3 (w.heap.size + 1) (.slice (some ⟨g, 0, none⟩) n cap) (pre ++ [x])) (hg2 : (W.alloc (.cells cs et)).grownBy W3 v.ownBlock) :
    Blk W3 w.heap.size st [v] ∧ KeepsOthers W (W3.setCell ⟨w.heap.size, 0, none⟩ (.slice (some ⟨g, 0, none⟩) n cap)) ∧ Below w.heap.size W (W3.setCell ⟨w.heap.size, 0, none⟩ (.slice (some ⟨g, 0, none⟩) n cap)) ∧
      RowIn st et k enc w (pre ++ [x]) (W3.setCell ⟨w.heap.size, 0, none⟩ (.slice (some ⟨g, 0, none⟩) n cap)) := by
  have hne : some w.heap.size ≠ v.ownBlock := fun e => by have := (ho.lt _ e.symm).1; omega
  have hv3 : Blk W3 w.heap.size st [v] := (hv.alloc _).kept hg2 hne
  have hbW : Below w.heap.size W W3 := ((Below.refl _ W).alloc hb.size _).grown hg2 (by have := hb.size; simp; omega) (fun j hj => by have := (ho.lt j hj).1; omega)
  have hset : Below w.heap.size W (W3.setCell ⟨w.heap.size, 0, none⟩ (.slice (some ⟨g, 0, none⟩) n cap)) := hbW.setCell (p := ⟨w.heap.size, 0, none⟩) (Nat.le_refl _) _
  refine ⟨hv3, ?_, hset, _, hv3.set 0 _, ?_, hb.trans hset⟩
  · exact ((KeepsOthers.alloc W _).trans (KeepsOthers.of_grownBy hg2 (fun j o hj ho' => row_cells (ho.alloc _) hj ho'))).trans (KeepsOthers.setCell _ _ _)
  · exact hg1.kept (grown_set W3 w.heap.size 0 _) (fun j hj e => by have := (hg1.lt j hj).1; cases e; omega)
end
theorem GO.mono {α : Type} {enc : α → List Value} {e k : Nat} {w : World} {b b' : Nat} {v : Value} {l : List α} (h : GO e k enc w b v l) (hb : b' ≤ b) : GO e k enc w b' v l := by
  refine ⟨h.1, ?_⟩
  rcases h.2 with h | ⟨g, cap, cur, h1, h2, h3⟩
  · exact .inl h
  · exact .inr ⟨g, cap, cur, h1, Nat.le_trans hb h2, h3⟩
set_option maxRecDepth 100000 in
set_option maxHeartbeats 4000000 in
theorem appendSeq_facts (gf : Nat) (lb : Array Value) (Kp : World → World → Prop) (S Sp : List FA → Prop) (N : Nat) (w : World) (hseq : ∀ n, 1 ≤ n → SeqStopsK Fence.wide n Try.prog gf lb (fun x : FA => #[FV x]) Kp S Sp N (w.alloc (.cells #[.slice none 0 0] 22)))
    (hKt : ∀ {A B C : World}, Kp A B → Kp B C → Kp A C) (hKb : ∀ (W : World) (l : Nat) (o o' : Obj), w.heap.size ≤ l → W.heap[l]? = some o → o.isCells = false → o.isWalk = false → Kp W (W.putObj l o'))
    (hKp : ∀ W W', KeepsOthers W W' → Below w.heap.size W W' → Kp W W') (eg : ∀ args w, (callFunc gf args).run Try.prog w = .ok (.enter gf args) w) (hN : N ≤ 1000000) :
    Calls Try.prog 68 #[.slice none 0 0, .func (.func gf) #[] lb] w fun e w' => ∃ v xs, e = .returned v ∧ S xs ∧ FO w' w.heap.size v xs ∧ Below w.heap.size w w' := by
  refine (callsIn_wide (n := 5)).1 ?_
  refine callsIn_of_wp_marks Try.func68 rfl trivial ?_ rfl
  simp only [Try.ntmps68, List.size_toArray, List.length_cons, List.length_nil, Nat.reduceAdd, Nat.reduceSub, Array.replicate_succ, Array.replicate_zero, List.push_toArray, List.append_toArray, List.nil_append, List.cons_append]
  gi_wp2
  have hB0 : Below w.heap.size w (w.alloc (.cells #[.slice none 0 0] 22)) := (Below.refl _ w).alloc (Nat.le_refl _) _
  refine wpIn_rangeFunc_ownH rfl (by omega) (gf := gf) (lb := lb) rfl trivial eg (hseq _ (by omega)) hKt (fun W l o o' h => hKb W l o o' (by simp at h; omega)) (Below.refl _ _) (fun _ => rfl)
    (fun pre W => RowIn 22 28 8 fc w pre W) (fun _ _ _ => False) (rowin_own 22 28 8 fc w _ (by simp)) (fun _ _ _ _ _ hs _ _ => hs)
    ⟨.slice none 0 0, Blk.new w 22 [.slice none 0 0], go_nil _ _, hB0⟩
    (fun x a' W => ∃ Bx, w.heap.size < Bx ∧ Blk W Bx 28 (fc x) ∧ a' = { tmps := #[.slice none 0 0, .func (.func gf) #[] lb, .pointer (some ⟨w.heap.size, 0, none⟩), undef, .slice none 0 0, .pointer (some ⟨Bx, 0, none⟩), .func (.func gf) #[] lb, FV x, undef, undef, undef, undef, undef], defers := [] })
    (fun x a' _ X Y row hs hg hr => by obtain ⟨Bx, h1, h2, h3⟩ := hs; exact ⟨Bx, h1, blk_own Bx 28 (fun (_ : Unit) => fc x) () X Y row h2 hg (fun r e => (hr r e).2), h3⟩)
    ?assign ?body ?done ?stop
  case assign =>
    rintro l pre x W K ⟨v, h1, h2, h3⟩ hK
    gi_wp2
    exact hK _ _ ((KeepsOthers.alloc _ _).from _) (hKp _ _ (KeepsOthers.alloc _ _) ((Below.refl _ W).alloc h3.size _)) ⟨v, h1.alloc _, h2.alloc _, h3.alloc h3.size _⟩ ⟨W.heap.size, h1.lt, Blk.new W 28 (fc x), rfl⟩
  case body =>
    rintro l pre x a' W hl ⟨r, hr⟩ ⟨v, h1, h2, h3⟩ ⟨Bx, hBx, bX, rfl⟩ hlt
    have c0 := h1.cell 0 _ rfl
    have cX0 := bX.cell 0 _ rfl; have cX1 := bX.cell 1 _ rfl; have cX2 := bX.cell 2 _ rfl; have cX3 := bX.cell 3 _ rfl; have cX4 := bX.cell 4 _ rfl; have cX5 := bX.cell 5 _ rfl; have cX6 := bX.cell 6 _ rfl; have cX7 := bX.cell 7 _ rfl
    have l2 := bX.lt
    obtain ⟨g, cap, W3, happ, g1, g2⟩ := app_fact h2 x (by omega) (by have := h3.size; omega)
    obtain ⟨k1, k2, k3, k4⟩ := rowin_next #[.int .i64 x.kind, .int .i64 x.subj, .int .i64 x.obj, .int .i64 x.val, .int .i64 x.frm, .int .i64 x.to, .int .i64 x.known, .int .i64 x.no] (hv := h1) (ho := h2) (hb := h3) (hg1 := g1) (hg2 := g2)
    have kc := k1.cell 0 _ rfl
    have kf := k1.frozen 0
    have HAPP := hid happ
    clear happ g1 g2
    gi_wp2_with (gi_at_builtin; refine wpListIn_append_run rfl (.tmp 8) (.tmp 10) 22 22 rfl _ _ _ rfl rfl HAPP.out ?_)
    exact ⟨k2.from _, hKp _ _ k2 k3, k4⟩
  case done =>
    rintro D xs W hD hS ⟨v, h1, h2, h3⟩ hK
    have hI := rowin_own 22 28 8 fc w w.heap.size (Nat.le_refl _) xs W (W.putObj D (.deferred none)) (some D) ⟨v, h1, h2, h3⟩ (grownBy_putObj' W D _) (fun r e => by cases e; exact ⟨by simp at hD; omega, _, hK, rfl⟩)
    obtain ⟨v', q1, q2, q3⟩ := hI
    have e1 := cell_kept_l (h1.cell 0 _ rfl) hK rfl (.deferred none)
    rw [q1.cell 0 _ rfl] at e1
    obtain rfl : v' = v := by simpa using e1
    have c0 := h1.cell 0 _ rfl
    have Q2 := hid q2; have Q3 := hid q3; have HS := hid hS
    clear q1 q2 q3 e1 h2 h3 hS
    gi_wp2
    refine ⟨by simp, .inl ⟨_, _, rfl, run_takeDeferred hK, ?_⟩⟩
    refine ⟨v', ?_, v', xs, rfl, HS.out, Q2.out.mono (by omega), Q3.out⟩
    simp [results, Try.results68, go_sem]
  case stop => exact fun D c pre W _ _ h => h.elim

set_option maxRecDepth 100000 in
set_option maxHeartbeats 4000000 in
theorem appendSeq_keys (gf : Nat) (lb : Array Value) (Kp : World → World → Prop) (S Sp : List KE → Prop) (N : Nat) (w : World) (hseq : ∀ n, 1 ≤ n → SeqStopsK Fence.wide n Try.prog gf lb (fun x : KE => #[KV x]) Kp S Sp N (w.alloc (.cells #[.slice none 0 0] 37)))
    (hKt : ∀ {A B C : World}, Kp A B → Kp B C → Kp A C) (hKb : ∀ (W : World) (l : Nat) (o o' : Obj), w.heap.size ≤ l → W.heap[l]? = some o → o.isCells = false → o.isWalk = false → Kp W (W.putObj l o'))
    (hKp : ∀ W W', KeepsOthers W W' → Below w.heap.size W W' → Kp W W') (eg : ∀ args w, (callFunc gf args).run Try.prog w = .ok (.enter gf args) w) (hN : N ≤ 1000000) :
    Calls Try.prog 63 #[.slice none 0 0, .func (.func gf) #[] lb] w fun e w' => ∃ v xs, e = .returned v ∧ S xs ∧ KO w' w.heap.size v xs ∧ Below w.heap.size w w' := by
  refine (callsIn_wide (n := 5)).1 ?_
  refine callsIn_of_wp_marks Try.func63 rfl trivial ?_ rfl
  simp only [Try.ntmps63, List.size_toArray, List.length_cons, List.length_nil, Nat.reduceAdd, Nat.reduceSub, Array.replicate_succ, Array.replicate_zero, List.push_toArray, List.append_toArray, List.nil_append, List.cons_append]
  gi_wp2
  have hB0 : Below w.heap.size w (w.alloc (.cells #[.slice none 0 0] 37)) := (Below.refl _ w).alloc (Nat.le_refl _) _
  refine wpIn_rangeFunc_ownH rfl (by omega) (gf := gf) (lb := lb) rfl trivial eg (hseq _ (by omega)) hKt (fun W l o o' h => hKb W l o o' (by simp at h; omega)) (Below.refl _ _) (fun _ => rfl)
    (fun pre W => RowIn 37 24 3 kc w pre W) (fun _ _ _ => False) (rowin_own 37 24 3 kc w _ (by simp)) (fun _ _ _ _ _ hs _ _ => hs)
    ⟨.slice none 0 0, Blk.new w 37 [.slice none 0 0], go_nil _ _, hB0⟩
    (fun x a' W => ∃ Bx, w.heap.size < Bx ∧ Blk W Bx 24 (kc x) ∧ a' = { tmps := #[.slice none 0 0, .func (.func gf) #[] lb, .pointer (some ⟨w.heap.size, 0, none⟩), undef, .slice none 0 0, .pointer (some ⟨Bx, 0, none⟩), .func (.func gf) #[] lb, KV x, undef, undef, undef, undef, undef], defers := [] })
    (fun x a' _ X Y row hs hg hr => by obtain ⟨Bx, h1, h2, h3⟩ := hs; exact ⟨Bx, h1, blk_own Bx 24 (fun (_ : Unit) => kc x) () X Y row h2 hg (fun r e => (hr r e).2), h3⟩)
    ?assign ?body ?done ?stop
  case assign =>
    rintro l pre x W K ⟨v, h1, h2, h3⟩ hK
    gi_wp2
    exact hK _ _ ((KeepsOthers.alloc _ _).from _) (hKp _ _ (KeepsOthers.alloc _ _) ((Below.refl _ W).alloc h3.size _)) ⟨v, h1.alloc _, h2.alloc _, h3.alloc h3.size _⟩ ⟨W.heap.size, h1.lt, Blk.new W 24 (kc x), rfl⟩
  case body =>
    rintro l pre x a' W hl ⟨r, hr⟩ ⟨v, h1, h2, h3⟩ ⟨Bx, hBx, bX, rfl⟩ hlt
    have c0 := h1.cell 0 _ rfl
    have cX0 := bX.cell 0 _ rfl; have cX1 := bX.cell 1 _ rfl; have cX2 := bX.cell 2 _ rfl
    have l2 := bX.lt
    obtain ⟨g, cap, W3, happ, g1, g2⟩ := app_key h2 x (by omega) (by have := h3.size; omega)
    obtain ⟨k1, k2, k3, k4⟩ := rowin_next #[.int .i64 x.1, .int .i64 x.2.1, .int .i64 x.2.2] (hv := h1) (ho := h2) (hb := h3) (hg1 := g1) (hg2 := g2)
    have kc := k1.cell 0 _ rfl
    have kf := k1.frozen 0
    have HAPP := hid happ
    clear happ g1 g2
    gi_wp2_with (gi_at_builtin; refine wpListIn_append_run rfl (.tmp 8) (.tmp 10) 37 37 rfl _ _ _ rfl rfl HAPP.out ?_)
    exact ⟨k2.from _, hKp _ _ k2 k3, k4⟩
  case done =>
    rintro D xs W hD hS ⟨v, h1, h2, h3⟩ hK
    have hI := rowin_own 37 24 3 kc w w.heap.size (Nat.le_refl _) xs W (W.putObj D (.deferred none)) (some D) ⟨v, h1, h2, h3⟩ (grownBy_putObj' W D _) (fun r e => by cases e; exact ⟨by simp at hD; omega, _, hK, rfl⟩)
    obtain ⟨v', q1, q2, q3⟩ := hI
    have e1 := cell_kept_l (h1.cell 0 _ rfl) hK rfl (.deferred none)
    rw [q1.cell 0 _ rfl] at e1
    obtain rfl : v' = v := by simpa using e1
    have c0 := h1.cell 0 _ rfl
    have Q2 := hid q2; have Q3 := hid q3; have HS := hid hS
    clear q1 q2 q3 e1 h2 h3 hS
    gi_wp2
    refine ⟨by simp, .inl ⟨_, _, rfl, run_takeDeferred hK, ?_⟩⟩
    refine ⟨v', ?_, v', xs, rfl, HS.out, Q2.out.mono (by omega), Q3.out⟩
    simp [results, Try.results63, go_sem]
  case stop => exact fun D c pre W _ _ h => h.elim

end Go.Proofs.Ytbejjindkcjecaa

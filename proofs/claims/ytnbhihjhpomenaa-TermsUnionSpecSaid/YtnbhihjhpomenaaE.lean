/- Contract: between. -/
import Derived.Test.YtnbhihjhpomenaaReg
namespace Go.Proofs.Ytnbhihjhpomenaa
open Go.RowKit Go Go.Shelf
set_option linter.unusedVariables false
set_option linter.unusedSimpArgs false
attribute [local go_sem] Oper.semAt_some
theorem cell_new_l (w : World) (v : Value) (e : TypeId) : (w.alloc (.cells #[v] e)).cell? ⟨w.heap.size, 0, none⟩ = some v ∧ (w.alloc (.cells #[v] e)).frozen? ⟨w.heap.size, 0, none⟩ = false := by
  constructor
  · simp only [World.cell?, heap_alloc_new]; rfl
  · simp only [World.frozen?, heap_alloc_new]; simp
theorem cell_alloc_l {w : World} {a : Addr} {v : Value} (o : Obj) (h : w.cell? a = some v) : (w.alloc o).cell? a = some v := by
  have hlt : a.block < w.heap.size := by
    rcases Nat.lt_or_ge a.block w.heap.size with hh | hh
    · exact hh
    · simp [World.cell?, Array.getElem?_eq_none hh] at h
  exact (((Below.refl _ w).alloc (Nat.le_refl _) o).cell hlt).trans h
theorem frozen_alloc_l {w : World} {a : Addr} {v : Value} (o : Obj) (h : w.cell? a = some v) (hf : w.frozen? a = false) : (w.alloc o).frozen? a = false := by
  have hlt : a.block < w.heap.size := by
    rcases Nat.lt_or_ge a.block w.heap.size with hh | hh
    · exact hh
    · simp [World.cell?, Array.getElem?_eq_none hh] at h
  exact (((Below.refl _ w).alloc (Nat.le_refl _) o).frozen hlt).trans hf
theorem one_sc (l : Sp) : ∀ u ∈ sc l, u.oneCell' = true := one_int _
/-- a span that has just been laid is appended -/
theorem apps_new {w : World} {base : Nat} {v : Value} {l : Sp} (h : OS w base v l) (f t : Int) (hn : l.length ≤ 10000) (hb : base ≤ w.heap.size) :
    ∃ g cap w', (Builtin.append_ #[22, 22] 22 #[v, .slice (some ⟨w.heap.size, 0, none⟩) 1 1]).run Try.prog (w.alloc (.cells #[.int .i64 f, .int .i64 t] 35)) = .ok (.slice (some ⟨g, 0, none⟩) (l.length + 1) cap) w' ∧
      OS w' base (.slice (some ⟨g, 0, none⟩) (l.length + 1) cap) (l ++ [(f, t)]) ∧ (w.alloc (.cells #[.int .i64 f, .int .i64 t] 35)).grownBy w' v.ownBlock := by
  obtain ⟨i, hi, hf⟩ := Option.map_eq_some_iff.1 info35s
  simp only [Prod.mk.injEq] at hf
  obtain ⟨hz, hs, hby⟩ := hf
  obtain ⟨z, hz, hzs⟩ := Option.map_eq_some_iff.1 hz
  obtain ⟨g, cap, w', h6, h7, h8, h9, h10⟩ := run_append_lies (P := Try.prog) (w := w.alloc (.cells #[.int .i64 f, .int .i64 t] 35)) 22 22 base 35 i z 2 16 Try.underlying22 hi hz hs hby hzs (by omega) v l.length _ (h.alloc _) ⟨w.heap.size, 0, none⟩ 1 1 (sc [(f, t)]) (by simp [sc, T.ends])
    (cells_new w (sc [(f, t)]) 35) (one_sc _) (by omega) (by unfold maxLen; omega) (by omega) (by simp; omega) _ rfl
  refine ⟨g, cap, w', h6, ?_, h8⟩
  unfold OS
  rw [List.length_append, List.length_singleton, show sc (l ++ [(f, t)]) = sc l ++ sc [(f, t)] from by unfold sc; rw [T.ends_append, List.map_append]]
  exact h7
/-- the pair at x -/
def el (K : List Int) (x : Nat) : Int × Int := (K.getD (2 * x) 0, K.getD (2 * x + 1) 0)
theorem pairs_el : ∀ (m : Nat) (K : List Int), K.length = 2 * m → T.pairs K = (List.range m).map (el K)
  | 0, K, h => by
    obtain rfl : K = [] := List.eq_nil_of_length_eq_zero (by omega)
    rfl
  | m + 1, K, h => by
    match K, h with
    | f :: t :: r, h =>
      have ih := pairs_el m r (by simp only [List.length_cons] at h; omega)
      rw [List.range_succ_eq_map, List.map_cons, List.map_map, T.pairs, ih]
      refine congr (congrArg _ ?_) (List.map_congr_left fun x _ => ?_)
      · simp [el]
      · simp only [el, Function.comp]
        rw [show 2 * (x + 1) = 2 * x + 1 + 1 from by omega, show 2 * x + 1 + 1 + 1 = (2 * x + 1) + 1 + 1 from rfl]
        simp only [List.getD_cons_succ]
    | [x], h => simp at h; omega
    | [], h => simp at h
theorem ri_el {p : Option Addr} {n0 b o m : Nat} {K : List Int} {W : World} (h : RI p n0 K W) (hK : K.length = 2 * m) (hp : 0 < m → p = some ⟨b, o, none⟩) {x : Nat} (hx : x < m) :
    W.cell? ⟨b, o + 2 * x, none⟩ = some (.int .i64 (el K x).1) ∧ W.cell? ⟨b, o + 2 * x + 1, none⟩ = some (.int .i64 (el K x).2) := by
  have hpp := hp (by omega)
  subst hpp
  obtain ⟨b1, o1, e1, _, c1⟩ := h (2 * x) _ (List.getElem?_eq_getElem (by omega))
  obtain ⟨b2, o2, e2, _, c2⟩ := h (2 * x + 1) _ (List.getElem?_eq_getElem (by omega))
  cases e1; cases e2
  refine ⟨?_, ?_⟩
  · rw [c1]; simp [el, List.getD_eq_getElem?_getD, List.getElem?_eq_getElem (show 2 * x < K.length by omega)]
  · rw [show o + 2 * x + 1 = o + (2 * x + 1) from by omega, c2]; simp [el, List.getD_eq_getElem?_getD, List.getElem?_eq_getElem (show 2 * x + 1 < K.length by omega)]
/-- what is known before a round -/
def Inv (w : World) (K : List Int) (m : Nat) (pre : List (Fin m)) (W : World) : Prop :=
  ∃ vl, W.cell? ⟨w.heap.size, 0, none⟩ = some vl ∧ W.frozen? ⟨w.heap.size, 0, none⟩ = false ∧ OS W (w.heap.size + 3) vl (pre.map fun x => el K x.val) ∧ Below w.heap.size w W ∧ w.heap.size + 3 ≤ W.heap.size
theorem row_cells {w : World} {base : Nat} {v : Value} {l : Sp} (h : OS w base v l) {j : Nat} {o : Obj} (hj : v.ownBlock = some j) (ho : w.heap[j]? = some o) : o.isCells = true := by
  rcases h.2 with ⟨rfl, _⟩ | ⟨g, cap, cur, rfl, _, hg, _⟩
  · simp [Value.ownBlock] at hj
  · simp [Value.ownBlock] at hj
    subst hj
    rw [hg] at ho
    cases ho
    rfl
theorem inv_own (w : World) (K : List Int) (m B : Nat) (hB : w.heap.size ≤ B) : OwnFrom B (Inv w K m) := by
  rintro s W W' row ⟨vl, h1, h2, h3, h4, h5⟩ hg hr
  have hg0 := hr
  refine ⟨vl, cell_kept h1 hg (fun r e => (hr r e).2), (frozen_kept h1 hg (fun r e => (hr r e).2)).trans h2, World.ownsRow.kept h3 hg ?_, h4.grown hg (Nat.le_trans h4.size (Nat.le_refl _) |> fun h => h) (fun k hk => Nat.le_trans hB (hr k hk).1), Nat.le_trans h5 hg.size⟩
  cases hv : vl.ownBlock with
  | none => exact .inl rfl
  | some k =>
    refine .inr (fun e => ?_)
    obtain ⟨_, o, ho, hc⟩ := hr k e.symm
    have := row_cells h3 hv ho
    rw [hc] at this
    cases this
end Go.Proofs.Ytnbhihjhpomenaa

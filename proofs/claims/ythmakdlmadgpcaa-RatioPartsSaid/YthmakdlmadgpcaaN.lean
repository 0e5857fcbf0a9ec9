/- checkWeighted. -/
import Derived.Test.YthmakdlmadgpcaaM
namespace Go.Proofs.Ythmakdlmadgpcaa
open Go.RowKit Go Go.Shelf
set_option linter.unusedVariables false
set_option linter.unusedSimpArgs false
attribute [local go_sem] Oper.semAt_some
/-- a value and its weight are within the limits -/
def good (x y : Int) : Prop := x.natAbs ≤ 1048576 ∧ 0 ≤ y ∧ y ≤ 1048576
instance (x y : Int) : Decidable (good x y) := inferInstanceAs (Decidable (_ ∧ _ ∧ _))
def gd (xs ys : List Int) (j : Nat) : Prop := good (xs.getD j 0) (ys.getD j 0)
instance (xs ys : List Int) (j : Nat) : Decidable (gd xs ys j) := inferInstanceAs (Decidable (good _ _))
def goods (xs ys : List Int) : Prop := ∀ j, j < xs.length → gd xs ys j
instance (xs ys : List Int) : Decidable (goods xs ys) := inferInstanceAs (Decidable (∀ j, j < xs.length → gd xs ys j))
/-- the error of values and weights -/
def wchk (xs ys : List Int) : Int := if xs.length = ys.length ∧ goods xs ys then (if 1048576 < xs.length then 2 else 0) else 1
theorem getD_i64 {xs : List Int} (h : ∀ x ∈ xs, I64 x) (j : Nat) : I64 (xs.getD j 0) := by
  rw [List.getD_eq_getElem?_getD]
  cases hx : xs[j]? with
  | none => simp [I64]
  | some x => simpa using h x (List.mem_of_getElem? hx)
theorem cell_kept_l {W : World} {a : Addr} {v : Value} {D : Nat} {o : Obj} (h : W.cell? a = some v) (hK : W.heap[D]? = some o) (ho : o.isCells = false) (o' : Obj) : (W.putObj D o').cell? a = some v :=
  cell_kept h (grownBy_putObj' _ D o') (fun r e => by cases e; exact ⟨_, hK, ho⟩)
set_option maxRecDepth 100000 in
set_option maxHeartbeats 4000000 in
theorem cw_eq (p1 p2 : Option Addr) (c1 c2 len : Nat) (xs ys : List Int) (hx : Hid (∀ x ∈ xs, I64 x)) (hlx : Hid (len = xs.length)) (hly : Hid (len = ys.length)) (hm : len ≤ 9223372036854775807) (w : World) (hr1 : Hid (RD .i64 p1 w.heap.size xs w)) (hr2 : Hid (RD .i64 p2 w.heap.size ys w)) :
    Calls Try.prog 36 #[.slice p1 len c1, .slice p2 len c2] w fun e w' => e = .returned (.int .i64 (wchk xs ys)) ∧ Below w.heap.size w w' := by
  refine (callsIn_wide (n := 5)).1 ?_
  refine callsIn_of_wp_marks Try.func36 rfl trivial ?_ rfl
  simp only [Try.ntmps36, List.size_toArray, List.length_cons, List.length_nil, Nat.reduceAdd, Nat.reduceSub, Array.replicate_succ, Array.replicate_zero, List.push_toArray, List.append_toArray, List.nil_append, List.cons_append]
  gi_wp2_with (refine ⟨trivial, ?_⟩; gi_at_call 37; refine (pairs_in _ _ _ _ ⟨_, _, _, rfl⟩ ⟨_, _, _, rfl⟩).mono ?_; rintro e w' ⟨rfl, rfl⟩)
  have c0 := cell_new_l w (.int .i64 0) 25
  have d1 := cell_new_l (w.alloc (.cells #[.int .i64 0] 25)) (.slice p1 len c1) 34
  have d2 := cell_new_l ((w.alloc (.cells #[.int .i64 0] 25)).alloc (.cells #[.slice p1 len c1] 34)) (.slice p2 len c2) 34
  simp only [World.size_alloc] at d1 d2
  have hB0 : Below w.heap.size w (((w.alloc (.cells #[.int .i64 0] 25)).alloc (.cells #[.slice p1 len c1] 34)).alloc (.cells #[.slice p2 len c2] 34)) := (((Below.refl _ w).alloc (Nat.le_refl _) _).alloc (by simp) _).alloc (by simp; omega) _
  refine wpIn_rangeFunc_ownF rfl (by omega) (gf := 40) (lb := #[.pointer (some ⟨w.heap.size + 1, 0, none⟩), .pointer (some ⟨w.heap.size + 1 + 1, 0, none⟩)]) rfl trivial (enters_of Try.func40 (by kernel_rfl) rfl)
    (prs_stops _ (by omega) (w.heap.size + 1) (w.heap.size + 1 + 1) w.heap.size p1 p2 c1 c2 xs ys (by rw [← hlx.out, hly.out]) (by rw [← hlx.out]; exact hm) _ (by simp) (by simp) hB0.size
      (by rw [← hlx.out]; exact cell_alloc_l _ d1.1) (by rw [← hly.out]; exact d2.1) (hr1.out.up hB0) (hr2.out.up hB0)) kpD_t kpD_b (Below.refl _ _) (fun _ => rfl)
    (fun pre W => (W.cell? ⟨w.heap.size, 0, none⟩ = some (.int .i64 0) ∧ W.frozen? ⟨w.heap.size, 0, none⟩ = false ∧ Hid (∀ j ∈ pre, gd xs ys j)) ∧ Below w.heap.size w W)
    (fun c pre W => (c = .ret ∧ (∃ j ∈ pre, ¬ gd xs ys j) ∧ W.cell? ⟨w.heap.size, 0, none⟩ = some (.int .i64 1)) ∧ Below w.heap.size w W)
    (OwnFrom.and (Own.from (fun s A B row hs hg hr => ⟨cell_kept hs.1 hg hr, (frozen_kept hs.1 hg hr).trans hs.2.1, hs.2.2⟩) _) (ownFrom_below (Nat.le_refl _) (by simp; omega)))
    (fun c => OwnFrom.and (Own.from (fun s A B row hs hg hr => ⟨hs.1, hs.2.1, cell_kept hs.2.2 hg hr⟩) _) (ownFrom_below (Nat.le_refl _) (by simp; omega)))
    ⟨⟨cell_alloc_l _ (cell_alloc_l _ c0.1), frozen_alloc_l _ (cell_alloc_l _ c0.1) (frozen_alloc_l _ c0.1 c0.2), hid (by simp)⟩, hB0⟩
    (fun x => { tmps := #[.slice p1 len c1, .slice p2 len c2, undef, undef, .pointer (some ⟨w.heap.size, 0, none⟩), .int .i64 (xs.getD x 0), .int .i64 (ys.getD x 0), .slice p1 len c1, .int .i64 (len : Int), .slice p2 len c2, .int .i64 (len : Int), .bool false, .slice p1 len c1, .slice p2 len c2, .func (.func 40) #[] #[.pointer (some ⟨w.heap.size + 1, 0, none⟩), .pointer (some ⟨w.heap.size + 1 + 1, 0, none⟩)], .int .i64 (xs.getD x 0), .int .i64 (ys.getD x 0), undef, undef, undef, undef, undef, undef, undef, undef, undef, undef, undef, undef, undef, undef], defers := [] }) ?assign ?body ?done ?stop
  case assign =>
    intro l x W K hK
    gi_wp2
    gi_wp2
    exact hK
  case body =>
    rintro l pre x W ⟨⟨hc, hz, hg⟩, hB⟩ _
    have hix := getD_i64 hx.out x
    obtain ⟨X, hX⟩ : ∃ X, X = xs.getD x 0 := ⟨_, rfl⟩
    obtain ⟨Y, hY⟩ : ∃ Y, Y = ys.getD x 0 := ⟨_, rfl⟩
    rw [← hX] at hix
    rw [← hX, ← hY]
    have HIX := hid hix
    have hgx : (∀ j ∈ pre ++ [x], gd xs ys j) ↔ good X Y := by
      rw [hX, hY]
      show _ ↔ gd xs ys x
      constructor
      · intro h; exact h x (by simp)
      · intro h j hj
        rcases List.mem_append.1 hj with h1 | h1
        · exact hg.out j h1
        · simp at h1; subst h1; exact h
    have hbx : ¬ good X Y → ∃ j ∈ pre ++ [x], ¬ gd xs ys j := by
      rw [hX, hY]
      intro h; exact ⟨x, by simp, h⟩
    have HGX := hid hgx; have HBX := hid hbx
    clear hX hY hix hgx hbx hg c0 d1 d2 hB0
    rcases (by omega : (1048576 < X.natAbs) ∨ (X.natAbs ≤ 1048576 ∧ Y < 0) ∨ (X.natAbs ≤ 1048576 ∧ 0 ≤ Y ∧ 1048576 < Y) ∨ (X.natAbs ≤ 1048576 ∧ 0 ≤ Y ∧ Y ≤ 1048576)) with h | ⟨h, h'⟩ | ⟨h, h', h''⟩ | ⟨h, h', h''⟩
    · have hb := HBX.out (by unfold good; omega)
      have HB := hid hb
      clear hb
      gi_wp2_with (refine ⟨trivial, ?_⟩; gi_at_call 26; (with_reducible refine (CallsIn.inRound l (callsIn_wide.2 (size_any X HIX.out _))).mono ?_); rintro e w' ⟨rfl, rfl⟩)
      refine ⟨KeepsOthers.setCell _ _ _, ⟨rfl, HB.out, World.cell?_setCell_same' _ _ _ (by rw [hc]; rfl)⟩, hB.setCell (p := ⟨w.heap.size, 0, none⟩) (Nat.le_refl _) _⟩
    · have hb := HBX.out (by unfold good; omega)
      have HB := hid hb
      clear hb
      gi_wp2_with (refine ⟨trivial, ?_⟩; gi_at_call 26; (with_reducible refine (CallsIn.inRound l (callsIn_wide.2 (size_any X HIX.out _))).mono ?_); rintro e w' ⟨rfl, rfl⟩)
      refine ⟨KeepsOthers.setCell _ _ _, ⟨rfl, HB.out, World.cell?_setCell_same' _ _ _ (by rw [hc]; rfl)⟩, hB.setCell (p := ⟨w.heap.size, 0, none⟩) (Nat.le_refl _) _⟩
    · have hb := HBX.out (by unfold good; omega)
      have HB := hid hb
      clear hb
      gi_wp2_with (refine ⟨trivial, ?_⟩; gi_at_call 26; (with_reducible refine (CallsIn.inRound l (callsIn_wide.2 (size_any X HIX.out _))).mono ?_); rintro e w' ⟨rfl, rfl⟩)
      refine ⟨KeepsOthers.setCell _ _ _, ⟨rfl, HB.out, World.cell?_setCell_same' _ _ _ (by rw [hc]; rfl)⟩, hB.setCell (p := ⟨w.heap.size, 0, none⟩) (Nat.le_refl _) _⟩
    · have hb := HGX.out.2 ⟨h, h', h''⟩
      have HB := hid hb
      clear hb
      gi_wp2_with (refine ⟨trivial, ?_⟩; gi_at_call 26; (with_reducible refine (CallsIn.inRound l (callsIn_wide.2 (size_any X HIX.out _))).mono ?_); rintro e w' ⟨rfl, rfl⟩)
      exact ⟨KeepsOthers.refl _, ⟨fun _ _ _ e => e, fun _ e => e⟩, ⟨hc, hz, HB⟩, hB⟩
  case done =>
    rintro D zs W hD rfl ⟨⟨hc, hz, hg⟩, hB⟩ hK
    have hgg : goods xs ys := fun j hj => hg.out j (List.mem_range.2 hj)
    by_cases hlen : 1048576 < len
    · have hv : wchk xs ys = 2 := by unfold wchk; rw [if_pos ⟨by rw [← hlx.out, hly.out], hgg⟩, if_pos (by rw [← hlx.out]; exact hlen)]
      have HV := hid hv
      clear hv hg
      gi_wp2
      have hK' := (KeepsOthers.setCell W ⟨w.heap.size, 0, none⟩ (.int .i64 2)).same D _ hK rfl
      refine ⟨by simp, .inl ⟨_, _, rfl, run_takeDeferred hK', ?_⟩⟩
      have hc5 := cell_kept_l (World.cell?_setCell_same' W ⟨w.heap.size, 0, none⟩ (.int .i64 2) (by rw [hc]; rfl)) hK' rfl (.deferred none)
      refine ⟨.int .i64 2, ?_, by rw [HV.out], (hB.setCell (p := ⟨w.heap.size, 0, none⟩) (Nat.le_refl _) _).trans (belowK_b (w := w) (Nat.le_refl _) _ D _ _ (by simp at hD; omega) hK' rfl rfl)⟩
      simp [results, Try.results36, go_sem, hc5]
    · have hv : wchk xs ys = 0 := by unfold wchk; rw [if_pos ⟨by rw [← hlx.out, hly.out], hgg⟩, if_neg (by rw [← hlx.out]; exact hlen)]
      have HV := hid hv
      clear hv hg
      gi_wp2
      have hK' := (KeepsOthers.setCell W ⟨w.heap.size, 0, none⟩ (.int .i64 0)).same D _ hK rfl
      refine ⟨by simp, .inl ⟨_, _, rfl, run_takeDeferred hK', ?_⟩⟩
      have hc5 := cell_kept_l (World.cell?_setCell_same' W ⟨w.heap.size, 0, none⟩ (.int .i64 0) (by rw [hc]; rfl)) hK' rfl (.deferred none)
      refine ⟨.int .i64 0, ?_, by rw [HV.out], (hB.setCell (p := ⟨w.heap.size, 0, none⟩) (Nat.le_refl _) _).trans (belowK_b (w := w) (Nat.le_refl _) _ D _ _ (by simp at hD; omega) hK' rfl rfl)⟩
      simp [results, Try.results36, go_sem, hc5]
  case stop =>
    rintro D c pre W hD hpre ⟨⟨rfl, ⟨j, hj, hb⟩, hcr⟩, hB⟩ hK
    have hjl := List.mem_range.1 (hpre.subset hj)
    have hv : wchk xs ys = 1 := by unfold wchk; rw [if_neg]; rintro ⟨_, h⟩; exact hb (h j hjl)
    have HV := hid hv
    clear hv hjl
    gi_wp2
    refine ⟨by simp, .inl ⟨_, _, rfl, run_takeDeferred hK, ?_⟩⟩
    have hc5 := cell_kept_l hcr hK rfl (.deferred none)
    refine ⟨.int .i64 1, ?_, by rw [HV.out], hB.trans (belowK_b (w := w) (Nat.le_refl _) W D _ _ (by simp at hD; omega) hK rfl rfl)⟩
    simp [results, Try.results36, go_sem, hc5]
set_option maxRecDepth 100000 in
theorem cw_any (v1 v2 : Value) (xs ys : List Int) (hx : ∀ x ∈ xs, I64 x) (w : World) (hv1 : IS .i64 w v1 xs) (hv2 : IS .i64 w v2 ys) :
    Calls Try.prog 36 #[v1, v2] w fun e w' => e = .returned (.int .i64 (wchk xs ys)) ∧ Below w.heap.size w w' := by
  obtain ⟨p1, c1, rfl⟩ := hv1.form
  obtain ⟨p2, c2, rfl⟩ := hv2.form
  have hr1 := hv1.rd; have hr2 := hv2.rd
  have hm1 := hv1.len; have hm2 := hv2.len
  unfold maxLen at hm1 hm2
  by_cases hl : xs.length = ys.length
  · have h := cw_eq p1 p2 c1 c2 xs.length xs ys (hid hx) (hid rfl) (hid hl) (by omega) w (hid hr1) (hid hr2)
    rw [← hl]
    exact h
  · have hv : wchk xs ys = 1 := by unfold wchk; rw [if_neg]; rintro ⟨h, _⟩; exact hl h
    have HV := hid hv
    obtain ⟨l1, hl1⟩ : ∃ l1, l1 = xs.length := ⟨_, rfl⟩
    obtain ⟨l2, hl2⟩ : ∃ l2, l2 = ys.length := ⟨_, rfl⟩
    rw [← hl1] at hl hm1 ⊢; rw [← hl2] at hl hm2 ⊢
    have hne : ((l1 : Int) == (l2 : Int)) = false := by simp; omega
    clear hv hl1 hl2 hr1 hr2 hv1 hv2 hx
    go_enter Try.func36, Try.ntmps36
    go_wp2
    rw [HV.out]
    refine bodyPost_ret (v := .int .i64 1) (by simp [results, Try.results36, go_sem]) rfl ⟨rfl, (Below.refl _ w).alloc (Nat.le_refl _) _⟩
end Go.Proofs.Ythmakdlmadgpcaa

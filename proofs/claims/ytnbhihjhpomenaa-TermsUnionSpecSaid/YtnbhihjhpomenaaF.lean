/- Contract: between. -/
import Derived.Test.YtnbhihjhpomenaaE
namespace Go.Proofs.Ytnbhihjhpomenaa
open Go.RowKit Go Go.Shelf
set_option linter.unusedVariables false
set_option linter.unusedSimpArgs false
attribute [local go_sem] Oper.semAt_some
theorem cell_up3 {w w' : World} {r : Option Nat} {a : Addr} {v : Value} (hg : w.grownBy w' r) (h : w.cell? a = some v) (hne : ∀ k, r = some k → a.block ≠ k) : w'.cell? a = some v ∧ w'.frozen? a = w.frozen? a := by
  have hlt : a.block < w.heap.size := by
    rcases Nat.lt_or_ge a.block w.heap.size with hh | hh
    · exact hh
    · simp [World.cell?, Array.getElem?_eq_none hh] at h
  have hb := hg.block a.block hlt (fun e => hne _ e.symm rfl)
  refine ⟨?_, ?_⟩
  · simp only [World.cell?] at h ⊢; rw [hb]; exact h
  · simp only [World.frozen?]; rw [hb]
theorem cell_set_other {W : World} {B : Nat} {a : Addr} {v : Value} (u : Value) (h : W.cell? a = some v) (hne : a.block ≠ B) : (W.setCell ⟨B, 0, none⟩ u).cell? a = some v := by
  rw [← h]
  exact World.cell?_setCell_other _ _ _ _ (by rintro rfl; exact hne rfl)
theorem grown_set (W : World) (B : Nat) (u : Value) : W.grownBy (W.setCell ⟨B, 0, none⟩ u) (some B) := by
  refine ⟨rfl, rfl, rfl, by rw [World.size_setCell]; exact Nat.le_refl _, fun k _ hk => ?_⟩
  rw [Go.Sort.setCell_eq]
  simp only [Go.Sort.mapBlock]
  rw [Array.getElem?_modify, if_neg (fun e => hk (by rw [e]))]
set_option maxRecDepth 100000 in
set_option maxHeartbeats 4000000 in
/-- one round's end -/
theorem inv_next {w W W3 : World} {K : List Int} {m : Nat} {pre : List (Fin m)} {x : Fin m} {vl : Value} {g cap k : Nat} (h1 : W.cell? ⟨w.heap.size, 0, none⟩ = some vl) (h2 : W.frozen? ⟨w.heap.size, 0, none⟩ = false)
    (h3 : OS W (w.heap.size + 3) vl (pre.map fun x => el K x.val)) (h4 : Below w.heap.size w W) (h5 : w.heap.size + 3 ≤ W.heap.size) (X Y : Int) (hXY : el K x.val = (X, Y))
    (g1 : OS W3 (w.heap.size + 3) (.slice (some ⟨g, 0, none⟩) k cap) ((pre.map fun x => el K x.val) ++ [(X, Y)])) (g2 : (W.drew.alloc (.cells #[.int .i64 X, .int .i64 Y] 35)).grownBy W3 vl.ownBlock) :
    W3.cell? ⟨w.heap.size, 0, none⟩ = some vl ∧ W3.frozen? ⟨w.heap.size, 0, none⟩ = false ∧ KeepsOthers W (W3.setCell ⟨w.heap.size, 0, none⟩ (.slice (some ⟨g, 0, none⟩) k cap)) ∧
      KpD w.heap.size (w.heap.size + 1) (w.heap.size + 1 + 1) W (W3.setCell ⟨w.heap.size, 0, none⟩ (.slice (some ⟨g, 0, none⟩) k cap)) ∧ Inv w K m (pre ++ [x]) (W3.setCell ⟨w.heap.size, 0, none⟩ (.slice (some ⟨g, 0, none⟩) k cap)) := by
  have hown : ∀ j, vl.ownBlock = some j → w.heap.size + 3 ≤ j := fun j hj => (World.ownsRow.lt h3 j hj).1
  have up : ∀ (a : Addr) (v : Value), W.cell? a = some v → a.block < w.heap.size + 3 → W3.cell? a = some v ∧ W3.frozen? a = W.frozen? a := by
    intro a v hc hlt
    have hc2 : W.drew.cell? a = some v := hc
    have hc1 := cell_alloc_l (.cells #[.int .i64 X, .int .i64 Y] 35) hc2
    obtain ⟨k1, k2⟩ := cell_up3 g2 hc1 (fun j hj => by have := hown j hj; omega)
    refine ⟨k1, k2.trans ?_⟩
    exact (((Below.refl _ W.drew).alloc (Nat.le_refl _) _).frozen (p := a) (by show a.block < W.heap.size; omega))
  obtain ⟨c3, f3⟩ := up _ _ h1 (by show w.heap.size < _; omega)
  have hsz : W.heap.size + 1 ≤ W3.heap.size := by have := g2.size; simpa using this
  refine ⟨c3, f3.trans h2, ?_, ⟨fun a v ha hc => ?_, fun v hc => ?_, fun v hc => ?_⟩, ?_⟩
  · exact (((KeepsOthers.drew W).trans (KeepsOthers.alloc W.drew _)).trans (KeepsOthers.of_grownBy g2 (fun j o hj ho => by
      have h3' : OS (W.drew.alloc (.cells #[.int .i64 X, .int .i64 Y] 35)) (w.heap.size + 3) vl (pre.map fun x => el K x.val) := (h3.ups (Below.drew (Below.refl _ _))).alloc _
      exact row_cells h3' hj ho))).trans (KeepsOthers.setCell _ _ _)
  · exact cell_set_other _ (up a v hc (by omega)).1 (by omega)
  · exact cell_set_other _ (up _ v hc (by show w.heap.size + 1 < _; omega)).1 (by show w.heap.size + 1 ≠ _; omega)
  · exact cell_set_other _ (up _ v hc (by show w.heap.size + 1 + 1 < _; omega)).1 (by show w.heap.size + 1 + 1 ≠ _; omega)
  · refine ⟨_, World.cell?_setCell_same' _ _ _ (by rw [c3]; rfl), ?_, ?_, ?_, ?_⟩
    · have : ∀ (a b : Addr) (u : Value), (W3.setCell a u).frozen? b = W3.frozen? b := fun a b u => World.frozen?_setCell _ _ _ _
      rw [this]; exact f3.trans h2
    · rw [List.map_append, List.map_cons, List.map_nil, hXY]
      refine World.ownsRow.kept g1 (grown_set W3 w.heap.size _) (.inr ?_)
      intro e
      have := (World.ownsRow.lt g1 w.heap.size e).1
      omega
    · have b1 : Below w.heap.size w W3 := (h4.drew.alloc (by show w.heap.size ≤ W.heap.size; omega) _).grown g2 (by simp; omega) (fun j hj => by have := hown j hj; omega)
      exact b1.setCell (p := ⟨w.heap.size, 0, none⟩) (Nat.le_refl _) _
    · rw [World.size_setCell]; omega
set_option maxRecDepth 100000 in
set_option maxHeartbeats 4000000 in
theorem between_any (K : List Int) (m : Nat) (hK : K.length = 2 * m) (hm : m ≤ 5000) (v : Value) (w : World) (hv : IS w v K) :
    Calls Try.prog 35 #[v] w fun e w' => ∃ u, e = .returned u ∧ SS w' u (T.pairs K) ∧ Below w.heap.size w w' := by
  obtain ⟨p, c, hvf, hcap, hc63⟩ : ∃ p c, v = .slice p (2 * m) c ∧ 2 * m ≤ c ∧ c ≤ 9223372036854775807 := by
    rcases hv with ⟨rfl, rfl⟩ | ⟨a, cap, rfl, h1, h2, _⟩
    · exact ⟨none, 0, by simp at hK; rw [← hK], by simp at hK; omega, by simp⟩
    · exact ⟨some a, cap, by rw [hK], by omega, by unfold maxLen at h2; omega⟩
  subst hvf
  have hri := hv.ri
  obtain ⟨b, o, hp⟩ : ∃ b o, 0 < m → p = some ⟨b, o, none⟩ := by
    by_cases h : 0 < m
    · obtain ⟨b, o, h1, _⟩ := hri 0 K[0] (List.getElem?_eq_getElem (by omega))
      exact ⟨b, o, fun _ => h1⟩
    · exact ⟨0, 0, fun h2 => absurd h2 h⟩
  have HRI := hid hri; have HP := hid hp; have HK := hid hK
  clear hri hp hK hv
  refine (callsIn_wide (n := 5)).1 ?_
  refine callsIn_of_wp_marks Try.func35 rfl trivial ?_ rfl
  simp only [Try.ntmps35, List.size_toArray, List.length_cons, List.length_nil, Nat.reduceAdd, Nat.reduceSub, Array.replicate_succ, Array.replicate_zero, List.push_toArray, List.append_toArray, List.nil_append, List.cons_append]
  gi_wp2_with (refine ⟨trivial, ?_⟩; gi_at_call 40; refine (chunk_in _ _ _ ⟨_, _, _, rfl⟩).mono ?_; rintro e w' ⟨rfl, rfl⟩)
  have c0 := cell_new_l w (.slice none 0 0) 22
  have d1 := cell_new_l (w.alloc (.cells #[.slice none 0 0] 22)) (.slice p (2 * m) c) 42
  have d2 := cell_new_l ((w.alloc (.cells #[.slice none 0 0] 22)).alloc (.cells #[.slice p (2 * m) c] 42)) (.int .i64 2) 3
  simp only [World.size_alloc] at d1 d2
  have hB0 : Below w.heap.size w (((w.alloc (.cells #[.slice none 0 0] 22)).alloc (.cells #[.slice p (2 * m) c] 42)).alloc (.cells #[.int .i64 2] 3)) := (((Below.refl _ w).alloc (Nat.le_refl _) _).alloc (by simp) _).alloc (by simp; omega) _
  refine wpIn_rangeFunc_ownF rfl (by omega) (gf := 46) (lb := #[.pointer (some ⟨w.heap.size + 1, 0, none⟩), .pointer (some ⟨w.heap.size + 1 + 1, 0, none⟩)]) rfl trivial (enters_of Try.func46 (by kernel_rfl) rfl)
    (prs_stops _ (by omega) (w.heap.size + 1) (w.heap.size + 1 + 1) w.heap.size p b o c m HP.out hcap hc63 _ (by simp) (by simp) (cell_alloc_l _ d1.1) d2.1) kpD_t kpD_b (Below.refl _ _) (fun _ => rfl)
    (fun pre W => Inv w K m pre W) (fun c pre W => False) (inv_own w K m _ (by simp; omega)) (fun c s W W' row h => h.elim)
    ⟨_, cell_alloc_l _ (cell_alloc_l _ c0.1), frozen_alloc_l _ (cell_alloc_l _ c0.1) (frozen_alloc_l _ c0.1 c0.2), os_nil _ _, hB0, by simp⟩
    (fun x => { tmps := #[.slice p (2 * m) c, undef, .slice none 0 0, .pointer (some ⟨w.heap.size, 0, none⟩), .slice (some ⟨b, o + 2 * x.val, none⟩) 2 2, .slice p (2 * m) c, .func (.func 46) #[] #[.pointer (some ⟨w.heap.size + 1, 0, none⟩), .pointer (some ⟨w.heap.size + 1 + 1, 0, none⟩)], .slice (some ⟨b, o + 2 * x.val, none⟩) 2 2, undef, undef, undef, undef, undef, undef, undef, undef, undef, undef, undef], defers := [] }) ?assign ?body ?done ?stop
  case assign =>
    intro l x W K hK
    gi_wp2
    gi_wp2
    exact hK
  case body =>
    rintro l pre x W ⟨vl, h1, h2, h3, h4, h5⟩ hlen
    obtain ⟨X, Y, hXY⟩ : ∃ X Y, el K x.val = (X, Y) := ⟨_, _, rfl⟩
    obtain ⟨r1, r2⟩ := ri_el (HRI.out.up h4) HK.out HP.out x.isLt
    rw [hXY] at r1 r2
    obtain ⟨g, cap, W3, happ, g1, g2⟩ := apps_new (w := W.drew) (h3.ups (Below.drew (Below.refl _ _))) X Y (by rw [List.length_map]; omega) (by show w.heap.size + 3 ≤ W.heap.size; exact h5)
    obtain ⟨k1, k2, k3, k4, k5⟩ := inv_next h1 h2 h3 h4 h5 X Y hXY g1 g2
    clear c0 d1 d2 hB0
    gi_wp2
    exact reg4 h1 r1 r2 (cell_alloc_l _ h1) happ k1 k2 ⟨k3, k4, k5⟩
  case done =>
    rintro D zs W hD hz ⟨vl, h1, h2, h3, h4, h5⟩ hK
    clear c0 d1 d2 hB0
    have hzs : (zs.map fun x => el K x.val) = T.pairs K := by
      rw [pairs_el m K HK.out, ← hz, List.map_map]
      rfl
    have hI := inv_own w K m w.heap.size (Nat.le_refl _) zs W (W.putObj D (.deferred none)) (some D) ⟨vl, h1, h2, h3, h4, h5⟩ (grownBy_putObj' W D _) (fun r e => by cases e; exact ⟨by simp at hD; omega, _, hK, rfl⟩)
    obtain ⟨vl', q1, q2, q3, q4, q5⟩ := hI
    have e1 := cell_kept_l h1 hK rfl (.deferred none)
    rw [e1] at q1
    obtain rfl : vl = vl' := by simpa using q1
    rw [hzs] at q3
    have Q3 := hid q3; have Q4 := hid q4
    clear q1 q2 q3 q4 q5 e1 hzs h2 h3 h4 h5 hz
    gi_wp2
    refine ⟨by simp, .inl ⟨_, _, rfl, run_takeDeferred hK, ?_⟩⟩
    refine ⟨vl, ?_, vl, rfl, Q3.out.ss, Q4.out⟩
    simp [results, Try.results35, go_sem]
  case stop => exact fun D c pre W _ _ h => h.elim
end Go.Proofs.Ytnbhihjhpomenaa

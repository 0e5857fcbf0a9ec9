/- The examples of the law's chapter: they hold. -/
import Derived.Test.YtilnecckgjjcgaaDoorRef
namespace Go.Proofs.YtilnecckgjjcgaaDoor
open Go.RowKit Go
set_option linter.unusedVariables false
set_option linter.unusedSimpArgs false
theorem is_ok (c : Int) (w : World) : Calls Tryd.prog 56 #[.int .i64 c, .int .i64 0, .int .i64 c] w fun e w' => e = .returned (.bool true) ∧ w = w' := by
  have hc : (c == c) = true := by simp
  go_enter Tryd.func56, Tryd.ntmps56
  go_wp2
  go_ret
  exact ⟨rfl, rfl⟩
theorem pz_c {c d e : Int} (h : c = d) : pz c e = pz d e := by rw [h]
theorem Mul_44 (w : World) : Calls Tryd.prog 53 #[.int .i64 4, .int .i64 4] w fun e w' => e = pz 16 0 ∧ Below w.heap.size w w' :=
  (Mul_ok 4 4 el4 el4 w).mono fun e w' ⟨h, b⟩ => ⟨h.trans (pz_c (by decide)), b⟩
theorem Base_3 (w : World) : Calls Tryd.prog 31 #[.int .i64 3] w fun e w' => e = pz 64 0 ∧ Below w.heap.size w w' :=
  (Base_ok 3 (Lib.hid (by unfold Sc; omega)) w).mono fun e w' ⟨h, b⟩ => ⟨h.trans (pz_c (by decide +kernel)), b⟩
theorem Exp_m (w : World) : Calls Tryd.prog 54 #[.int .i64 4, .int .i64 (-1)] w fun e w' => e = pz 0 1 ∧ Below w.heap.size w w' :=
  Exp_arg 4 (-1) el4 (Lib.hid (fun n h => by omega)) w
theorem Exp_q (w : World) : Calls Tryd.prog 54 #[.int .i64 4, .int .i64 2305843009213688669] w fun e w' => e = pz 0 1 ∧ Below w.heap.size w w' :=
  Exp_arg 4 2305843009213688669 el4 (Lib.hid (fun n h => by unfold Sc; omega)) w
theorem Inv_4 (w : World) : Calls Tryd.prog 55 #[.int .i64 4] w fun e w' => e = pz 1152921504606844335 0 ∧ Below w.heap.size w w' :=
  (Inv_ok 4 el4 w).mono fun e w' ⟨h, b⟩ => ⟨h.trans (pz_c (by decide +kernel)), b⟩
theorem Sum_q2 (w : World) : Calls Tryd.prog 25 #[.int .i64 2305843009213688668, .int .i64 2] w fun e w' => e = pz 1 0 ∧ Below w.heap.size w w' :=
  (Sum_ok 2305843009213688668 2 scQ1 (Lib.hid (by unfold Sc; omega)) w).mono fun e w' ⟨h, b⟩ => ⟨h.trans (pz_c (by decide)), b⟩
theorem Product_qq (w : World) : Calls Tryd.prog 27 #[.int .i64 2305843009213688668, .int .i64 2305843009213688668] w fun e w' => e = pz 1 0 ∧ Below w.heap.size w w' :=
  (Product_ok 2305843009213688668 2305843009213688668 scQ1 scQ1 w).mono fun e w' ⟨h, b⟩ => ⟨h.trans (pz_c (by decide)), b⟩
theorem Sum_q0 (w : World) : Calls Tryd.prog 25 #[.int .i64 2305843009213688669, .int .i64 0] w fun e w' => e = pz 0 1 ∧ Below w.heap.size w w' :=
  Sum_arg 2305843009213688669 0 (Lib.hid (by decide)) w
/-- five numbers that are no elements -/
def five : List Int := [0, 4611686018427377339, 4611686018427377338, 2, -4]
theorem ne_nat (a : Nat) (h : mp 4611686018427377339 a 2305843009213688669 ≠ 1) : Ne (a : Int) := fun n e hn => by
  obtain rfl : a = n := by omega
  exact h hn.2.2
theorem five_ne (m : Nat) (v : Int) (h : five[m]? = some v) : Ne v := by
  unfold five at h
  rcases m with _ | _ | _ | _ | _ | m
  · simp at h; subst h; exact fun n e hn => by have := hn.1; omega
  · simp at h; subst h; exact fun n e hn => by have := hn.2.1; omega
  · simp at h; subst h; exact ne_nat 4611686018427377338 (by decide +kernel)
  · simp at h; subst h; exact ne_nat 2 (by decide +kernel)
  · simp at h; subst h; exact fun n e hn => by omega
  · simp at h
theorem el1 : Hid (El 1) := Lib.hid ⟨by decide, by decide, by decide +kernel⟩
theorem el16 : Hid (El 16) := Lib.hid ⟨by decide, by decide, by decide +kernel⟩
theorem below_tr {A B C : World} {n : Nat} (h : Below n A B) (k : Below B.heap.size B C) (hn : n ≤ A.heap.size := by omega) : Below n A C := h.trans (k.mono (Nat.le_trans hn h.size))

set_option maxRecDepth 100000 in
set_option maxHeartbeats 2000000 in
theorem sane_any (w : World) : Calls Tryd.prog 24 #[] w fun e w' => e = .returned (.bool true) ∧ Below w.heap.size w w' := by
  go_enter Tryd.func24, Tryd.ntmps24
  go_wp2_with fail
  refine (Mul_44 _).mono ?_
  unfold pz
  rintro e w1 ⟨rfl, h1⟩
  go_wp2_with fail
  refine (Base_3 _).mono ?_
  unfold pz
  rintro e w2 ⟨rfl, h2⟩
  have b2 := below_tr h1 h2
  go_wp2_with fail
  refine (Exp_m _).mono ?_
  unfold pz
  rintro e w3 ⟨rfl, h3⟩
  have b3 := below_tr b2 h3
  go_wp2_with fail
  refine (Exp_q _).mono ?_
  unfold pz
  rintro e w4 ⟨rfl, h4⟩
  have b4 := below_tr b3 h4
  go_wp2_with fail
  refine (Inv_4 _).mono ?_
  unfold pz
  rintro e w5 ⟨rfl, h5⟩
  have b5 := below_tr b4 h5
  go_wp2_with fail
  refine (Sum_q2 _).mono ?_
  unfold pz
  rintro e w6 ⟨rfl, h6⟩
  have b6 := below_tr b5 h6
  go_wp2_with fail
  refine (Product_qq _).mono ?_
  unfold pz
  rintro e w7 ⟨rfl, h7⟩
  have b7 := below_tr b6 h7
  go_wp2_with fail
  refine (Sum_q0 _).mono ?_
  unfold pz
  rintro e w8 ⟨rfl, h8⟩
  have b8 := below_tr b7 h8
  clear h1 h2 h3 h4 h5 h6 h7 h8 b2 b3 b4 b5 b6 b7
  go_wp2_with fail
  have hcells : ∀ m v, five[m]? = some v → (w8.alloc (.cells #[.int .i64 0, .int .i64 4611686018427377339, .int .i64 4611686018427377338, .int .i64 2, .int .i64 (-4)] 3)).cell? ⟨w8.heap.size, m, none⟩ = some (.int .i64 v) := by
    intro m v h
    unfold five at h
    rcases m with _ | _ | _ | _ | _ | m
    · simp at h; subst h; simp [go_sem]
    · simp at h; subst h; simp [go_sem]
    · simp at h; subst h; simp [go_sem]
    · simp at h; subst h; simp [go_sem]
    · simp at h; subst h; simp [go_sem]
    · simp at h
  have hbW : Below w.heap.size w (w8.alloc (.cells #[.int .i64 0, .int .i64 4611686018427377339, .int .i64 4611686018427377338, .int .i64 2, .int .i64 (-4)] 3)) := b8.alloc b8.size _
  have hgs : w8.heap.size < (w8.alloc (.cells #[.int .i64 0, .int .i64 4611686018427377339, .int .i64 4611686018427377338, .int .i64 2, .int .i64 (-4)] 3)).heap.size := by simp
  generalize w8.alloc (.cells #[.int .i64 0, .int .i64 4611686018427377339, .int .i64 4611686018427377338, .int .i64 2, .int .i64 (-4)] 3) = W at *
  generalize w8.heap.size = g at *
  have HC := Lib.hid hcells; clear hcells b8
  go_loopw [53] (fun i wr => ∃ m : Nat, m ≤ 5 ∧ i = .int .i64 (m : Int) ∧ Below W.heap.size W wr) (fun i _ => 5 - (RowKit.intOf i).toNat)
  case atStart => exact ⟨0, by omega, rfl, Below.refl _ _⟩
  case round =>
    obtain ⟨m, hm, rfl, hbr⟩ := hrel
    by_cases hlt : m < 5
    · obtain ⟨v, hv⟩ : ∃ v, five[m]? = some v := ⟨five[m]'(by simpa [five] using hlt), List.getElem?_eq_getElem _⟩
      have hcell : wr.cell? ⟨g, m, none⟩ = some (.int .i64 v) := (hbr.cell (p := ⟨g, m, none⟩) hgs).trans (HC.out m v hv)
      have HN := Lib.hid (five_ne m v hv); clear hv
      go_wp2_with fail
      refine (Check_bad v HN _).mono ?_
      rintro e wn ⟨rfl, hn⟩
      have hbn := below_tr hbr hn (Nat.le_refl _)
      go_wp2
      go_roundw
      case rel => exact ⟨m + 1, by omega, rfl, hbn⟩
      case measure => simp [RowKit.intOf]; omega
    · obtain rfl : m = 5 := by omega
      have hbr' : Below w.heap.size w wr := hbW.trans (hbr.mono hbW.size)
      go_wp2_with fail
      refine (is_ok _ _).mono ?_
      rintro e u1 ⟨rfl, rfl⟩
      go_wp2_with fail
      refine (is_ok _ _).mono ?_
      rintro e u1 ⟨rfl, rfl⟩
      go_wp2_with fail
      refine (is_ok _ _).mono ?_
      rintro e u1 ⟨rfl, rfl⟩
      go_wp2_with fail
      refine (is_ok _ _).mono ?_
      rintro e u1 ⟨rfl, rfl⟩
      go_wp2_with fail
      refine (is_ok _ _).mono ?_
      rintro e u1 ⟨rfl, rfl⟩
      go_wp2_with fail
      refine (Check_ok 1 el1 _).mono ?_
      rintro e u1 ⟨rfl, g1⟩
      have c1 := below_tr hbr' g1
      go_wp2_with fail
      refine (Check_ok 4 el4 _).mono ?_
      rintro e u2 ⟨rfl, g2⟩
      have c2 := below_tr c1 g2
      go_wp2_with fail
      refine (Check_ok 16 el16 _).mono ?_
      rintro e u3 ⟨rfl, g3⟩
      have c3 := below_tr c2 g3
      go_wp2
      go_ret
      exact ⟨rfl, c3⟩
end Go.Proofs.YtilnecckgjjcgaaDoor

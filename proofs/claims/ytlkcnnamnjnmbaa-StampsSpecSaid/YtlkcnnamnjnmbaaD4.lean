/- Contracts: Known, Of; the reference's Known and Of. -/
import Derived.Test.YtlkcnnamnjnmbaaD1
import Derived.Test.YtlkcnnamnjnmbaaD2
import Derived.Test.YtlkcnnamnjnmbaaD3
import Derived.BigQuiet
namespace Go.Proofs.Ytlkcnnamnjnmbaa
open Go.RowKit Go
set_option linter.unusedVariables false
set_option linter.unusedSimpArgs false
theorem below_dN {w : World} (q : Nat) : Below w.heap.size w (w.drewN q) := ⟨rfl, rfl, rfl, Nat.le_refl _, fun _ _ => rfl⟩
theorem chk_eq (s : St) : S8.chk s = 0 ∧ S8.ok s ∨ S8.chk s = 80 ∧ ¬ S8.ok s := by
  by_cases h : S8.ok s
  · exact .inl ⟨if_pos h, h⟩
  · exact .inr ⟨if_neg h, h⟩
set_option maxRecDepth 100000 in
set_option maxHeartbeats 4000000 in
theorem Known_any (s : St) (w : World) : Calls Try.prog 11 #[KV s] w fun e w' => e = .returned (.tuple #[.int .i64 (S8.knw s), .int .i64 (S8.chk s)]) ∧ Below w.heap.size w w' := by
  have HC := hid (fun W => Check_any s W)
  have HX := hid (chk_eq s)
  have HK := hid (show S8.ok s → S8.knw s = 8 * s.1 + s.2.1 from fun h => if_pos h)
  have HK2 := hid (show ¬ S8.ok s → S8.knw s = 0 from fun h => if_neg h)
  have HO := hid (show S8.ok s → 1 ≤ s.1 ∧ s.1 ≤ 1048576 ∧ 0 ≤ s.2.1 ∧ s.2.1 ≤ 6 from fun h => ⟨h.1, h.2.1, h.2.2.1, h.2.2.2.1⟩)
  obtain ⟨a, b, c⟩ := s
  have HB := hid ((Below.refl _ w).alloc (Nat.le_refl _) (.cells #[.int .i64 a, .int .i64 b, .int .i64 c] 23))
  have q0 := cell_lit w #[.int .i64 a, .int .i64 b, .int .i64 c] 23 0 _ rfl
  have q1 := cell_lit w #[.int .i64 a, .int .i64 b, .int .i64 c] 23 1 _ rfl
  obtain ⟨z, hz⟩ : ∃ z, z = S8.chk (a, b, c) := ⟨_, rfl⟩
  obtain ⟨y, hy⟩ : ∃ z, z = S8.knw (a, b, c) := ⟨_, rfl⟩
  rw [← hz] at HC HX ⊢
  rw [← hy] at HK HK2 ⊢
  clear hz hy
  simp only at HK HO
  rcases HX.out with ⟨hz, ho⟩ | ⟨hz, ho⟩
  · have h1 := HK.out ho
    obtain ⟨o1, o2, o3, o4⟩ := HO.out ho
    clear HX HK HK2 HO ho
    subst hz
    have e1 : a * 8 + b = y := by omega
    clear h1
    go_enter Try.func11, Try.ntmps11
    go_wp2_with fail
    refine (HC.out _).mono ?_
    rintro e wn ⟨rfl, hb⟩
    have HB2 := hid (below_t HB.out hb)
    have r0 := (hb.cell (p := ⟨w.heap.size, 0, none⟩) (by simp)).trans q0
    have r1 := (hb.cell (p := ⟨w.heap.size, 1, none⟩) (by simp)).trans q1
    clear hb q0 q1
    go_wp2
    exact bodyPost_ret (v := .tuple #[.int .i64 y, .int .i64 0]) (by simp [results, Try.results11, go_sem]) rfl ⟨rfl, HB2.out⟩
  · have h1 := HK2.out ho
    clear HX HK HK2 HO ho q0 q1
    subst hz
    subst h1
    go_enter Try.func11, Try.ntmps11
    go_wp2_with fail
    refine (HC.out _).mono ?_
    rintro e wn ⟨rfl, hb⟩
    have HB2 := hid (below_t HB.out hb)
    clear hb
    go_wp2
    exact bodyPost_ret (v := .tuple #[.int .i64 0, .int .i64 80]) (by simp [results, Try.results11, go_sem]) rfl ⟨rfl, HB2.out⟩
set_option maxRecDepth 100000 in
set_option maxHeartbeats 4000000 in
theorem rKnown_any (s : St) (w : World) : Calls Try.prog 12 #[KV s] w fun e w' => e = .returned (.tuple #[.int .i64 (S8.knw s), .int .i64 (S8.chk s)]) ∧ Below w.heap.size w w' := by
  have HC := hid (fun W => rCheck_any s W)
  have HX := hid (chk_eq s)
  have HK := hid (show S8.ok s → S8.knw s = 8 * s.1 + s.2.1 from fun h => if_pos h)
  have HK2 := hid (show ¬ S8.ok s → S8.knw s = 0 from fun h => if_neg h)
  have HO := hid (show S8.ok s → 1 ≤ s.1 ∧ s.1 ≤ 1048576 ∧ 0 ≤ s.2.1 ∧ s.2.1 ≤ 6 from fun h => ⟨h.1, h.2.1, h.2.2.1, h.2.2.2.1⟩)
  obtain ⟨a, b, c⟩ := s
  have HB := hid ((Below.refl _ w).alloc (Nat.le_refl _) (.cells #[.int .i64 a, .int .i64 b, .int .i64 c] 23))
  have q0 := cell_lit w #[.int .i64 a, .int .i64 b, .int .i64 c] 23 0 _ rfl
  have q1 := cell_lit w #[.int .i64 a, .int .i64 b, .int .i64 c] 23 1 _ rfl
  obtain ⟨z, hz⟩ : ∃ z, z = S8.chk (a, b, c) := ⟨_, rfl⟩
  obtain ⟨y, hy⟩ : ∃ z, z = S8.knw (a, b, c) := ⟨_, rfl⟩
  rw [← hz] at HC HX ⊢
  rw [← hy] at HK HK2 ⊢
  clear hz hy
  simp only at HK HO
  rcases HX.out with ⟨hz, ho⟩ | ⟨hz, ho⟩
  · have h1 := HK.out ho
    obtain ⟨o1, o2, o3, o4⟩ := HO.out ho
    clear HX HK HK2 HO ho
    subst hz
    have e1 : 8 * a + b = y := by omega
    clear h1
    go_enter Try.func12, Try.ntmps12
    go_wp2_with fail
    refine (HC.out _).mono ?_
    rintro e wn ⟨rfl, hb⟩
    have HB2 := hid (below_t HB.out hb)
    have r0 := (hb.cell (p := ⟨w.heap.size, 0, none⟩) (by simp)).trans q0
    have r1 := (hb.cell (p := ⟨w.heap.size, 1, none⟩) (by simp)).trans q1
    clear hb q0 q1
    go_wp2
    exact bodyPost_ret (v := .tuple #[.int .i64 y, .int .i64 0]) (by simp [results, Try.results12, go_sem]) rfl ⟨rfl, HB2.out⟩
  · have h1 := HK2.out ho
    clear HX HK HK2 HO ho q0 q1
    subst hz
    subst h1
    go_enter Try.func12, Try.ntmps12
    go_wp2_with fail
    refine (HC.out _).mono ?_
    rintro e wn ⟨rfl, hb⟩
    have HB2 := hid (below_t HB.out hb)
    clear hb
    go_wp2
    exact bodyPost_ret (v := .tuple #[.int .i64 0, .int .i64 80]) (by simp [results, Try.results12, go_sem]) rfl ⟨rfl, HB2.out⟩
set_option maxRecDepth 100000 in
set_option maxHeartbeats 4000000 in
theorem Of_any (n : Int) (hn : I64 n) (w : World) : Calls Try.prog 13 #[.int .i64 n] w fun e w' => e = .returned (.tuple #[.int .i64 (S8.oft n), .int .i64 (S8.ofc n), .int .i64 (S8.ofe n)]) ∧ Below w.heap.size w w' := by
  have HC := hid (fun W => Check_any (S8.sof n) W)
  have HX := hid (chk_eq (S8.sof n))
  have HT := hid (show S8.ok (S8.sof n) → S8.oft n = n.tdiv 8 ∧ S8.ofc n = n.tmod 8 ∧ S8.ofe n = 0 from fun h => ⟨if_pos h, if_pos h, if_pos h⟩)
  have HF := hid (show ¬ S8.ok (S8.sof n) → S8.oft n = 0 ∧ S8.ofc n = 0 ∧ S8.ofe n = 80 from fun h => ⟨if_neg h, if_neg h, if_neg h⟩)
  obtain ⟨hn1, hn2⟩ := hn
  obtain ⟨x, hx⟩ : ∃ x, x = n.tdiv 8 := ⟨_, rfl⟩
  obtain ⟨y, hy⟩ : ∃ y, y = n.tmod 8 := ⟨_, rfl⟩
  have hs : S8.sof n = (x, y, 1) := by unfold S8.sof; rw [hx, hy]
  have hx1 : -9223372036854775808 ≤ n.tdiv 8 ∧ n.tdiv 8 ≤ 9223372036854775807 := by
    rcases Int.le_total 0 n with h | h
    · rw [Int.tdiv_eq_ediv_of_nonneg h]; omega
    · have h2 : (-n).tdiv 8 = -(n.tdiv 8) := Int.neg_tdiv ..
      rw [Int.tdiv_eq_ediv_of_nonneg (by omega)] at h2
      omega
  rw [← hx, ← hy] at HT
  rw [hs] at HC HX HT HF

  have HQX := hid hx; have HQY := hid hy; have HX1 := hid hx1
  clear hs hx1 hx hy
  have HB := hid ((Below.refl _ w).alloc (Nat.le_refl _) (.cells #[.int .i64 x, .int .i64 y, .int .i64 1] 23))
  have q0 := cell_lit w #[.int .i64 x, .int .i64 y, .int .i64 1] 23 0 _ rfl
  have q1 := cell_lit w #[.int .i64 x, .int .i64 y, .int .i64 1] 23 1 _ rfl
  obtain ⟨z, hz⟩ : ∃ z, z = S8.chk (x, y, 1) := ⟨_, rfl⟩
  rw [← hz] at HC HX
  clear hz
  rcases HX.out with ⟨hz, ho⟩ | ⟨hz, ho⟩
  · obtain ⟨v1, v2, v3⟩ := HT.out ho
    rw [v1, v2, v3]
    clear HX HT HF ho v1 v2 v3
    subst hz
    go_enter Try.func13, Try.ntmps13
    go_wp2_with fail
    rw [← HQX.out, ← HQY.out]
    refine (HC.out _).mono ?_
    rintro e wn ⟨rfl, hb⟩
    have HB2 := hid (below_t HB.out hb)
    have r0 := (hb.cell (p := ⟨w.heap.size, 0, none⟩) (by simp)).trans q0
    have r1 := (hb.cell (p := ⟨w.heap.size, 1, none⟩) (by simp)).trans q1
    clear hb q0 q1
    go_wp2
    go_quiet (fail)
    have HB3 := hid (below_t HB2.out (below_dN nq))
    go_wp2
    exact bodyPost_ret (v := .tuple #[.int .i64 x, .int .i64 y, .int .i64 0]) (by simp [results, Try.results13, go_sem]) rfl ⟨rfl, HB3.out⟩
  · obtain ⟨v1, v2, v3⟩ := HF.out ho
    rw [v1, v2, v3]
    clear HX HT HF ho v1 v2 v3 q0 q1
    subst hz
    go_enter Try.func13, Try.ntmps13
    go_wp2_with fail
    rw [← HQX.out, ← HQY.out]
    refine (HC.out _).mono ?_
    rintro e wn ⟨rfl, hb⟩
    have HB2 := hid (below_t HB.out hb)
    clear hb
    go_wp2
    exact bodyPost_ret (v := .tuple #[.int .i64 0, .int .i64 0, .int .i64 80]) (by simp [results, Try.results13, go_sem]) rfl ⟨rfl, HB2.out⟩
set_option maxRecDepth 100000 in
set_option maxHeartbeats 4000000 in
theorem rOf_any (n : Int) (hn : I64 n) (w : World) : Calls Try.prog 14 #[.int .i64 n] w fun e w' => e = .returned (.tuple #[.int .i64 (S8.oft n), .int .i64 (S8.ofc n), .int .i64 (S8.ofe n)]) ∧ Below w.heap.size w w' := by
  by_cases hneg : n < 0
  · have HV := hid (S8.sof_neg hneg)
    have HV2 := hid (show S8.oft n = 0 ∧ S8.ofc n = 0 ∧ S8.ofe n = 80 from ⟨if_neg HV.out, if_neg HV.out, if_neg HV.out⟩)
    clear HV
    go_enter Try.func14, Try.ntmps14
    go_wp2
    exact bodyPost_ret (v := .tuple #[.int .i64 0, .int .i64 0, .int .i64 80]) (by simp [results, Try.results14, go_sem]) rfl ⟨by rw [HV2.out.1, HV2.out.2.1, HV2.out.2.2], Below.refl _ _⟩
  have HC := hid (fun W => rCheck_any (S8.sof n) W)
  have HX := hid (chk_eq (S8.sof n))
  have HT := hid (show S8.ok (S8.sof n) → S8.oft n = n.tdiv 8 ∧ S8.ofc n = n.tmod 8 ∧ S8.ofe n = 0 from fun h => ⟨if_pos h, if_pos h, if_pos h⟩)
  have HF := hid (show ¬ S8.ok (S8.sof n) → S8.oft n = 0 ∧ S8.ofc n = 0 ∧ S8.ofe n = 80 from fun h => ⟨if_neg h, if_neg h, if_neg h⟩)
  obtain ⟨hn1, hn2⟩ := hn
  obtain ⟨x, hx⟩ : ∃ x, x = n.tdiv 8 := ⟨_, rfl⟩
  obtain ⟨y, hy⟩ : ∃ y, y = n.tmod 8 := ⟨_, rfl⟩
  have hs : S8.sof n = (x, y, 1) := by unfold S8.sof; rw [hx, hy]
  have hx1 : -9223372036854775808 ≤ n.tdiv 8 ∧ n.tdiv 8 ≤ 9223372036854775807 := by
    rcases Int.le_total 0 n with h | h
    · rw [Int.tdiv_eq_ediv_of_nonneg h]; omega
    · have h2 : (-n).tdiv 8 = -(n.tdiv 8) := Int.neg_tdiv ..
      rw [Int.tdiv_eq_ediv_of_nonneg (by omega)] at h2
      omega
  rw [← hx, ← hy] at HT
  rw [hs] at HC HX HT HF
  rw [Int.tdiv_eq_ediv_of_nonneg (by omega)] at hx; rw [Int.tmod_eq_emod_of_nonneg (by omega)] at hy
  have HQX := hid hx; have HQY := hid hy; have HX1 := hid hx1
  clear hs hx1 hx hy
  have HB := hid ((Below.refl _ w).alloc (Nat.le_refl _) (.cells #[.int .i64 x, .int .i64 y, .int .i64 1] 23))
  have q0 := cell_lit w #[.int .i64 x, .int .i64 y, .int .i64 1] 23 0 _ rfl
  have q1 := cell_lit w #[.int .i64 x, .int .i64 y, .int .i64 1] 23 1 _ rfl
  obtain ⟨z, hz⟩ : ∃ z, z = S8.chk (x, y, 1) := ⟨_, rfl⟩
  rw [← hz] at HC HX
  clear hz
  rcases HX.out with ⟨hz, ho⟩ | ⟨hz, ho⟩
  · obtain ⟨v1, v2, v3⟩ := HT.out ho
    rw [v1, v2, v3]
    clear HX HT HF ho v1 v2 v3
    subst hz
    go_enter Try.func14, Try.ntmps14
    go_wp2_with fail
    rw [← HQX.out, ← HQY.out]
    refine (HC.out _).mono ?_
    rintro e wn ⟨rfl, hb⟩
    have HB2 := hid (below_t HB.out hb)
    have r0 := (hb.cell (p := ⟨w.heap.size, 0, none⟩) (by simp)).trans q0
    have r1 := (hb.cell (p := ⟨w.heap.size, 1, none⟩) (by simp)).trans q1
    clear hb q0 q1
    go_wp2
    go_quiet (fail)
    have HB3 := hid (below_t HB2.out (below_dN nq))
    go_wp2
    exact bodyPost_ret (v := .tuple #[.int .i64 x, .int .i64 y, .int .i64 0]) (by simp [results, Try.results14, go_sem]) rfl ⟨rfl, HB3.out⟩
  · obtain ⟨v1, v2, v3⟩ := HF.out ho
    rw [v1, v2, v3]
    clear HX HT HF ho v1 v2 v3 q0 q1
    subst hz
    go_enter Try.func14, Try.ntmps14
    go_wp2_with fail
    rw [← HQX.out, ← HQY.out]
    refine (HC.out _).mono ?_
    rintro e wn ⟨rfl, hb⟩
    have HB2 := hid (below_t HB.out hb)
    clear hb
    go_wp2
    exact bodyPost_ret (v := .tuple #[.int .i64 0, .int .i64 0, .int .i64 80]) (by simp [results, Try.results14, go_sem]) rfl ⟨rfl, HB2.out⟩
end Go.Proofs.Ytlkcnnamnjnmbaa

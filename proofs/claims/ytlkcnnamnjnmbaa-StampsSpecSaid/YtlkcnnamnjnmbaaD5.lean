/- Contracts: Next; the reference's Next. -/
import Derived.Test.YtlkcnnamnjnmbaaD4
import Derived.Test.YtlkcnnamnjnmbaaRs
namespace Go.Proofs.Ytlkcnnamnjnmbaa
open Go.RowKit Go
set_option linter.unusedVariables false
set_option linter.unusedSimpArgs false
set_option maxRecDepth 100000 in
set_option maxHeartbeats 4000000 in
theorem rNext_any (s : St) (n : Int) (w : World) : Calls Try.prog 21 #[KV s, .int .i64 n] w fun e w' => e = .returned (.tuple #[KV (S8.nxt s n), .int .i64 (S8.nxe s n)]) ∧ Below w.heap.size w w' := by
  have H0 := hid (show ¬ S8.nin s n → S8.nxt s n = (0, 0, 0) ∧ S8.nxe s n = 80 from fun h => ⟨if_neg h, if_neg h⟩)
  have H1 := hid (show S8.nin s n → S8.nlim s n → S8.nxt s n = (0, 0, 0) ∧ S8.nxe s n = 2 from fun h h2 => ⟨by unfold S8.nxt; rw [if_pos h, if_pos h2], by unfold S8.nxe; rw [if_pos h, if_pos h2]⟩)
  have H2 := hid (show S8.nin s n → ¬ S8.nlim s n → S8.nxt s n = (max s.1 n + 1, s.2.1, s.2.2 + 1) ∧ S8.nxe s n = 0 from fun h h2 => ⟨by unfold S8.nxt; rw [if_pos h, if_neg h2], by unfold S8.nxe; rw [if_pos h, if_neg h2]⟩)
  have HI := hid (show S8.nin s n ↔ 0 ≤ s.2.1 ∧ s.2.1 ≤ 6 ∧ 0 ≤ s.1 ∧ s.1 ≤ 1048576 ∧ 0 ≤ n ∧ n ≤ 1048576 ∧ 0 ≤ s.2.2 ∧ s.2.2 ≤ 1048576 from Iff.rfl)
  have HL := hid (show S8.nlim s n ↔ max s.1 n = 1048576 ∨ s.2.2 = 1048576 from Iff.rfl)
  obtain ⟨a, b, c⟩ := s
  have HW := hid (((Below.refl _ w).alloc (Nat.le_refl _) (.cells #[.int .i64 a, .int .i64 b, .int .i64 c] 23)).alloc (by simp) (.cells #[.int .i64 0, .int .i64 0, .int .i64 0] 23))
  simp only at H2 HI HL
  by_cases hin : S8.nin (a, b, c) n
  · obtain ⟨i1, i2, i3, i4, i5, i6, i7, i8⟩ := HI.out.1 hin
    have n0 : ¬ b < 0 := by omega
    have n1 : ¬ 7 ≤ b := by omega
    have n2 : ¬ a < 0 := by omega
    have n3 : ¬ 1048576 < a := by omega
    have n4 : ¬ n < 0 := by omega
    have n5 : ¬ 1048576 < n := by omega
    have n6 : ¬ c < 0 := by omega
    have n7 : ¬ 1048576 < c := by omega
    obtain ⟨m, hm, hmc⟩ : ∃ m, max a n = m ∧ ((n ≤ a ∧ m = a) ∨ (a < n ∧ m = n)) := ⟨_, rfl, by omega⟩
    rw [hm] at HL H2
    clear hm
    by_cases hl : S8.nlim (a, b, c) n
    · obtain ⟨e1, e2⟩ := H1.out hin hl
      rw [e1, e2]
      have hl2 := HL.out.1 hl
      clear H0 H1 H2 HI HL hin hl e1 e2 i1 i2 i3 i4 i5 i6 i7 i8
      have hl3 : (m = 1048576) ∨ (¬ m = 1048576 ∧ c = 1048576) := by omega
      clear hl2
      rcases hl3 with rfl | ⟨hl3, rfl⟩ <;> rcases hmc with ⟨hmc, rfl⟩ | ⟨hmc, rfl⟩
      · go_enter Try.func21, Try.ntmps21
        go_wp2
        exact bodyPost_ret (results_agg rfl _ _ _ (0, 0, 0) (.int .i64 2) rfl rfl (cell_two _ _ _ _ _ _ rfl) (cell_two _ _ _ _ _ _ rfl) (cell_two _ _ _ _ _ _ rfl)) rfl ⟨rfl, ((Below.refl _ w).alloc (Nat.le_refl _) _).alloc (by simp) _⟩
      · go_enter Try.func21, Try.ntmps21
        go_wp2
        exact bodyPost_ret (results_agg rfl _ _ _ (0, 0, 0) (.int .i64 2) rfl rfl (cell_two _ _ _ _ _ _ rfl) (cell_two _ _ _ _ _ _ rfl) (cell_two _ _ _ _ _ _ rfl)) rfl ⟨rfl, ((Below.refl _ w).alloc (Nat.le_refl _) _).alloc (by simp) _⟩
      · go_enter Try.func21, Try.ntmps21
        go_wp2
        exact bodyPost_ret (results_agg rfl _ _ _ (0, 0, 0) (.int .i64 2) rfl rfl (cell_two _ _ _ _ _ _ rfl) (cell_two _ _ _ _ _ _ rfl) (cell_two _ _ _ _ _ _ rfl)) rfl ⟨rfl, ((Below.refl _ w).alloc (Nat.le_refl _) _).alloc (by simp) _⟩
      · go_enter Try.func21, Try.ntmps21
        go_wp2
        exact bodyPost_ret (results_agg rfl _ _ _ (0, 0, 0) (.int .i64 2) rfl rfl (cell_two _ _ _ _ _ _ rfl) (cell_two _ _ _ _ _ _ rfl) (cell_two _ _ _ _ _ _ rfl)) rfl ⟨rfl, ((Below.refl _ w).alloc (Nat.le_refl _) _).alloc (by simp) _⟩
    · obtain ⟨e1, e2⟩ := H2.out hin hl
      rw [e1, e2]
      have hl2 := fun h => hl (HL.out.2 h)
      have hl3 : ¬ m = 1048576 := fun h => hl2 (.inl h)
      have hl4 : ¬ c = 1048576 := fun h => hl2 (.inr h)
      have k1 : (m == 1048576) = false := by simpa using hl3
      have k2 : (c == 1048576) = false := by simpa using hl4
      clear H0 H1 H2 HI HL hin hl e1 e2 hl2
      rcases hmc with ⟨hmc, rfl⟩ | ⟨hmc, rfl⟩
      · go_enter Try.func21, Try.ntmps21
        go_wp2
        exact bodyPost_ret (results_agg rfl _ _ _ (m + 1, b, c + 1) (.int .i64 0) rfl rfl (cell_two _ _ _ _ _ _ rfl) (cell_two _ _ _ _ _ _ rfl) (cell_two _ _ _ _ _ _ rfl)) rfl ⟨rfl, ((Below.refl _ w).alloc (Nat.le_refl _) _).alloc (by simp) _⟩
      · go_enter Try.func21, Try.ntmps21
        go_wp2
        exact bodyPost_ret (results_agg rfl _ _ _ (m + 1, b, c + 1) (.int .i64 0) rfl rfl (cell_two _ _ _ _ _ _ rfl) (cell_two _ _ _ _ _ _ rfl) (cell_two _ _ _ _ _ _ rfl)) rfl ⟨rfl, ((Below.refl _ w).alloc (Nat.le_refl _) _).alloc (by simp) _⟩
  · obtain ⟨e1, e2⟩ := H0.out hin
    rw [e1, e2]
    have hc := fun h => hin (HI.out.2 h)
    clear H0 H1 H2 HI HL hin e1 e2
    by_cases g0a : b < 0
    · clear hc
      go_enter Try.func21, Try.ntmps21
      go_wp2
      exact bodyPost_ret (results_agg rfl _ _ _ (0, 0, 0) (.int .i64 80) rfl rfl (cell_two _ _ _ _ _ _ rfl) (cell_two _ _ _ _ _ _ rfl) (cell_two _ _ _ _ _ _ rfl)) rfl ⟨rfl, ((Below.refl _ w).alloc (Nat.le_refl _) _).alloc (by simp) _⟩
    by_cases g0b : 7 ≤ b
    · clear hc
      go_enter Try.func21, Try.ntmps21
      go_wp2
      exact bodyPost_ret (results_agg rfl _ _ _ (0, 0, 0) (.int .i64 80) rfl rfl (cell_two _ _ _ _ _ _ rfl) (cell_two _ _ _ _ _ _ rfl) (cell_two _ _ _ _ _ _ rfl)) rfl ⟨rfl, ((Below.refl _ w).alloc (Nat.le_refl _) _).alloc (by simp) _⟩
    by_cases g1a : a < 0
    · clear hc
      go_enter Try.func21, Try.ntmps21
      go_wp2
      exact bodyPost_ret (results_agg rfl _ _ _ (0, 0, 0) (.int .i64 80) rfl rfl (cell_two _ _ _ _ _ _ rfl) (cell_two _ _ _ _ _ _ rfl) (cell_two _ _ _ _ _ _ rfl)) rfl ⟨rfl, ((Below.refl _ w).alloc (Nat.le_refl _) _).alloc (by simp) _⟩
    by_cases g1b : 1048576 < a
    · clear hc
      go_enter Try.func21, Try.ntmps21
      go_wp2
      exact bodyPost_ret (results_agg rfl _ _ _ (0, 0, 0) (.int .i64 80) rfl rfl (cell_two _ _ _ _ _ _ rfl) (cell_two _ _ _ _ _ _ rfl) (cell_two _ _ _ _ _ _ rfl)) rfl ⟨rfl, ((Below.refl _ w).alloc (Nat.le_refl _) _).alloc (by simp) _⟩
    by_cases g2a : n < 0
    · clear hc
      go_enter Try.func21, Try.ntmps21
      go_wp2
      exact bodyPost_ret (results_agg rfl _ _ _ (0, 0, 0) (.int .i64 80) rfl rfl (cell_two _ _ _ _ _ _ rfl) (cell_two _ _ _ _ _ _ rfl) (cell_two _ _ _ _ _ _ rfl)) rfl ⟨rfl, ((Below.refl _ w).alloc (Nat.le_refl _) _).alloc (by simp) _⟩
    by_cases g2b : 1048576 < n
    · clear hc
      go_enter Try.func21, Try.ntmps21
      go_wp2
      exact bodyPost_ret (results_agg rfl _ _ _ (0, 0, 0) (.int .i64 80) rfl rfl (cell_two _ _ _ _ _ _ rfl) (cell_two _ _ _ _ _ _ rfl) (cell_two _ _ _ _ _ _ rfl)) rfl ⟨rfl, ((Below.refl _ w).alloc (Nat.le_refl _) _).alloc (by simp) _⟩
    by_cases g3a : c < 0
    · clear hc
      go_enter Try.func21, Try.ntmps21
      go_wp2
      exact bodyPost_ret (results_agg rfl _ _ _ (0, 0, 0) (.int .i64 80) rfl rfl (cell_two _ _ _ _ _ _ rfl) (cell_two _ _ _ _ _ _ rfl) (cell_two _ _ _ _ _ _ rfl)) rfl ⟨rfl, ((Below.refl _ w).alloc (Nat.le_refl _) _).alloc (by simp) _⟩
    by_cases g3b : 1048576 < c
    · clear hc
      go_enter Try.func21, Try.ntmps21
      go_wp2
      exact bodyPost_ret (results_agg rfl _ _ _ (0, 0, 0) (.int .i64 80) rfl rfl (cell_two _ _ _ _ _ _ rfl) (cell_two _ _ _ _ _ _ rfl) (cell_two _ _ _ _ _ _ rfl)) rfl ⟨rfl, ((Below.refl _ w).alloc (Nat.le_refl _) _).alloc (by simp) _⟩
    exact absurd ⟨by omega, by omega, by omega, by omega, by omega, by omega, by omega, by omega⟩ hc
set_option maxRecDepth 100000 in
set_option maxHeartbeats 4000000 in
theorem Next_any (s : St) (n : Int) (w : World) : Calls Try.prog 20 #[KV s, .int .i64 n] w fun e w' => e = .returned (.tuple #[KV (S8.nxt s n), .int .i64 (S8.nxe s n)]) ∧ Below w.heap.size w w' := by
  have H0 := hid (show ¬ S8.nin s n → S8.nxt s n = (0, 0, 0) ∧ S8.nxe s n = 80 from fun h => ⟨if_neg h, if_neg h⟩)
  have H1 := hid (show S8.nin s n → S8.nlim s n → S8.nxt s n = (0, 0, 0) ∧ S8.nxe s n = 2 from fun h h2 => ⟨by unfold S8.nxt; rw [if_pos h, if_pos h2], by unfold S8.nxe; rw [if_pos h, if_pos h2]⟩)
  have H2 := hid (show S8.nin s n → ¬ S8.nlim s n → S8.nxt s n = (max s.1 n + 1, s.2.1, s.2.2 + 1) ∧ S8.nxe s n = 0 from fun h h2 => ⟨by unfold S8.nxt; rw [if_pos h, if_neg h2], by unfold S8.nxe; rw [if_pos h, if_neg h2]⟩)
  have HI := hid (show S8.nin s n ↔ 0 ≤ s.2.1 ∧ s.2.1 ≤ 6 ∧ 0 ≤ s.1 ∧ s.1 ≤ 1048576 ∧ 0 ≤ n ∧ n ≤ 1048576 ∧ 0 ≤ s.2.2 ∧ s.2.2 ≤ 1048576 from Iff.rfl)
  have HL := hid (show S8.nlim s n ↔ max s.1 n = 1048576 ∨ s.2.2 = 1048576 from Iff.rfl)
  obtain ⟨a, b, c⟩ := s
  have HW := hid (((Below.refl _ w).alloc (Nat.le_refl _) (.cells #[.int .i64 a, .int .i64 b, .int .i64 c] 23)).alloc (by simp) (.cells #[.int .i64 0, .int .i64 0, .int .i64 0] 23))
  simp only at H2 HI HL
  have C0 := hid (fun W => within_any b 0 6 W)
  have C1 := hid (fun W => within_any a 0 1048576 W)
  have C2 := hid (fun W => within_any n 0 1048576 W)
  have C3 := hid (fun W => within_any c 0 1048576 W)
  by_cases hin : S8.nin (a, b, c) n
  · obtain ⟨i1, i2, i3, i4, i5, i6, i7, i8⟩ := HI.out.1 hin
    rw [show wth b 0 6 = true from decide_eq_true (by omega)] at C0
    rw [show wth a 0 1048576 = true from decide_eq_true (by omega)] at C1
    rw [show wth n 0 1048576 = true from decide_eq_true (by omega)] at C2
    rw [show wth c 0 1048576 = true from decide_eq_true (by omega)] at C3
    obtain ⟨m, hm, hmc⟩ : ∃ m, max a n = m ∧ ((n ≤ a ∧ m = a) ∨ (a < n ∧ m = n)) := ⟨_, rfl, by omega⟩
    rw [hm] at HL H2
    clear hm
    by_cases hl : S8.nlim (a, b, c) n
    · obtain ⟨e1, e2⟩ := H1.out hin hl
      rw [e1, e2]
      have hl2 := HL.out.1 hl
      clear H0 H1 H2 HI HL hin hl e1 e2 i1 i2 i3 i4 i5 i6 i7 i8
      have hl3 : (m = 1048576) ∨ (¬ m = 1048576 ∧ c = 1048576) := by omega
      clear hl2
      rcases hl3 with rfl | ⟨hl3, rfl⟩ <;> rcases hmc with ⟨hmc, rfl⟩ | ⟨hmc, rfl⟩
      · go_enter Try.func20, Try.ntmps20
        go_wp2_with fail
        refine (C0.out _).mono ?_
        rintro e wn ⟨rfl, rfl⟩
        go_wp2_with fail
        refine (C1.out _).mono ?_
        rintro e wn ⟨rfl, rfl⟩
        go_wp2_with fail
        refine (C2.out _).mono ?_
        rintro e wn ⟨rfl, rfl⟩
        go_wp2_with fail
        refine (C3.out _).mono ?_
        rintro e wn ⟨rfl, rfl⟩
        go_wp2
        exact bodyPost_ret (results_agg rfl _ _ _ (0, 0, 0) (.int .i64 2) rfl rfl (cell_two _ _ _ _ _ _ rfl) (cell_two _ _ _ _ _ _ rfl) (cell_two _ _ _ _ _ _ rfl)) rfl ⟨rfl, ((Below.refl _ w).alloc (Nat.le_refl _) _).alloc (by simp) _⟩
      · go_enter Try.func20, Try.ntmps20
        go_wp2_with fail
        refine (C0.out _).mono ?_
        rintro e wn ⟨rfl, rfl⟩
        go_wp2_with fail
        refine (C1.out _).mono ?_
        rintro e wn ⟨rfl, rfl⟩
        go_wp2_with fail
        refine (C2.out _).mono ?_
        rintro e wn ⟨rfl, rfl⟩
        go_wp2_with fail
        refine (C3.out _).mono ?_
        rintro e wn ⟨rfl, rfl⟩
        go_wp2
        exact bodyPost_ret (results_agg rfl _ _ _ (0, 0, 0) (.int .i64 2) rfl rfl (cell_two _ _ _ _ _ _ rfl) (cell_two _ _ _ _ _ _ rfl) (cell_two _ _ _ _ _ _ rfl)) rfl ⟨rfl, ((Below.refl _ w).alloc (Nat.le_refl _) _).alloc (by simp) _⟩
      · go_enter Try.func20, Try.ntmps20
        go_wp2_with fail
        refine (C0.out _).mono ?_
        rintro e wn ⟨rfl, rfl⟩
        go_wp2_with fail
        refine (C1.out _).mono ?_
        rintro e wn ⟨rfl, rfl⟩
        go_wp2_with fail
        refine (C2.out _).mono ?_
        rintro e wn ⟨rfl, rfl⟩
        go_wp2_with fail
        refine (C3.out _).mono ?_
        rintro e wn ⟨rfl, rfl⟩
        go_wp2
        exact bodyPost_ret (results_agg rfl _ _ _ (0, 0, 0) (.int .i64 2) rfl rfl (cell_two _ _ _ _ _ _ rfl) (cell_two _ _ _ _ _ _ rfl) (cell_two _ _ _ _ _ _ rfl)) rfl ⟨rfl, ((Below.refl _ w).alloc (Nat.le_refl _) _).alloc (by simp) _⟩
      · go_enter Try.func20, Try.ntmps20
        go_wp2_with fail
        refine (C0.out _).mono ?_
        rintro e wn ⟨rfl, rfl⟩
        go_wp2_with fail
        refine (C1.out _).mono ?_
        rintro e wn ⟨rfl, rfl⟩
        go_wp2_with fail
        refine (C2.out _).mono ?_
        rintro e wn ⟨rfl, rfl⟩
        go_wp2_with fail
        refine (C3.out _).mono ?_
        rintro e wn ⟨rfl, rfl⟩
        go_wp2
        exact bodyPost_ret (results_agg rfl _ _ _ (0, 0, 0) (.int .i64 2) rfl rfl (cell_two _ _ _ _ _ _ rfl) (cell_two _ _ _ _ _ _ rfl) (cell_two _ _ _ _ _ _ rfl)) rfl ⟨rfl, ((Below.refl _ w).alloc (Nat.le_refl _) _).alloc (by simp) _⟩
    · obtain ⟨e1, e2⟩ := H2.out hin hl
      rw [e1, e2]
      have hl2 := fun h => hl (HL.out.2 h)
      have hl3 : ¬ m = 1048576 := fun h => hl2 (.inl h)
      have hl4 : ¬ c = 1048576 := fun h => hl2 (.inr h)
      have k1 : (m == 1048576) = false := by simpa using hl3
      have k2 : (c == 1048576) = false := by simpa using hl4
      clear H0 H1 H2 HI HL hin hl e1 e2 hl2
      rcases hmc with ⟨hmc, rfl⟩ | ⟨hmc, rfl⟩
      · go_enter Try.func20, Try.ntmps20
        go_wp2_with fail
        refine (C0.out _).mono ?_
        rintro e wn ⟨rfl, rfl⟩
        go_wp2_with fail
        refine (C1.out _).mono ?_
        rintro e wn ⟨rfl, rfl⟩
        go_wp2_with fail
        refine (C2.out _).mono ?_
        rintro e wn ⟨rfl, rfl⟩
        go_wp2_with fail
        refine (C3.out _).mono ?_
        rintro e wn ⟨rfl, rfl⟩
        go_wp2
        exact bodyPost_ret (results_agg rfl _ _ _ (m + 1, b, c + 1) (.int .i64 0) rfl rfl (cell_two _ _ _ _ _ _ rfl) (cell_two _ _ _ _ _ _ rfl) (cell_two _ _ _ _ _ _ rfl)) rfl ⟨rfl, ((Below.refl _ w).alloc (Nat.le_refl _) _).alloc (by simp) _⟩
      · go_enter Try.func20, Try.ntmps20
        go_wp2_with fail
        refine (C0.out _).mono ?_
        rintro e wn ⟨rfl, rfl⟩
        go_wp2_with fail
        refine (C1.out _).mono ?_
        rintro e wn ⟨rfl, rfl⟩
        go_wp2_with fail
        refine (C2.out _).mono ?_
        rintro e wn ⟨rfl, rfl⟩
        go_wp2_with fail
        refine (C3.out _).mono ?_
        rintro e wn ⟨rfl, rfl⟩
        go_wp2
        exact bodyPost_ret (results_agg rfl _ _ _ (m + 1, b, c + 1) (.int .i64 0) rfl rfl (cell_two _ _ _ _ _ _ rfl) (cell_two _ _ _ _ _ _ rfl) (cell_two _ _ _ _ _ _ rfl)) rfl ⟨rfl, ((Below.refl _ w).alloc (Nat.le_refl _) _).alloc (by simp) _⟩
  · obtain ⟨e1, e2⟩ := H0.out hin
    rw [e1, e2]
    have hc := fun h => hin (HI.out.2 h)
    clear H0 H1 H2 HI HL hin e1 e2
    by_cases g0a : wth b 0 6 = false
    · clear hc
      rw [g0a] at C0
      go_enter Try.func20, Try.ntmps20
      go_wp2_with fail
      refine (C0.out _).mono ?_
      rintro e wn ⟨rfl, rfl⟩
      go_wp2
      exact bodyPost_ret (results_agg rfl _ _ _ (0, 0, 0) (.int .i64 80) rfl rfl (cell_two _ _ _ _ _ _ rfl) (cell_two _ _ _ _ _ _ rfl) (cell_two _ _ _ _ _ _ rfl)) rfl ⟨rfl, ((Below.refl _ w).alloc (Nat.le_refl _) _).alloc (by simp) _⟩
    replace g0a := (Bool.not_eq_false _).mp g0a
    by_cases g1a : wth a 0 1048576 = false
    · clear hc
      rw [g0a] at C0
      rw [g1a] at C1
      go_enter Try.func20, Try.ntmps20
      go_wp2_with fail
      refine (C0.out _).mono ?_
      rintro e wn ⟨rfl, rfl⟩
      go_wp2_with fail
      refine (C1.out _).mono ?_
      rintro e wn ⟨rfl, rfl⟩
      go_wp2
      exact bodyPost_ret (results_agg rfl _ _ _ (0, 0, 0) (.int .i64 80) rfl rfl (cell_two _ _ _ _ _ _ rfl) (cell_two _ _ _ _ _ _ rfl) (cell_two _ _ _ _ _ _ rfl)) rfl ⟨rfl, ((Below.refl _ w).alloc (Nat.le_refl _) _).alloc (by simp) _⟩
    replace g1a := (Bool.not_eq_false _).mp g1a
    by_cases g2a : wth n 0 1048576 = false
    · clear hc
      rw [g0a] at C0
      rw [g1a] at C1
      rw [g2a] at C2
      go_enter Try.func20, Try.ntmps20
      go_wp2_with fail
      refine (C0.out _).mono ?_
      rintro e wn ⟨rfl, rfl⟩
      go_wp2_with fail
      refine (C1.out _).mono ?_
      rintro e wn ⟨rfl, rfl⟩
      go_wp2_with fail
      refine (C2.out _).mono ?_
      rintro e wn ⟨rfl, rfl⟩
      go_wp2
      exact bodyPost_ret (results_agg rfl _ _ _ (0, 0, 0) (.int .i64 80) rfl rfl (cell_two _ _ _ _ _ _ rfl) (cell_two _ _ _ _ _ _ rfl) (cell_two _ _ _ _ _ _ rfl)) rfl ⟨rfl, ((Below.refl _ w).alloc (Nat.le_refl _) _).alloc (by simp) _⟩
    replace g2a := (Bool.not_eq_false _).mp g2a
    by_cases g3a : wth c 0 1048576 = false
    · clear hc
      rw [g0a] at C0
      rw [g1a] at C1
      rw [g2a] at C2
      rw [g3a] at C3
      go_enter Try.func20, Try.ntmps20
      go_wp2_with fail
      refine (C0.out _).mono ?_
      rintro e wn ⟨rfl, rfl⟩
      go_wp2_with fail
      refine (C1.out _).mono ?_
      rintro e wn ⟨rfl, rfl⟩
      go_wp2_with fail
      refine (C2.out _).mono ?_
      rintro e wn ⟨rfl, rfl⟩
      go_wp2_with fail
      refine (C3.out _).mono ?_
      rintro e wn ⟨rfl, rfl⟩
      go_wp2
      exact bodyPost_ret (results_agg rfl _ _ _ (0, 0, 0) (.int .i64 80) rfl rfl (cell_two _ _ _ _ _ _ rfl) (cell_two _ _ _ _ _ _ rfl) (cell_two _ _ _ _ _ _ rfl)) rfl ⟨rfl, ((Below.refl _ w).alloc (Nat.le_refl _) _).alloc (by simp) _⟩
    replace g3a := (Bool.not_eq_false _).mp g3a
    exact absurd ⟨(of_decide_eq_true g0a).1, (of_decide_eq_true g0a).2, (of_decide_eq_true g1a).1, (of_decide_eq_true g1a).2, (of_decide_eq_true g2a).1, (of_decide_eq_true g2a).2, (of_decide_eq_true g3a).1, (of_decide_eq_true g3a).2⟩ hc
end Go.Proofs.Ytlkcnnamnjnmbaa

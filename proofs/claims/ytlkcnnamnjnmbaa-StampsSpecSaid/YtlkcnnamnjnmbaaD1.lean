/- Contracts: Check, the reference's Check and Compare, Known, Of. -/
import Derived.Test.YtlkcnnamnjnmbaaC2
namespace Go.Proofs.Ytlkcnnamnjnmbaa
open Go.RowKit Go
set_option linter.unusedVariables false
set_option linter.unusedSimpArgs false
set_option maxRecDepth 100000 in
set_option maxHeartbeats 4000000 in
theorem Check_any (s : St) (w : World) : Calls Try.prog 15 #[KV s] w fun e w' => e = .returned (.int .i64 (S8.chk s)) ∧ Below w.heap.size w w' := by
  obtain ⟨a, b, c⟩ := s
  have HB := hid ((Below.refl _ w).alloc (Nat.le_refl _) (.cells #[.int .i64 a, .int .i64 b, .int .i64 c] 23))
  have C1 := hid (fun W => within_any a 1 1048576 W)
  have C2 := hid (fun W => within_any b 0 6 W)
  have C3 := hid (fun W => within_any c 1 1048576 W)
  have hv : S8.chk (a, b, c) = if wth a 1 1048576 = true ∧ wth b 0 6 = true ∧ wth c 1 1048576 = true then 0 else 80 := by
    unfold wth; simp only [decide_eq_true_eq]
    by_cases h : S8.ok (a, b, c)
    · rw [show S8.chk (a, b, c) = 0 from if_pos h, if_pos (by unfold S8.ok at h; simp only at h; omega)]
    · rw [show S8.chk (a, b, c) = 80 from if_neg h, if_neg (by unfold S8.ok at h; simp only at h; omega)]
  obtain ⟨z, hz⟩ : ∃ z, z = S8.chk (a, b, c) := ⟨_, rfl⟩
  rw [← hz] at hv ⊢
  clear hz
  rcases hx : wth a 1 1048576
  · have HV := hid (show z = 80 by rw [hv, hx]; rfl)
    rw [hx] at C1
    clear hv hx
    go_enter Try.func15, Try.ntmps15
    go_wp2_with fail
    refine (C1.out _).mono ?_
    rintro e wn ⟨rfl, rfl⟩
    go_wp2
    go_ret
    exact ⟨by rw [HV.out]; rfl, HB.out⟩
  rcases hy : wth b 0 6
  · have HV := hid (show z = 80 by rw [hv, hy]; simp)
    rw [hx] at C1
    rw [hy] at C2
    clear hv hx hy
    go_enter Try.func15, Try.ntmps15
    go_wp2_with fail
    refine (C1.out _).mono ?_
    rintro e wn ⟨rfl, rfl⟩
    go_wp2_with fail
    refine (C2.out _).mono ?_
    rintro e wn ⟨rfl, rfl⟩
    go_wp2
    go_ret
    exact ⟨by rw [HV.out]; rfl, HB.out⟩
  rcases hq : wth c 1 1048576
  · have HV := hid (show z = 80 by rw [hv, hq]; simp)
    rw [hx] at C1
    rw [hy] at C2
    rw [hq] at C3
    clear hv hx hy hq
    go_enter Try.func15, Try.ntmps15
    go_wp2_with fail
    refine (C1.out _).mono ?_
    rintro e wn ⟨rfl, rfl⟩
    go_wp2_with fail
    refine (C2.out _).mono ?_
    rintro e wn ⟨rfl, rfl⟩
    go_wp2_with fail
    refine (C3.out _).mono ?_
    rintro e wn ⟨rfl, rfl⟩
    go_wp2
    go_ret
    exact ⟨by rw [HV.out]; rfl, HB.out⟩
  · have HV := hid (show z = 0 by rw [hv, hx, hy, hq]; simp)
    rw [hx] at C1
    rw [hy] at C2
    rw [hq] at C3
    clear hv hx hy hq
    go_enter Try.func15, Try.ntmps15
    go_wp2_with fail
    refine (C1.out _).mono ?_
    rintro e wn ⟨rfl, rfl⟩
    go_wp2_with fail
    refine (C2.out _).mono ?_
    rintro e wn ⟨rfl, rfl⟩
    go_wp2_with fail
    refine (C3.out _).mono ?_
    rintro e wn ⟨rfl, rfl⟩
    go_wp2
    go_ret
    exact ⟨by rw [HV.out]; rfl, HB.out⟩
end Go.Proofs.Ytlkcnnamnjnmbaa

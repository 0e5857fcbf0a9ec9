/- Contracts: Check, the reference's Check and Compare, Known, Of. -/
import Derived.Test.YtlkcnnamnjnmbaaC2
namespace Go.Proofs.Ytlkcnnamnjnmbaa
open Go.RowKit Go
set_option linter.unusedVariables false
set_option linter.unusedSimpArgs false
set_option maxRecDepth 100000 in
set_option maxHeartbeats 4000000 in
theorem rCheck_any (s : St) (w : World) : Calls Try.prog 16 #[KV s] w fun e w' => e = .returned (.int .i64 (S8.chk s)) ∧ Below w.heap.size w w' := by
  obtain ⟨a, b, c⟩ := s
  have HB := hid ((Below.refl _ w).alloc (Nat.le_refl _) (.cells #[.int .i64 a, .int .i64 b, .int .i64 c] 23))
  by_cases h : S8.ok (a, b, c)
  · have HV := hid (show S8.chk (a, b, c) = 0 from if_pos h)
    obtain ⟨h1, h2, h3, h4, h5, h6⟩ := h
    simp only at h1 h2 h3 h4 h5 h6
    have n1 : ¬ a < 1 := by omega
    have n2 : ¬ 1048576 < a := by omega
    have n3 : ¬ b < 0 := by omega
    have n4 : ¬ 7 ≤ b := by omega
    have n5 : ¬ c < 1 := by omega
    have n6 : ¬ 1048576 < c := by omega
    clear h1 h2 h3 h4 h5 h6
    go_enter Try.func16, Try.ntmps16
    go_wp2
    go_ret
    exact ⟨by rw [HV.out]; rfl, HB.out⟩
  · have HV := hid (show S8.chk (a, b, c) = 80 from if_neg h)
    have hc : a < 1 ∨ 1048576 < a ∨ b < 0 ∨ 7 ≤ b ∨ c < 1 ∨ 1048576 < c := by unfold S8.ok at h; simp only at h; omega
    clear h
    by_cases h1 : a < 1
    · clear hc
      go_enter Try.func16, Try.ntmps16
      go_wp2
      go_ret
      exact ⟨by rw [HV.out]; rfl, HB.out⟩
    by_cases h2 : 1048576 < a
    · clear hc
      go_enter Try.func16, Try.ntmps16
      go_wp2
      go_ret
      exact ⟨by rw [HV.out]; rfl, HB.out⟩
    by_cases h3 : b < 0
    · clear hc
      go_enter Try.func16, Try.ntmps16
      go_wp2
      go_ret
      exact ⟨by rw [HV.out]; rfl, HB.out⟩
    by_cases h4 : 7 ≤ b
    · clear hc
      go_enter Try.func16, Try.ntmps16
      go_wp2
      go_ret
      exact ⟨by rw [HV.out]; rfl, HB.out⟩
    by_cases h5 : c < 1
    · clear hc
      go_enter Try.func16, Try.ntmps16
      go_wp2
      go_ret
      exact ⟨by rw [HV.out]; rfl, HB.out⟩
    · have h6 : 1048576 < c := by omega
      clear hc
      go_enter Try.func16, Try.ntmps16
      go_wp2
      go_ret
      exact ⟨by rw [HV.out]; rfl, HB.out⟩
end Go.Proofs.Ytlkcnnamnjnmbaa

/- Contracts: Check, the reference's Check and Compare, Known, Of. -/
import Derived.Test.YtlkcnnamnjnmbaaC2
namespace Go.Proofs.Ytlkcnnamnjnmbaa
open Go.RowKit Go
set_option linter.unusedVariables false
set_option linter.unusedSimpArgs false
set_option maxRecDepth 100000 in
set_option maxHeartbeats 4000000 in
theorem rCompare_any (a b : St) (w : World) : Calls Try.prog 18 #[KV a, KV b] w fun e w' => e = .returned (.int .i64 (S8.cp a b)) ∧ Below w.heap.size w w' := by
  obtain ⟨a0, a1, a2⟩ := a
  obtain ⟨b0, b1, b2⟩ := b
  have hv := S8.cp_by (a0, a1, a2) (b0, b1, b2)
  simp only at hv
  have C1 := hid (fun W => rcmp_any a0 b0 W)
  have C2 := hid (fun W => rcmp_any a1 b1 W)
  have C3 := hid (fun W => rcmp_any a2 b2 W)
  have HB := hid (((Below.refl _ w).alloc (Nat.le_refl _) (.cells #[.int .i64 a0, .int .i64 a1, .int .i64 a2] 23)).alloc (by simp) (.cells #[.int .i64 b0, .int .i64 b1, .int .i64 b2] 23))
  obtain ⟨z, hz⟩ : ∃ z, z = S8.cp (a0, a1, a2) (b0, b1, b2) := ⟨_, rfl⟩
  obtain ⟨x0, hx0⟩ : ∃ z, z = S8.cn a0 b0 := ⟨_, rfl⟩
  obtain ⟨x1, hx1⟩ : ∃ z, z = S8.cn a1 b1 := ⟨_, rfl⟩
  obtain ⟨x2, hx2⟩ : ∃ z, z = S8.cn a2 b2 := ⟨_, rfl⟩
  rw [← hz, ← hx0, ← hx1, ← hx2] at hv
  rw [← hz]
  rw [← hx0] at C1; rw [← hx1] at C2; rw [← hx2] at C3
  clear hz hx0 hx1 hx2
  by_cases h0 : x0 = 0
  · have k1 : (x0 == 0) = true := by simpa using h0
    by_cases h1 : x1 = 0
    · have k2 : (x1 == 0) = true := by simpa using h1
      have HV := hid (show z = x2 by rw [hv, h0, h1]; rfl)
      clear hv h0 h1
      go_enter Try.func18, Try.ntmps18
      go_wp2_with fail
      refine (C1.out _).mono ?_
      rintro e wn ⟨rfl, rfl⟩
      go_wp2_with fail
      refine (C2.out _).mono ?_
      rintro e wn ⟨rfl, rfl⟩
      go_wp2_with fail
      refine (C3.out _).mono ?_
      rintro e wn ⟨rfl, rfl⟩
      go_wp2
      go_ret
      exact ⟨by rw [HV.out]; rfl, HB.out⟩
    · have k2 : (x1 == 0) = false := by simpa using h1
      have HV := hid (show z = x1 by rw [hv, h0]; simp [h1])
      clear hv h0 h1
      go_enter Try.func18, Try.ntmps18
      go_wp2_with fail
      refine (C1.out _).mono ?_
      rintro e wn ⟨rfl, rfl⟩
      go_wp2_with fail
      refine (C2.out _).mono ?_
      rintro e wn ⟨rfl, rfl⟩
      go_wp2
      go_ret
      exact ⟨by rw [HV.out]; rfl, HB.out⟩
  · have k1 : (x0 == 0) = false := by simpa using h0
    have HV := hid (show z = x0 by rw [hv]; simp [h0])
    clear hv h0
    go_enter Try.func18, Try.ntmps18
    go_wp2_with fail
    refine (C1.out _).mono ?_
    rintro e wn ⟨rfl, rfl⟩
    go_wp2
    go_ret
    exact ⟨by rw [HV.out]; rfl, HB.out⟩
end Go.Proofs.Ytlkcnnamnjnmbaa

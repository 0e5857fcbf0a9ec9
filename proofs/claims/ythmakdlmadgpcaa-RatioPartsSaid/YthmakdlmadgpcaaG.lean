/- Contract of the reference's Check. -/
import Derived.Test.YthmakdlmadgpcaaF
namespace Go.Proofs.Ythmakdlmadgpcaa
open Go.RowKit Go
set_option linter.unusedVariables false
set_option linter.unusedSimpArgs false
theorem chk_eq (p q : Int) : chk p q = if 1 ≤ q ∧ q ≤ 1073741824 ∧ -1073741824 ≤ p ∧ p ≤ 1073741824 ∧ Nat.gcd p.natAbs q.natAbs = 1 then 0 else 50 := by
  rcases chk_cases p q with e | e
  · have h := chk_ok.1 e
    rw [e, if_pos ⟨h.q1, h.q2, h.p1, h.p2, h.co⟩]
  · rw [if_neg, e]
    rintro ⟨h1, h2, h3, h4, h5⟩
    have := chk_ok.2 ⟨h1, h2, h3, h4, h5⟩
    omega
set_option maxRecDepth 100000 in
set_option maxHeartbeats 4000000 in
theorem rCheck_any (p q : Int) (hp : I64 p) (hq : I64 q) (w : World) :
    Calls Try.prog 15 #[RV p q] w fun e w' => e = .returned (.int .i64 (chk p q)) ∧ Below w.heap.size w w' := by
  have HP := hid hp; have HQ := hid hq; clear hp hq
  have HE := hid (chk_eq p q)
  obtain ⟨x0, x1, f0, f1⟩ := new2 w (.int .i64 p) (.int .i64 q) 23
  have HB0 := hid ((Below.refl _ w).alloc (Nat.le_refl _) (.cells #[.int .i64 p, .int .i64 q] 23))
  rcases (by omega : q < 1 ∨ (1 ≤ q ∧ 1073741824 < q) ∨ (1 ≤ q ∧ q ≤ 1073741824 ∧ p < -1073741824) ∨ (1 ≤ q ∧ q ≤ 1073741824 ∧ -1073741824 ≤ p ∧ 1073741824 < p) ∨ (1 ≤ q ∧ q ≤ 1073741824 ∧ -1073741824 ≤ p ∧ p ≤ 1073741824)) with h1 | ⟨h1, h2⟩ | ⟨h1, h2, h3⟩ | ⟨h1, h2, h3, h4⟩ | ⟨h1, h2, h3, h4⟩
  · have hv : chk p q = 50 := by rw [HE.out, if_neg]; omega
    have HV := hid hv; clear hv
    have d1 : decide (q < 1) = true := by simp; omega
    clear h1
    go_enter Try.func15, Try.ntmps15
    go_wp2_with fail
    go_quiet (fail)
    go_wp2
    go_ret
    exact ⟨ret_int HV.out.symm, below_drewN HB0.out _⟩
  · have hv : chk p q = 50 := by rw [HE.out, if_neg]; omega
    have HV := hid hv; clear hv
    have d1 : decide (q < 1) = false := by simp; omega
    have d2 : decide (1073741824 < q) = true := by simp; omega
    clear h1 h2
    go_enter Try.func15, Try.ntmps15
    go_wp2_with fail
    go_quiet (fail)
    go_wp2
    go_ret
    exact ⟨ret_int HV.out.symm, below_drewN HB0.out _⟩
  · have hv : chk p q = 50 := by rw [HE.out, if_neg]; omega
    have HV := hid hv; clear hv
    have d1 : decide (q < 1) = false := by simp; omega
    have d2 : decide (1073741824 < q) = false := by simp; omega
    have d3 : decide (p < -1073741824) = true := by simp; omega
    clear h1 h2 h3
    go_enter Try.func15, Try.ntmps15
    go_wp2_with fail
    go_quiet (fail)
    go_wp2
    go_ret
    exact ⟨ret_int HV.out.symm, below_drewN HB0.out _⟩
  · have hv : chk p q = 50 := by rw [HE.out, if_neg]; omega
    have HV := hid hv; clear hv
    have d1 : decide (q < 1) = false := by simp; omega
    have d2 : decide (1073741824 < q) = false := by simp; omega
    have d3 : decide (p < -1073741824) = false := by simp; omega
    have d4 : decide (1073741824 < p) = true := by simp; omega
    clear h1 h2 h3 h4
    go_enter Try.func15, Try.ntmps15
    go_wp2_with fail
    go_quiet (fail)
    go_wp2
    go_ret
    exact ⟨ret_int HV.out.symm, below_drewN HB0.out _⟩
  · obtain ⟨g, hg⟩ : ∃ g, g = Nat.gcd p.natAbs q.natAbs := ⟨_, rfl⟩
    have hv : chk p q = if g = 1 then 0 else 50 := by rw [HE.out, hg]; simp [h1, h2, h3, h4]
    have HV := hid hv; have HG := hid hg; clear hv hg
    have hc : ∀ w, Calls Try.prog 27 #[.int .u64 (p.natAbs : Int), .int .u64 (q.natAbs : Int)] w fun e w' => e = .returned (.int .u64 (g : Int)) ∧ ∃ n, w' = w.drewN n := fun w => (rcommon_any _ _ w).mono fun e w' h => ⟨by rw [h.1, HG.out], h.2⟩
    have HC := hid hc; clear hc
    have d1 : decide (q < 1) = false := by simp; omega
    have d2 : decide (1073741824 < q) = false := by simp; omega
    have d3 : decide (p < -1073741824) = false := by simp; omega
    have d4 : decide (1073741824 < p) = false := by simp; omega
    clear h1 h2 h3 h4
    by_cases hg1 : g = 1
    · subst hg1
      go_enter Try.func15, Try.ntmps15
      go_wp2_with fail
      go_quiet (first | (go_at_call 27; exact Calls.quiet_of (HC.out _)) | (go_at_call_of 28 (Value.int .i64 p); exact Calls.quiet_of_same ((rsize_any p HP.out _).mono fun e w' h => ⟨h.1, h.2.symm⟩)) | (go_at_call_of 28 (Value.int .i64 q); exact Calls.quiet_of_same ((rsize_any q HQ.out _).mono fun e w' h => ⟨h.1, h.2.symm⟩)))
      go_wp2
      go_ret
      exact ⟨ret_int (by rw [HV.out]; rfl), below_drewN HB0.out _⟩
    · have hgi : ¬ (g : Int) = 1 := by omega
      have hgb : ((g : Int) == 1) = false := by simp; omega
      go_enter Try.func15, Try.ntmps15
      go_wp2_with fail
      go_quiet (first | (go_at_call 27; exact Calls.quiet_of (HC.out _)) | (go_at_call_of 28 (Value.int .i64 p); exact Calls.quiet_of_same ((rsize_any p HP.out _).mono fun e w' h => ⟨h.1, h.2.symm⟩)) | (go_at_call_of 28 (Value.int .i64 q); exact Calls.quiet_of_same ((rsize_any q HQ.out _).mono fun e w' h => ⟨h.1, h.2.symm⟩)))
      go_wp2
      go_ret
      exact ⟨ret_int (by rw [HV.out, if_neg hg1]), below_drewN HB0.out _⟩
end Go.Proofs.Ythmakdlmadgpcaa

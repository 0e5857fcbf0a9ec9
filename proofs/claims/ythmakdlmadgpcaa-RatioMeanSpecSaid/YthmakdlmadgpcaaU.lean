/- The law of Mean. -/
import Derived.Test.YthmakdlmadgpcaaS
namespace Go.Proofs.Ythmakdlmadgpcaa
open Go.RowKit Go
set_option linter.unusedVariables false
set_option linter.unusedSimpArgs false
set_option maxRecDepth 100000 in
theorem rMean_any (v1 v2 : Value) (xs ys : List Int) (hx : Hid (∀ x ∈ xs, I64 x)) (w : World) (hv1 : IS .i64 w v1 xs) (hv2 : IS .i64 w v2 ys) :
    Calls Try.prog 23 #[v1, v2] w fun e w' => e = .returned (RR (mn xs ys)) ∧ Below w.heap.size w w' := by
  obtain ⟨p1, c1, rfl⟩ := hv1.form
  obtain ⟨p2, c2, rfl⟩ := hv2.form
  have hr1 := hv1.rd; have hr2 := hv2.rd
  have hm1 := hv1.len; have hm2 := hv2.len
  unfold maxLen at hm1 hm2
  by_cases hl : xs.length = ys.length
  · have h := rMean_eq p1 p2 c1 c2 xs.length xs ys hx (hid rfl) (hid hl) (by omega) w (hid hr1) (hid hr2)
    rw [← hl]
    exact h
  · have hv : mn xs ys = (0, 0, 1) := by
      have hc : wchk xs ys = 1 := by unfold wchk; rw [if_neg]; rintro ⟨h, _⟩; exact hl h
      unfold mn; rw [hc]; rfl
    have HV := hid hv
    obtain ⟨l1, hl1⟩ : ∃ l1, l1 = xs.length := ⟨_, rfl⟩
    obtain ⟨l2, hl2⟩ : ∃ l2, l2 = ys.length := ⟨_, rfl⟩
    rw [← hl1] at hl hm1 ⊢; rw [← hl2] at hl hm2 ⊢
    have hne : ((l1 : Int) == (l2 : Int)) = false := by simp; omega
    have HF := hid (fr_new w 0 0)
    have T0 := hid ((Below.refl _ w).alloc (Nat.le_refl _) (.cells #[.int .i64 0, .int .i64 0] 23))
    clear hv hl1 hl2 hr1 hr2 hv1 hv2 hx
    go_enter Try.func23, Try.ntmps23
    go_wp2
    rw [HV.out]
    exact bodyPost_ret (v := RR (0, 0, 1)) (by simp [results, Try.results23, go_sem]) rfl ⟨rfl, T0.out⟩
set_option maxRecDepth 100000 in
set_option maxHeartbeats 4000000 in
theorem meanspec_any (v1 v2 : Value) (xs ys : List Int) (hx : ∀ x ∈ xs, I64 x) (w : World) (hv1 : IS .i64 w v1 xs) (hv2 : IS .i64 w v2 ys) :
    Calls Try.prog 5 #[v1, v2] w fun e w' => e = .returned (.bool true) ∧ Below w.heap.size w w' := by
  have HX := hid hx; have HV1 := hid hv1; have HV2 := hid hv2
  obtain ⟨⟨x1, x2, x3⟩, hM⟩ : ∃ x, x = mn xs ys := ⟨_, rfl⟩
  have HM := hid hM
  obtain ⟨p1, c1, e1⟩ := hv1.form
  obtain ⟨p2, c2, e2⟩ := hv2.form
  obtain ⟨l1, hl1⟩ : ∃ l1, l1 = xs.length := ⟨_, rfl⟩
  obtain ⟨l2, hl2⟩ : ∃ l2, l2 = ys.length := ⟨_, rfl⟩
  have hm1 := hv1.len; have hm2 := hv2.len
  unfold maxLen at hm1 hm2
  rw [← hl1] at e1 hm1; rw [← hl2] at e2 hm2
  have T0 := hid (Below.refl w.heap.size w)
  have HE1 := hid e1; have HE2 := hid e2
  clear hx hv1 hv2 hM hl1 hl2
  subst e1 e2
  by_cases h1 : 2000 < l1
  · go_enter Try.func5, Try.ntmps5
    go_wp2_with fail
    refine (sane_any _).mono ?_
    rintro e w1 ⟨rfl, hb1⟩
    have T1 := hid (below_t T0.out hb1)
    clear hb1
    go_wp2
    go_ret
    exact ⟨rfl, T1.out⟩
  · by_cases h2 : 2000 < l2
    · go_enter Try.func5, Try.ntmps5
      go_wp2_with fail
      refine (sane_any _).mono ?_
      rintro e w1 ⟨rfl, hb1⟩
      have T1 := hid (below_t T0.out hb1)
      clear hb1
      go_wp2
      go_ret
      exact ⟨rfl, T1.out⟩
    · go_enter Try.func5, Try.ntmps5
      go_wp2_with fail
      refine (sane_any _).mono ?_
      rintro e w1 ⟨rfl, hb1⟩
      have HV1 := hid (HV1.out.ups hb1)
      have HV2 := hid (HV2.out.ups hb1)
      have T1 := hid (below_t T0.out hb1)
      clear hb1
      go_wp2_with fail
      refine (Mean_any _ _ xs ys HX _ HV1.out HV2.out).mono ?_
      rintro e w2 ⟨rfl, hb2⟩
      rw [← HM.out]
      have HV1 := hid (HV1.out.ups hb2)
      have HV2 := hid (HV2.out.ups hb2)
      have T2 := hid (below_t T1.out hb2)
      clear hb2
      have A0 : Below w2.heap.size w2 (w2.alloc (.cells #[.int .i64 (x1), .int .i64 (x2)] 23)) := (Below.refl _ _).alloc (Nat.le_refl _) _
      have HV1 := hid (HV1.out.ups A0)
      have HV2 := hid (HV2.out.ups A0)
      have F2 := hid (fr_new w2 (x1) (x2))
      have T2 := hid (below_t T2.out A0)
      clear A0
      go_wp2_with fail
      refine (rMean_any _ _ xs ys HX _ HV1.out HV2.out).mono ?_
      rintro e w3 ⟨rfl, hb3⟩
      rw [← HM.out]
      have HV1 := hid (HV1.out.ups hb3)
      have HV2 := hid (HV2.out.ups hb3)
      have F2 := hid (F2.out.ups hb3)
      have T3 := hid (below_t T2.out hb3)
      clear hb3
      have A0 : Below w3.heap.size w3 (w3.alloc (.cells #[.int .i64 (x1), .int .i64 (x2)] 23)) := (Below.refl _ _).alloc (Nat.le_refl _) _
      have HV1 := hid (HV1.out.ups A0)
      have HV2 := hid (HV2.out.ups A0)
      have F2 := hid (F2.out.ups A0)
      have F3 := hid (fr_new w3 (x1) (x2))
      have T3 := hid (below_t T3.out A0)
      clear A0
      obtain ⟨F2c0, F2c1, _, _⟩ := F2.out
      obtain ⟨F3c0, F3c1, _, _⟩ := F3.out
      clear HM HV1 HV2 HX
      go_wp2
      go_ret
      exact ⟨by simp, T3.out⟩
end Go.Proofs.Ythmakdlmadgpcaa

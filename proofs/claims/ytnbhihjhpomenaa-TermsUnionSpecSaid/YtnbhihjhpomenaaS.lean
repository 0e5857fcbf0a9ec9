/- Contracts: Few, few, Same of the reference; the chapter's examples. -/
import Derived.Test.YtnbhihjhpomenaaGU
import Derived.Test.YtnbhihjhpomenaaGM
import Derived.Test.YtnbhihjhpomenaaGN
import Derived.Laws.StructEq
namespace Go.Proofs.Ytnbhihjhpomenaa
open Go.RowKit Go
set_option linter.unusedVariables false
set_option linter.unusedSimpArgs false
theorem Few_any (v : Value) (l : Sp) (w : World) (hv : SS w v l) : Calls Try.prog 11 #[v] w fun e w' => e = .returned (.bool (decide (l.length ≤ 40))) ∧ w' = w := by
  obtain ⟨p, cap, rfl⟩ := hv.form
  have hm := hv.len
  unfold maxLen at hm
  obtain ⟨n, hn⟩ : ∃ n, n = l.length := ⟨_, rfl⟩
  rw [← hn] at hm ⊢
  clear hv hn
  go_enter Try.func11, Try.ntmps11
  go_wp2
  go_ret
  refine ⟨?_, rfl⟩
  have e : decide ((n : Int) ≤ 40) = decide (n ≤ 40) := decide_eq_decide.2 (by omega)
  rw [← e]
  rfl
theorem few_any (va vb : Value) (a b : Sp) (w : World) (hva : SS w va a) (hvb : SS w vb b) : Calls Try.prog 18 #[va, vb] w fun e w' => e = .returned (.bool (decide (a.length ≤ 40) && decide (b.length ≤ 40))) ∧ w' = w := by
  obtain ⟨pa, ca, hfa⟩ := hva.form
  obtain ⟨pb, cb', hfb⟩ := hvb.form
  obtain ⟨na, hna⟩ : ∃ n, n = a.length := ⟨_, rfl⟩
  obtain ⟨nb, hnb⟩ : ∃ n, n = b.length := ⟨_, rfl⟩
  rw [← hna] at hfa; rw [← hnb] at hfb
  subst hfa; subst hfb
  have HA := hid (Few_any _ a w hva); have HB := hid (Few_any _ b w hvb)
  clear hva hvb hna hnb
  cases h1 : decide (a.length ≤ 40)
  · rw [h1] at HA
    clear h1
    go_enter Try.func18, Try.ntmps18
    go_wp2_with (go_at_call 11; refine HA.out.mono ?_; rintro e w1 ⟨rfl, rfl⟩)
    go_ret
    exact ⟨rfl, rfl⟩
  · rw [h1] at HA
    generalize decide (b.length ≤ 40) = z at *
    clear h1
    go_enter Try.func18, Try.ntmps18
    go_wp2_with (first | (go_at_call_of 11 na; refine HA.out.mono ?_; rintro e w1 ⟨rfl, rfl⟩) | (refine HB.out.mono ?_; rintro e w1 ⟨rfl, rfl⟩))
    go_ret
    exact ⟨by simp, rfl⟩
theorem drewN_two (w : World) (n m : Nat) : (w.drewN n).drewN m = w.drewN (n + m) := by simp [World.drewN, Nat.add_assoc]
set_option maxRecDepth 100000 in
theorem Same_any (va vb : Value) (a b : Sp) (w : World) (hva : SS w va a) (hvb : SS w vb b) : Calls Try.prog 25 #[va, vb] w fun e w' => e = .returned (.bool (decide (a = b))) ∧ ∃ n, w' = w.drewN n := by
  obtain ⟨pa, ca, hfa⟩ := hva.form
  obtain ⟨pb, cb', hfb⟩ := hvb.form
  obtain ⟨na, hna⟩ : ∃ n, n = a.length := ⟨_, rfl⟩
  obtain ⟨nb, hnb⟩ : ∃ n, n = b.length := ⟨_, rfl⟩
  rw [← hna] at hfa; rw [← hnb] at hfb
  subst hfa; subst hfb
  have hma := hva.len; have hmb := hvb.len
  rw [← hna] at hma; rw [← hnb] at hmb
  unfold maxLen at hma hmb
  have HRA := hid hva.rs; have HRB := hid hvb.rs; have HNA := hid hna; have HNB := hid hnb
  clear hva hvb hna hnb
  by_cases hl : na = nb
  · subst hl
    go_enter Try.func25, Try.ntmps25
    go_wp2
    go_loopw [5] (fun i w1 => ∃ k n : Nat, k ≤ na ∧ i = .int .i64 k ∧ w1 = w.drewN n ∧ Hid (a.take k = b.take k)) (fun i _ => na - (intOf i).toNat)
    case atStart => exact ⟨0, 0, by omega, rfl, rfl, hid (by simp)⟩
    case round =>
      obtain ⟨k, n, hk, rfl, rfl, heq⟩ := hrel
      by_cases hlt : k < na
      · obtain ⟨f, t, hi⟩ := get_lt (l := a) (i := k) (by rw [← HNA.out]; exact hlt)
        obtain ⟨f', t', hj⟩ := get_lt (l := b) (i := k) (by rw [← HNB.out]; exact hlt)
        obtain ⟨b1, o1, rfl, _, c1, c2⟩ := HRA.out k f t hi
        obtain ⟨b2, o2, rfl, _, d1, d2⟩ := HRB.out k f' t' hj
        by_cases he : f = f' ∧ t = t'
        · obtain ⟨rfl, rfl⟩ := he
          have hnext : a.take (k + 1) = b.take (k + 1) := by rw [take_snoc hi, take_snoc hj, heq.out]
          have HX := hid hnext
          clear hnext hi hj heq
          go_wp2
          go_quiet (fail)
          go_wp2
          go_roundw
          case rel => exact ⟨k + 1, n + nq, by omega, by go_num, (by first | exact drewN_two _ _ _ | rfl), HX⟩
          case measure => simp [intOf]; omega
        · have hne : decide (a = b) = false := decide_eq_false (fun e => he (by rw [e, hj] at hi; simp at hi; exact ⟨hi.1.symm, hi.2.symm⟩))
          have HX := hid hne
          clear hne hi hj heq
          rcases (by omega : f ≠ f' ∨ (f = f' ∧ t ≠ t')) with h | ⟨rfl, h⟩
          · have hb : (f == f') = false := by simp [h]
            clear he h
            go_wp2
            go_quiet (fail)
            go_wp2
            go_ret
            exact ⟨by rw [HX.out]; rfl, _, (by first | exact drewN_two _ _ _ | rfl)⟩
          · have hb : (t == t') = false := by simp [h]
            clear he h
            go_wp2
            go_quiet (fail)
            go_wp2
            go_ret
            exact ⟨by rw [HX.out]; rfl, _, (by first | exact drewN_two _ _ _ | rfl)⟩
      · have hd : decide (a = b) = true := by
          have h := heq.out
          rw [show k = na by omega, HNA.out, List.take_length, ← HNA.out, HNB.out, List.take_length] at h
          simpa using h
        have HD := hid hd
        clear hd heq
        go_wp2
        go_ret
        exact ⟨by rw [HD.out]; rfl, _, rfl⟩
  · have hd : decide (a = b) = false := decide_eq_false (fun e => hl (by rw [HNA.out, HNB.out, e]))
    have HD := hid hd
    have hne : ((na : Int) == (nb : Int)) = false := by simp; omega
    clear hd
    go_enter Try.func25, Try.ntmps25
    go_wp2
    go_ret
    exact ⟨by rw [HD.out]; rfl, 0, rfl⟩
end Go.Proofs.Ytnbhihjhpomenaa

/- Contracts of the reference: Before, Valid. -/
import Derived.Test.YtbejjindkcjecaaSane
namespace Go.Proofs.Ytbejjindkcjecaa
open Go.RowKit Go
set_option linter.unusedVariables false
set_option linter.unusedSimpArgs false
set_option maxRecDepth 100000 in
set_option maxHeartbeats 4000000 in
theorem before_any (f g : FA) (w : World) : Calls Try.prog 30 #[FV f, FV g] w fun e w' => e = .returned (.bool (decide (F7.bef f g))) ∧ Below w.heap.size w w' := by
  have hb : Below w.heap.size w ((w.alloc (.cells (fc f).toArray 28)).alloc (.cells (fc g).toArray 28)) := ((Below.refl _ w).alloc (Nat.le_refl _) _).alloc (by simp) _
  by_cases h1 : f.known < g.known
  · have hd : decide (F7.bef f g) = true := decide_eq_true (.inl h1)
    rw [hd]
    go_enter Try.func30, Try.ntmps30
    go_wp2
    go_ret
    exact ⟨rfl, hb⟩
  · by_cases h2 : f.known = g.known
    · obtain ⟨f1, f2, f3, f4, f5, f6, f7, f8⟩ := f
      obtain ⟨g1, g2, g3, g4, g5, g6, g7, g8⟩ := g
      simp only at h1 h2
      subst h2
      by_cases h3 : f8 < g8
      · have hd : decide (F7.bef (⟨f1, f2, f3, f4, f5, f6, f7, f8⟩ : FA) ⟨g1, g2, g3, g4, g5, g6, f7, g8⟩) = true := decide_eq_true (.inr ⟨rfl, h3⟩)
        rw [hd]
        go_enter Try.func30, Try.ntmps30
        go_wp2
        go_ret
        exact ⟨rfl, hb⟩
      · have hd : decide (F7.bef (⟨f1, f2, f3, f4, f5, f6, f7, f8⟩ : FA) ⟨g1, g2, g3, g4, g5, g6, f7, g8⟩) = false := decide_eq_false (by unfold F7.bef; simp only; omega)
        rw [hd]
        go_enter Try.func30, Try.ntmps30
        go_wp2
        go_ret
        exact ⟨rfl, hb⟩
    · have hd : decide (F7.bef f g) = false := decide_eq_false (by unfold F7.bef; omega)
      rw [hd]
      go_enter Try.func30, Try.ntmps30
      go_wp2
      go_ret
      exact ⟨rfl, hb⟩
theorem vld_iff (f : FA) : vld f = true ↔ 1 ≤ f.kind ∧ f.kind ≤ 12 ∧ 0 ≤ f.subj ∧ f.subj ≤ 20000 ∧ 0 ≤ f.obj ∧ f.obj ≤ 20000 ∧ -1 ≤ f.val ∧ f.val ≤ 1099511627776 ∧ 0 ≤ f.frm ∧ f.frm < f.to ∧ f.to ≤ 1024 ∧ 1 ≤ f.known ∧ f.known ≤ 16777216 ∧ 0 ≤ f.no ∧ f.no ≤ 65535 := by
  unfold vld wth chk1
  by_cases h : 0 ≤ f.frm ∧ f.frm < f.to ∧ f.to ≤ 1024
  · rw [if_pos h]; simp; omega
  · rw [if_neg h]; simp; omega
set_option maxRecDepth 100000 in
set_option maxHeartbeats 8000000 in
theorem refValid_any (f : FA) (w : World) : Calls Try.prog 35 #[FV f] w fun e w' => e = .returned (.bool (vld f)) ∧ Below w.heap.size w w' := by
  have hb : Below w.heap.size w ((w.alloc (.cells (fc f).toArray 28)).alloc (.cells (kc f.key).toArray 24)) := ((Below.refl _ w).alloc (Nat.le_refl _) _).alloc (by simp) _
  obtain ⟨f1, f2, f3, f4, f5, f6, f7, f8⟩ := f
  have hv := vld_iff ⟨f1, f2, f3, f4, f5, f6, f7, f8⟩
  simp only at hv
  generalize vld ⟨f1, f2, f3, f4, f5, f6, f7, f8⟩ = b at *
  have HV := hid hv
  clear hv
  by_cases c0 : 1 ≤ f1
  case neg =>
    have e : b = false := by
      cases b
      · rfl
      · exact absurd (HV.out.1 rfl) (by omega)
    subst e
    clear HV
    go_enter Try.func35, Try.ntmps35
    go_wp2
    go_ret
    exact ⟨rfl, hb⟩
  by_cases c1 : f1 ≤ 12
  case neg =>
    have e : b = false := by
      cases b
      · rfl
      · exact absurd (HV.out.1 rfl) (by omega)
    subst e
    clear HV
    go_enter Try.func35, Try.ntmps35
    go_wp2
    go_ret
    exact ⟨rfl, hb⟩
  by_cases c2 : 0 ≤ f2
  case neg =>
    have e : b = false := by
      cases b
      · rfl
      · exact absurd (HV.out.1 rfl) (by omega)
    subst e
    clear HV
    go_enter Try.func35, Try.ntmps35
    go_wp2
    go_ret
    exact ⟨rfl, hb⟩
  by_cases c3 : f2 ≤ 20000
  case neg =>
    have e : b = false := by
      cases b
      · rfl
      · exact absurd (HV.out.1 rfl) (by omega)
    subst e
    clear HV
    go_enter Try.func35, Try.ntmps35
    go_wp2
    go_ret
    exact ⟨rfl, hb⟩
  by_cases c4 : 0 ≤ f3
  case neg =>
    have e : b = false := by
      cases b
      · rfl
      · exact absurd (HV.out.1 rfl) (by omega)
    subst e
    clear HV
    go_enter Try.func35, Try.ntmps35
    go_wp2
    go_ret
    exact ⟨rfl, hb⟩
  by_cases c5 : f3 ≤ 20000
  case neg =>
    have e : b = false := by
      cases b
      · rfl
      · exact absurd (HV.out.1 rfl) (by omega)
    subst e
    clear HV
    go_enter Try.func35, Try.ntmps35
    go_wp2
    go_ret
    exact ⟨rfl, hb⟩
  by_cases c6 : -1 ≤ f4
  case neg =>
    have e : b = false := by
      cases b
      · rfl
      · exact absurd (HV.out.1 rfl) (by omega)
    subst e
    clear HV
    go_enter Try.func35, Try.ntmps35
    go_wp2
    go_ret
    exact ⟨rfl, hb⟩
  by_cases c7 : f4 ≤ 1099511627776
  case neg =>
    have e : b = false := by
      cases b
      · rfl
      · exact absurd (HV.out.1 rfl) (by omega)
    subst e
    clear HV
    go_enter Try.func35, Try.ntmps35
    go_wp2
    go_ret
    exact ⟨rfl, hb⟩
  by_cases c8 : 0 ≤ f5
  case neg =>
    have e : b = false := by
      cases b
      · rfl
      · exact absurd (HV.out.1 rfl) (by omega)
    subst e
    clear HV
    go_enter Try.func35, Try.ntmps35
    go_wp2
    go_ret
    exact ⟨rfl, hb⟩
  by_cases c9 : f5 < f6
  case neg =>
    have e : b = false := by
      cases b
      · rfl
      · exact absurd (HV.out.1 rfl) (by omega)
    subst e
    clear HV
    go_enter Try.func35, Try.ntmps35
    go_wp2
    go_ret
    exact ⟨rfl, hb⟩
  by_cases c10 : f6 ≤ 1024
  case neg =>
    have e : b = false := by
      cases b
      · rfl
      · exact absurd (HV.out.1 rfl) (by omega)
    subst e
    clear HV
    go_enter Try.func35, Try.ntmps35
    go_wp2
    go_ret
    exact ⟨rfl, hb⟩
  by_cases c11 : 1 ≤ f7
  case neg =>
    have e : b = false := by
      cases b
      · rfl
      · exact absurd (HV.out.1 rfl) (by omega)
    subst e
    clear HV
    go_enter Try.func35, Try.ntmps35
    go_wp2
    go_ret
    exact ⟨rfl, hb⟩
  by_cases c12 : f7 ≤ 16777216
  case neg =>
    have e : b = false := by
      cases b
      · rfl
      · exact absurd (HV.out.1 rfl) (by omega)
    subst e
    clear HV
    go_enter Try.func35, Try.ntmps35
    go_wp2
    go_ret
    exact ⟨rfl, hb⟩
  by_cases c13 : 0 ≤ f8
  case neg =>
    have e : b = false := by
      cases b
      · rfl
      · exact absurd (HV.out.1 rfl) (by omega)
    subst e
    clear HV
    go_enter Try.func35, Try.ntmps35
    go_wp2
    go_ret
    exact ⟨rfl, hb⟩
  by_cases c14 : f8 ≤ 65535
  case neg =>
    have e : b = false := by
      cases b
      · rfl
      · exact absurd (HV.out.1 rfl) (by omega)
    subst e
    clear HV
    go_enter Try.func35, Try.ntmps35
    go_wp2
    go_ret
    exact ⟨rfl, hb⟩
  have e : b = true := HV.out.2 ⟨c0, c1, c2, c3, c4, c5, c6, c7, c8, c9, c10, c11, c12, c13, c14⟩
  subst e
  clear HV
  go_enter Try.func35, Try.ntmps35
  go_wp2
  go_ret
  exact ⟨rfl, hb⟩
end Go.Proofs.Ytbejjindkcjecaa

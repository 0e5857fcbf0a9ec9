/- The law of means of parts. -/
import Derived.Test.YthmakdlmadgpcaaPw
namespace Go.Proofs.Ythmakdlmadgpcaa
open Go.RowKit Go
set_option linter.unusedVariables false
set_option linter.unusedSimpArgs false
set_option maxRecDepth 100000 in
theorem parts_any (v1 v2 : Value) (t : Int) (xs ys : List Int) (hx : ∀ x ∈ xs, -128 ≤ x ∧ x ≤ 127) (hy : ∀ x ∈ ys, 0 ≤ x ∧ x ≤ 255) (ht : 0 ≤ t ∧ t ≤ 255) (w : World) (hv1 : IS .i8 w v1 xs) (hv2 : IS .u8 w v2 ys) :
    Calls Try.prog 10 #[v1, v2, .int .u8 t] w fun e w' => e = .returned (.bool true) ∧ Below w.heap.size w w' := by
  obtain ⟨p1, c1, rfl⟩ := hv1.form
  obtain ⟨p2, c2, rfl⟩ := hv2.form
  have hr1 := hid hv1.rd; have hr2 := hid hv2.rd
  have hm1 := hv1.len; have hm2 := hv2.len
  unfold maxLen at hm1 hm2
  obtain ⟨l1, hl1⟩ : ∃ l1, l1 = xs.length := ⟨_, rfl⟩
  obtain ⟨l2, hl2⟩ : ∃ l2, l2 = ys.length := ⟨_, rfl⟩
  have HX := hid (show Sm xs ys from ⟨hx, hy⟩)
  rw [← hl1] at hm1 ⊢; rw [← hl2] at hm2 ⊢
  have HL1 := hid hl1; have HL2 := hid hl2
  have T0 := hid (Below.refl w.heap.size w)
  obtain ⟨ht0, ht1⟩ := ht
  clear hl1 hl2 hv1 hv2 hx hy
  by_cases h1 : 40 < l1
  · go_enter Try.func10, Try.ntmps10
    go_wp2_with fail
    refine (sane_any _).mono ?_
    rintro e w1 ⟨rfl, hb1⟩
    have T1 := hid (below_t T0.out hb1)
    clear hb1
    go_wp2
    go_ret
    exact ⟨rfl, T1.out⟩
  · by_cases h2 : l2 < l1
    · go_enter Try.func10, Try.ntmps10
      go_wp2_with fail
      refine (sane_any _).mono ?_
      rintro e w1 ⟨rfl, hb1⟩
      have T1 := hid (below_t T0.out hb1)
      clear hb1
      go_wp2
      go_ret
      exact ⟨rfl, T1.out⟩
    · have hk0 : 0 ≤ t % ((l1 : Int) + 1) := Int.emod_nonneg _ (by omega)
      have hk1 : t % ((l1 : Int) + 1) < (l1 : Int) + 1 := Int.emod_lt_of_pos _ (by omega)
      obtain ⟨k, hk⟩ : ∃ k : Nat, t % ((l1 : Int) + 1) = (k : Int) := ⟨(t % ((l1 : Int) + 1)).toNat, by omega⟩
      exact parts_main p1 p2 c1 c2 l1 l2 k t xs ys HX HL1 HL2 (by omega) (by omega) hm2 ht0 ht1 (by omega) hk w hr1 hr2
end Go.Proofs.Ythmakdlmadgpcaa

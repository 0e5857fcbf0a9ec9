/- The law of Union, Meet and Minus. -/
import Derived.Test.YtnbhihjhpomenaaRc1
import Derived.Test.YtnbhihjhpomenaaRc2
import Derived.Test.YtnbhihjhpomenaaRc3
namespace Go.Proofs.Ytnbhihjhpomenaa
open Go.RowKit Go
set_option linter.unusedVariables false
set_option linter.unusedSimpArgs false
set_option maxRecDepth 100000 in
set_option maxHeartbeats 16000000 in
theorem unionspec_any (va vb : Value) (a b : Sp) (w : World) (hva : SS w va a) (hvb : SS w vb b) : Calls Try.prog 4 #[va, vb] w fun e w' => e = .returned (.bool true) ∧ Below w.heap.size w w' := by
  have HVA := hid hva; have HVB := hid hvb
  have HB := hid (Below.refl w.heap.size w)
  clear hva hvb
  rcases tf (decide (a.length ≤ 40) && decide (b.length ≤ 40)) with hf | hf
  · skip
    obtain ⟨E, hE⟩ : ∃ z, z = ce a b := ⟨_, rfl⟩
    have HE := hid hE
    clear hE
    have HF := hid hf; clear hf
    go_enter Try.func4, Try.ntmps4
    go_wp2_with fail
    refine (sane_any _ ).mono ?_
    rintro e w1 ⟨rfl, hb⟩
    replace HVA := hid (HVA.out.ups hb)
    replace HVB := hid (HVB.out.ups hb)
    replace HB := hid (HB.out.trans (hb.mono HB.out.size))
    clear hb
    go_wp2_with fail
    refine (few_b _ _ a b _ HVA.out HVB.out).mono ?_
    rw [HF.out]
    rintro e w2 ⟨rfl, hb⟩
    replace HVA := hid (HVA.out.ups hb)
    replace HVB := hid (HVB.out.ups hb)
    replace HB := hid (HB.out.trans (hb.mono HB.out.size))
    clear hb
    go_wp2_with fail
    refine (Union_any _ _ _ _ _ HVA.out HVB.out).mono ?_
    rw [← HE.out]
    rintro e w3 ⟨uX, rfl, hX, hb⟩
    replace HVA := hid (HVA.out.ups hb)
    replace HVB := hid (HVB.out.ups hb)
    replace HB := hid (HB.out.trans (hb.mono HB.out.size))
    clear hb
    have HX := hid hX; clear hX
    go_wp2_with fail
    refine (rUnion_any _ _ _ _ _ HVA.out HVB.out).mono ?_
    rw [← HE.out]
    rintro e w4 ⟨uXr, rfl, hXr, hb⟩
    replace HVA := hid (HVA.out.ups hb)
    replace HVB := hid (HVB.out.ups hb)
    replace HX := hid (HX.out.ups hb)
    replace HB := hid (HB.out.trans (hb.mono HB.out.size))
    clear hb
    have HXr := hid hXr; clear hXr
    go_wp2_with fail
    refine (Meet_any _ _ _ _ _ HVA.out HVB.out).mono ?_
    rw [← HE.out]
    rintro e w5 ⟨uP, rfl, hP, hb⟩
    replace HVA := hid (HVA.out.ups hb)
    replace HVB := hid (HVB.out.ups hb)
    replace HX := hid (HX.out.ups hb)
    replace HXr := hid (HXr.out.ups hb)
    replace HB := hid (HB.out.trans (hb.mono HB.out.size))
    clear hb
    have HP := hid hP; clear hP
    go_wp2_with fail
    refine (rMeet_any _ _ _ _ _ HVA.out HVB.out).mono ?_
    rw [← HE.out]
    rintro e w6 ⟨uPr, rfl, hPr, hb⟩
    replace HVA := hid (HVA.out.ups hb)
    replace HVB := hid (HVB.out.ups hb)
    replace HX := hid (HX.out.ups hb)
    replace HXr := hid (HXr.out.ups hb)
    replace HP := hid (HP.out.ups hb)
    replace HB := hid (HB.out.trans (hb.mono HB.out.size))
    clear hb
    have HPr := hid hPr; clear hPr
    go_wp2_with fail
    refine (Minus_any _ _ _ _ _ HVA.out HVB.out).mono ?_
    rw [← HE.out]
    rintro e w7 ⟨uU, rfl, hU, hb⟩
    replace HVA := hid (HVA.out.ups hb)
    replace HVB := hid (HVB.out.ups hb)
    replace HX := hid (HX.out.ups hb)
    replace HXr := hid (HXr.out.ups hb)
    replace HP := hid (HP.out.ups hb)
    replace HPr := hid (HPr.out.ups hb)
    replace HB := hid (HB.out.trans (hb.mono HB.out.size))
    clear hb
    have HU := hid hU; clear hU
    go_wp2_with fail
    refine (rMinus_any _ _ _ _ _ HVA.out HVB.out).mono ?_
    rw [← HE.out]
    rintro e w8 ⟨uUr, rfl, hUr, hb⟩
    replace HVA := hid (HVA.out.ups hb)
    replace HVB := hid (HVB.out.ups hb)
    replace HX := hid (HX.out.ups hb)
    replace HXr := hid (HXr.out.ups hb)
    replace HP := hid (HP.out.ups hb)
    replace HPr := hid (HPr.out.ups hb)
    replace HU := hid (HU.out.ups hb)
    replace HB := hid (HB.out.trans (hb.mono HB.out.size))
    clear hb
    have HUr := hid hUr; clear hUr
    go_wp2_with fail
    refine (Same_b _ _ (cb pOr a b) (cb pOr a b) _ HX.out HXr.out).mono ?_
    rw [show decide (cb pOr a b = cb pOr a b) = true from by simp]
    rintro e w9 ⟨rfl, hb⟩
    replace HVA := hid (HVA.out.ups hb)
    replace HVB := hid (HVB.out.ups hb)
    replace HX := hid (HX.out.ups hb)
    replace HXr := hid (HXr.out.ups hb)
    replace HP := hid (HP.out.ups hb)
    replace HPr := hid (HPr.out.ups hb)
    replace HU := hid (HU.out.ups hb)
    replace HUr := hid (HUr.out.ups hb)
    replace HB := hid (HB.out.trans (hb.mono HB.out.size))
    clear hb
    go_wp2_with fail
    refine (Same_b _ _ (cb pAnd a b) (cb pAnd a b) _ HP.out HPr.out).mono ?_
    rw [show decide (cb pAnd a b = cb pAnd a b) = true from by simp]
    rintro e w10 ⟨rfl, hb⟩
    replace HVA := hid (HVA.out.ups hb)
    replace HVB := hid (HVB.out.ups hb)
    replace HX := hid (HX.out.ups hb)
    replace HXr := hid (HXr.out.ups hb)
    replace HP := hid (HP.out.ups hb)
    replace HPr := hid (HPr.out.ups hb)
    replace HU := hid (HU.out.ups hb)
    replace HUr := hid (HUr.out.ups hb)
    replace HB := hid (HB.out.trans (hb.mono HB.out.size))
    clear hb
    go_wp2_with fail
    refine (Same_b _ _ (cb pNot a b) (cb pNot a b) _ HU.out HUr.out).mono ?_
    rw [show decide (cb pNot a b = cb pNot a b) = true from by simp]
    rintro e w11 ⟨rfl, hb⟩
    replace HVA := hid (HVA.out.ups hb)
    replace HVB := hid (HVB.out.ups hb)
    replace HX := hid (HX.out.ups hb)
    replace HXr := hid (HXr.out.ups hb)
    replace HP := hid (HP.out.ups hb)
    replace HPr := hid (HPr.out.ups hb)
    replace HU := hid (HU.out.ups hb)
    replace HUr := hid (HUr.out.ups hb)
    replace HB := hid (HB.out.trans (hb.mono HB.out.size))
    clear hb
    go_wp2
    go_ret
    exact ⟨rfl, HB.out⟩
  · skip
    have HF := hid hf; clear hf
    go_enter Try.func4, Try.ntmps4
    go_wp2_with fail
    refine (sane_any _ ).mono ?_
    rintro e w1 ⟨rfl, hb⟩
    replace HVA := hid (HVA.out.ups hb)
    replace HVB := hid (HVB.out.ups hb)
    replace HB := hid (HB.out.trans (hb.mono HB.out.size))
    clear hb
    go_wp2_with fail
    refine (few_b _ _ a b _ HVA.out HVB.out).mono ?_
    rw [HF.out]
    rintro e w2 ⟨rfl, hb⟩
    replace HVA := hid (HVA.out.ups hb)
    replace HVB := hid (HVB.out.ups hb)
    replace HB := hid (HB.out.trans (hb.mono HB.out.size))
    clear hb
    go_wp2
    go_ret
    exact ⟨rfl, HB.out⟩
end Go.Proofs.Ytnbhihjhpomenaa

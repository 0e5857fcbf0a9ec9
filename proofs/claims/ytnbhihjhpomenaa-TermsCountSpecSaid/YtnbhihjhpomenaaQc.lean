/- The law of Check, Has and Count. -/
import Derived.Test.YtnbhihjhpomenaaR
namespace Go.Proofs.Ytnbhihjhpomenaa
open Go.RowKit Go
set_option linter.unusedVariables false
set_option linter.unusedSimpArgs false
set_option maxRecDepth 100000 in
set_option maxHeartbeats 16000000 in
theorem countspec_any (va : Value) (l : Sp) (x : Int) (w : World) (hva : SS w va l) : Calls Try.prog 3 #[va, .int .i64 x] w fun e w' => e = .returned (.bool true) ∧ Below w.heap.size w w' := by
  have HVA := hid hva
  have HB := hid (Below.refl w.heap.size w)
  clear hva
  rcases tf (decide (l.length ≤ 40)) with hf | hf
  · skip
    obtain ⟨C, hC⟩ : ∃ z, z = cnt l := ⟨_, rfl⟩
    obtain ⟨E, hE⟩ : ∃ z, z = chk l := ⟨_, rfl⟩
    obtain ⟨Z, hZ⟩ : ∃ z, z = decide (T.has l x) := ⟨_, rfl⟩
    have HC := hid hC; have HE := hid hE; have HZ := hid hZ
    clear hC hE hZ
    have HF := hid hf; clear hf
    go_enter Try.func3, Try.ntmps3
    go_wp2_with fail
    refine (sane_any _ ).mono ?_
    rintro e w1 ⟨rfl, hb⟩
    replace HVA := hid (HVA.out.ups hb)
    replace HB := hid (HB.out.trans (hb.mono HB.out.size))
    clear hb
    go_wp2_with fail
    refine (Few_b _ l _ HVA.out).mono ?_
    rw [HF.out]
    rintro e w2 ⟨rfl, hb⟩
    replace HVA := hid (HVA.out.ups hb)
    replace HB := hid (HB.out.trans (hb.mono HB.out.size))
    clear hb
    go_wp2_with fail
    refine (Count_any _ l _ HVA.out).mono ?_
    rw [← HC.out, ← HE.out]
    rintro e w3 ⟨rfl, hb⟩
    replace HVA := hid (HVA.out.ups hb)
    replace HB := hid (HB.out.trans (hb.mono HB.out.size))
    clear hb
    go_wp2_with fail
    refine (rCount_any _ l _ HVA.out).mono ?_
    rw [← HC.out, ← HE.out]
    rintro e w4 ⟨rfl, hb⟩
    replace HVA := hid (HVA.out.ups hb)
    replace HB := hid (HB.out.trans (hb.mono HB.out.size))
    clear hb
    go_wp2_with fail
    refine (Check_any _ l _ HVA.out).mono ?_
    rw [← HE.out]
    rintro e w5 ⟨rfl, hb⟩
    replace HVA := hid (HVA.out.ups hb)
    replace HB := hid (HB.out.trans (hb.mono HB.out.size))
    clear hb
    go_wp2_with fail
    refine (rCheck_any _ l _ HVA.out).mono ?_
    rw [← HE.out]
    rintro e w6 ⟨rfl, hb⟩
    replace HVA := hid (HVA.out.ups hb)
    replace HB := hid (HB.out.trans (hb.mono HB.out.size))
    clear hb
    go_wp2_with fail
    refine (Has_any _ l x _ HVA.out).mono ?_
    rw [← HZ.out]
    rintro e w7 ⟨rfl, hb⟩
    replace HVA := hid (HVA.out.ups hb)
    replace HB := hid (HB.out.trans (hb.mono HB.out.size))
    clear hb
    go_wp2_with fail
    refine (rHas_any _ l x _ HVA.out).mono ?_
    rw [← HZ.out]
    rintro e w8 ⟨rfl, hb⟩
    replace HVA := hid (HVA.out.ups hb)
    replace HB := hid (HB.out.trans (hb.mono HB.out.size))
    clear hb
    have hzz : (Z == Z) = true := by cases Z <;> rfl
    go_wp2
    go_ret
    exact ⟨rfl, HB.out⟩
  · skip
    have HF := hid hf; clear hf
    go_enter Try.func3, Try.ntmps3
    go_wp2_with fail
    refine (sane_any _ ).mono ?_
    rintro e w1 ⟨rfl, hb⟩
    replace HVA := hid (HVA.out.ups hb)
    replace HB := hid (HB.out.trans (hb.mono HB.out.size))
    clear hb
    go_wp2_with fail
    refine (Few_b _ l _ HVA.out).mono ?_
    rw [HF.out]
    rintro e w2 ⟨rfl, hb⟩
    replace HVA := hid (HVA.out.ups hb)
    replace HB := hid (HB.out.trans (hb.mono HB.out.size))
    clear hb
    go_wp2
    go_ret
    exact ⟨rfl, HB.out⟩
end Go.Proofs.Ytnbhihjhpomenaa

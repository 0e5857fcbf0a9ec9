/- The law of parts. -/
import Derived.Test.YtnbhihjhpomenaaQ
namespace Go.Proofs.Ytnbhihjhpomenaa
open Go.RowKit Go
set_option linter.unusedVariables false
set_option linter.unusedSimpArgs false
theorem eq_dec {l m : Sp} (hl : T.ok 1024 (-1) l) (hm : T.ok 1024 (-1) m) (h : ∀ x, decide (T.has l x) = decide (T.has m x)) : l = m :=
  T.uniq hl hm (fun x => by have := h x; simpa using this)
theorem parts_none {a b : Sp} (ha : T.ok 1024 (-1) a) (hb : T.ok 1024 (-1) b) : cs pAnd (cs pAnd a b) (cs pNot a b) = [] :=
  eq_dec (cs_ok _ _ _) trivial (fun x => by
    rw [cs_dec rfl (cs_ok _ _ _) (cs_ok _ _ _), cs_dec rfl ha hb, cs_dec rfl ha hb, decide_eq_false (T.has_nil x)]
    cases decide (T.has a x) <;> cases decide (T.has b x) <;> rfl)
theorem parts_all {a b : Sp} (ha : T.ok 1024 (-1) a) (hb : T.ok 1024 (-1) b) : cs pOr (cs pAnd a b) (cs pNot a b) = a :=
  eq_dec (cs_ok _ _ _) ha (fun x => by
    rw [cs_dec rfl (cs_ok _ _ _) (cs_ok _ _ _), cs_dec rfl ha hb, cs_dec rfl ha hb]
    cases decide (T.has a x) <;> cases decide (T.has b x) <;> rfl)
theorem parts_rest {a b : Sp} (ha : T.ok 1024 (-1) a) (hb : T.ok 1024 (-1) b) : cs pNot a (cs pNot a b) = cs pAnd a b :=
  eq_dec (cs_ok _ _ _) (cs_ok _ _ _) (fun x => by
    rw [cs_dec rfl ha (cs_ok _ _ _), cs_dec rfl ha hb, cs_dec rfl ha hb]
    cases decide (T.has a x) <;> cases decide (T.has b x) <;> rfl)
set_option maxRecDepth 100000 in
set_option maxHeartbeats 16000000 in
theorem parts_any (va vb : Value) (a b : Sp) (w : World) (hva : SS w va a) (hvb : SS w vb b) : Calls Try.prog 7 #[va, vb] w fun e w' => e = .returned (.bool true) ∧ Below w.heap.size w w' := by
  have HVA := hid hva; have HVB := hid hvb
  have HB := hid (Below.refl w.heap.size w)
  clear hva hvb
  rcases tf (decide (a.length ≤ 40) && decide (b.length ≤ 40)) with hf | hf
  · rcases (Decidable.em (T.ok 1024 (-1) a)) with ha | ha
    · rcases (Decidable.em (T.ok 1024 (-1) b)) with hb0 | hb0
      · have HKA := hid (chk_ok ha); have HKB := hid (chk_ok hb0)
        have HE0 := hid (ce_ok ha hb0)
        have HC0 := hid ((cb_ok (P := pAnd) ha hb0))
        have HE1 := hid (ce_ok ha hb0)
        have HC1 := hid ((cb_ok (P := pNot) ha hb0))
        have HE2 := hid (ce_ok (cs_ok pAnd a b) (cs_ok pNot a b))
        have HC2 := hid ((cb_ok (P := pAnd) (cs_ok pAnd a b) (cs_ok pNot a b)).trans (parts_none ha hb0))
        have HE3 := hid (ce_ok (cs_ok pAnd a b) (cs_ok pNot a b))
        have HC3 := hid ((cb_ok (P := pOr) (cs_ok pAnd a b) (cs_ok pNot a b)).trans (parts_all ha hb0))
        have HE4 := hid (ce_ok ha (cs_ok pNot a b))
        have HC4 := hid ((cb_ok (P := pNot) ha (cs_ok pNot a b)).trans (parts_rest ha hb0))
        clear ha hb0
        have HF := hid hf; clear hf
        go_enter Try.func7, Try.ntmps7
        go_wp2_with fail
        refine (sane_any _ ).mono ?_
        rintro e w1 ⟨rfl, hb⟩
        replace HVA := hid (HVA.out.ups hb)
        replace HVB := hid (HVB.out.ups hb)
        replace HB := hid (HB.out.trans (hb.mono HB.out.size))
        clear hb
        go_wp2_with fail
        refine (few_b _ _ a b _ HVA.out HVB.out).mono ?_
        rw [HF.out]
        rintro e w2 ⟨rfl, hb⟩
        replace HVA := hid (HVA.out.ups hb)
        replace HVB := hid (HVB.out.ups hb)
        replace HB := hid (HB.out.trans (hb.mono HB.out.size))
        clear hb
        go_wp2_with fail
        refine (Check_any _ a _ HVA.out).mono ?_
        rw [HKA.out]
        rintro e w3 ⟨rfl, hb⟩
        replace HVA := hid (HVA.out.ups hb)
        replace HVB := hid (HVB.out.ups hb)
        replace HB := hid (HB.out.trans (hb.mono HB.out.size))
        clear hb
        go_wp2_with fail
        refine (Check_any _ b _ HVB.out).mono ?_
        rw [HKB.out]
        rintro e w4 ⟨rfl, hb⟩
        replace HVA := hid (HVA.out.ups hb)
        replace HVB := hid (HVB.out.ups hb)
        replace HB := hid (HB.out.trans (hb.mono HB.out.size))
        clear hb
        go_wp2_with fail
        refine (Meet_any _ _ _ _ _ HVA.out HVB.out).mono ?_
        rw [HE0.out, HC0.out]
        rintro e w5 ⟨uY, rfl, hY, hb⟩
        replace HVA := hid (HVA.out.ups hb)
        replace HVB := hid (HVB.out.ups hb)
        replace HB := hid (HB.out.trans (hb.mono HB.out.size))
        clear hb
        have HY := hid hY; clear hY
        go_wp2_with fail
        refine (Minus_any _ _ _ _ _ HVA.out HVB.out).mono ?_
        rw [HE1.out, HC1.out]
        rintro e w6 ⟨uZ, rfl, hZ, hb⟩
        replace HVA := hid (HVA.out.ups hb)
        replace HVB := hid (HVB.out.ups hb)
        replace HY := hid (HY.out.ups hb)
        replace HB := hid (HB.out.trans (hb.mono HB.out.size))
        clear hb
        have HZ := hid hZ; clear hZ
        go_wp2_with fail
        refine (Meet_any _ _ _ _ _ HY.out HZ.out).mono ?_
        rw [HE2.out, HC2.out]
        rintro e w7 ⟨uNO, rfl, hNO, hb⟩
        replace HVA := hid (HVA.out.ups hb)
        replace HVB := hid (HVB.out.ups hb)
        replace HY := hid (HY.out.ups hb)
        replace HZ := hid (HZ.out.ups hb)
        replace HB := hid (HB.out.trans (hb.mono HB.out.size))
        clear hb
        obtain ⟨pNO, cNO, fNO⟩ := hNO.form
        subst fNO
        have HNO := hid hNO; clear hNO
        go_wp2_with fail
        refine (Union_any _ _ _ _ _ HY.out HZ.out).mono ?_
        rw [HE3.out, HC3.out]
        rintro e w8 ⟨uAL, rfl, hAL, hb⟩
        replace HVA := hid (HVA.out.ups hb)
        replace HVB := hid (HVB.out.ups hb)
        replace HY := hid (HY.out.ups hb)
        replace HZ := hid (HZ.out.ups hb)
        replace HNO := hid (HNO.out.ups hb)
        replace HB := hid (HB.out.trans (hb.mono HB.out.size))
        clear hb
        have HAL := hid hAL; clear hAL
        go_wp2_with fail
        refine (Minus_any _ _ _ _ _ HVA.out HZ.out).mono ?_
        rw [HE4.out, HC4.out]
        rintro e w9 ⟨uRE, rfl, hRE, hb⟩
        replace HVA := hid (HVA.out.ups hb)
        replace HVB := hid (HVB.out.ups hb)
        replace HY := hid (HY.out.ups hb)
        replace HZ := hid (HZ.out.ups hb)
        replace HNO := hid (HNO.out.ups hb)
        replace HAL := hid (HAL.out.ups hb)
        replace HB := hid (HB.out.trans (hb.mono HB.out.size))
        clear hb
        have HRE := hid hRE; clear hRE
        go_wp2_with fail
        refine (Same_b _ _ a a _ HAL.out HVA.out).mono ?_
        rw [show decide (a = a) = true from by simp]
        rintro e w10 ⟨rfl, hb⟩
        replace HVA := hid (HVA.out.ups hb)
        replace HVB := hid (HVB.out.ups hb)
        replace HY := hid (HY.out.ups hb)
        replace HZ := hid (HZ.out.ups hb)
        replace HNO := hid (HNO.out.ups hb)
        replace HAL := hid (HAL.out.ups hb)
        replace HRE := hid (HRE.out.ups hb)
        replace HB := hid (HB.out.trans (hb.mono HB.out.size))
        clear hb
        go_wp2_with fail
        refine (Same_b _ _ (cs pAnd a b) (cs pAnd a b) _ HRE.out HY.out).mono ?_
        rw [show decide (cs pAnd a b = cs pAnd a b) = true from by simp]
        rintro e w11 ⟨rfl, hb⟩
        replace HVA := hid (HVA.out.ups hb)
        replace HVB := hid (HVB.out.ups hb)
        replace HY := hid (HY.out.ups hb)
        replace HZ := hid (HZ.out.ups hb)
        replace HNO := hid (HNO.out.ups hb)
        replace HAL := hid (HAL.out.ups hb)
        replace HRE := hid (HRE.out.ups hb)
        replace HB := hid (HB.out.trans (hb.mono HB.out.size))
        clear hb
        go_wp2
        go_ret
        exact ⟨rfl, HB.out⟩
      · have HKA := hid (chk_ok ha); have HKB := hid (chk_no hb0)
        clear ha hb0
        have HF := hid hf; clear hf
        go_enter Try.func7, Try.ntmps7
        go_wp2_with fail
        refine (sane_any _ ).mono ?_
        rintro e w1 ⟨rfl, hb⟩
        replace HVA := hid (HVA.out.ups hb)
        replace HVB := hid (HVB.out.ups hb)
        replace HB := hid (HB.out.trans (hb.mono HB.out.size))
        clear hb
        go_wp2_with fail
        refine (few_b _ _ a b _ HVA.out HVB.out).mono ?_
        rw [HF.out]
        rintro e w2 ⟨rfl, hb⟩
        replace HVA := hid (HVA.out.ups hb)
        replace HVB := hid (HVB.out.ups hb)
        replace HB := hid (HB.out.trans (hb.mono HB.out.size))
        clear hb
        go_wp2_with fail
        refine (Check_any _ a _ HVA.out).mono ?_
        rw [HKA.out]
        rintro e w3 ⟨rfl, hb⟩
        replace HVA := hid (HVA.out.ups hb)
        replace HVB := hid (HVB.out.ups hb)
        replace HB := hid (HB.out.trans (hb.mono HB.out.size))
        clear hb
        go_wp2_with fail
        refine (Check_any _ b _ HVB.out).mono ?_
        rw [HKB.out]
        rintro e w4 ⟨rfl, hb⟩
        replace HVA := hid (HVA.out.ups hb)
        replace HVB := hid (HVB.out.ups hb)
        replace HB := hid (HB.out.trans (hb.mono HB.out.size))
        clear hb
        go_wp2
        go_ret
        exact ⟨rfl, HB.out⟩
    · have HKA := hid (chk_no ha)
      clear ha
      have HF := hid hf; clear hf
      go_enter Try.func7, Try.ntmps7
      go_wp2_with fail
      refine (sane_any _ ).mono ?_
      rintro e w1 ⟨rfl, hb⟩
      replace HVA := hid (HVA.out.ups hb)
      replace HVB := hid (HVB.out.ups hb)
      replace HB := hid (HB.out.trans (hb.mono HB.out.size))
      clear hb
      go_wp2_with fail
      refine (few_b _ _ a b _ HVA.out HVB.out).mono ?_
      rw [HF.out]
      rintro e w2 ⟨rfl, hb⟩
      replace HVA := hid (HVA.out.ups hb)
      replace HVB := hid (HVB.out.ups hb)
      replace HB := hid (HB.out.trans (hb.mono HB.out.size))
      clear hb
      go_wp2_with fail
      refine (Check_any _ a _ HVA.out).mono ?_
      rw [HKA.out]
      rintro e w3 ⟨rfl, hb⟩
      replace HVA := hid (HVA.out.ups hb)
      replace HVB := hid (HVB.out.ups hb)
      replace HB := hid (HB.out.trans (hb.mono HB.out.size))
      clear hb
      go_wp2
      go_ret
      exact ⟨rfl, HB.out⟩
  · skip
    have HF := hid hf; clear hf
    go_enter Try.func7, Try.ntmps7
    go_wp2_with fail
    refine (sane_any _ ).mono ?_
    rintro e w1 ⟨rfl, hb⟩
    replace HVA := hid (HVA.out.ups hb)
    replace HVB := hid (HVB.out.ups hb)
    replace HB := hid (HB.out.trans (hb.mono HB.out.size))
    clear hb
    go_wp2_with fail
    refine (few_b _ _ a b _ HVA.out HVB.out).mono ?_
    rw [HF.out]
    rintro e w2 ⟨rfl, hb⟩
    replace HVA := hid (HVA.out.ups hb)
    replace HVB := hid (HVB.out.ups hb)
    replace HB := hid (HB.out.trans (hb.mono HB.out.size))
    clear hb
    go_wp2
    go_ret
    exact ⟨rfl, HB.out⟩
end Go.Proofs.Ytnbhihjhpomenaa

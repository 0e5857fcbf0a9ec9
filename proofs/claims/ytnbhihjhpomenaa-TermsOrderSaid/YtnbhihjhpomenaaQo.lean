/- The law of the order of operations. -/
import Derived.Test.YtnbhihjhpomenaaQp
namespace Go.Proofs.Ytnbhihjhpomenaa
open Go.RowKit Go
set_option linter.unusedVariables false
set_option linter.unusedSimpArgs false
theorem or_comm {a b : Sp} (ha : T.ok 1024 (-1) a) (hb : T.ok 1024 (-1) b) : cs pOr b a = cs pOr a b :=
  eq_dec (cs_ok _ _ _) (cs_ok _ _ _) (fun x => by rw [cs_dec rfl hb ha, cs_dec rfl ha hb]; cases decide (T.has a x) <;> cases decide (T.has b x) <;> rfl)
theorem and_comm' {a b : Sp} (ha : T.ok 1024 (-1) a) (hb : T.ok 1024 (-1) b) : cs pAnd b a = cs pAnd a b :=
  eq_dec (cs_ok _ _ _) (cs_ok _ _ _) (fun x => by rw [cs_dec rfl hb ha, cs_dec rfl ha hb]; cases decide (T.has a x) <;> cases decide (T.has b x) <;> rfl)
theorem or_assoc' {a b c : Sp} (ha : T.ok 1024 (-1) a) (hb : T.ok 1024 (-1) b) (hc : T.ok 1024 (-1) c) : cs pOr a (cs pOr b c) = cs pOr (cs pOr a b) c :=
  eq_dec (cs_ok _ _ _) (cs_ok _ _ _) (fun x => by
    rw [cs_dec rfl ha (cs_ok _ _ _), cs_dec rfl (cs_ok _ _ _) hc, cs_dec rfl hb hc, cs_dec rfl ha hb]
    cases decide (T.has a x) <;> cases decide (T.has b x) <;> cases decide (T.has c x) <;> rfl)
theorem distr {a b c : Sp} (ha : T.ok 1024 (-1) a) (hb : T.ok 1024 (-1) b) (hc : T.ok 1024 (-1) c) : cs pOr (cs pAnd a b) (cs pAnd a c) = cs pAnd a (cs pOr b c) :=
  eq_dec (cs_ok _ _ _) (cs_ok _ _ _) (fun x => by
    rw [cs_dec rfl (cs_ok _ _ _) (cs_ok _ _ _), cs_dec rfl ha (cs_ok _ _ _), cs_dec rfl hb hc, cs_dec rfl ha hb, cs_dec rfl ha hc]
    cases decide (T.has a x) <;> cases decide (T.has b x) <;> cases decide (T.has c x) <;> rfl)
set_option maxRecDepth 100000 in
set_option maxHeartbeats 16000000 in
theorem order_any (va vb vc : Value) (a b c : Sp) (w : World) (hva : SS w va a) (hvb : SS w vb b) (hvc : SS w vc c) : Calls Try.prog 9 #[va, vb, vc] w fun e w' => e = .returned (.bool true) ∧ Below w.heap.size w w' := by
  have HVA := hid hva; have HVB := hid hvb; have HVC := hid hvc
  have HB := hid (Below.refl w.heap.size w)
  clear hva hvb hvc
  rcases tf (decide (a.length ≤ 40) && decide (b.length ≤ 40)) with hf | hf
  · rcases tf (decide (c.length ≤ 40)) with hg | hg
    · rcases (Decidable.em (T.ok 1024 (-1) a)) with ha | ha
      · rcases (Decidable.em (T.ok 1024 (-1) b)) with hb0 | hb0
        · rcases (Decidable.em (T.ok 1024 (-1) c)) with hc | hc
          · have HKA := hid (chk_ok ha); have HKB := hid (chk_ok hb0); have HKC := hid (chk_ok hc)
            have HE0 := hid (ce_ok ha hb0)
            have HC0 := hid ((cb_ok (P := pOr) ha hb0))
            have HE1 := hid (ce_ok hb0 ha)
            have HC1 := hid ((cb_ok (P := pOr) hb0 ha).trans (or_comm ha hb0))
            have HE2 := hid (ce_ok hb0 hc)
            have HC2 := hid ((cb_ok (P := pOr) hb0 hc))
            have HE3 := hid (ce_ok (cs_ok pOr a b) hc)
            have HC3 := hid ((cb_ok (P := pOr) (cs_ok pOr a b) hc))
            have HE4 := hid (ce_ok ha (cs_ok pOr b c))
            have HC4 := hid ((cb_ok (P := pOr) ha (cs_ok pOr b c)).trans (or_assoc' ha hb0 hc))
            have HE5 := hid (ce_ok ha hb0)
            have HC5 := hid ((cb_ok (P := pAnd) ha hb0))
            have HE6 := hid (ce_ok hb0 ha)
            have HC6 := hid ((cb_ok (P := pAnd) hb0 ha).trans (and_comm' ha hb0))
            have HE7 := hid (ce_ok ha hc)
            have HC7 := hid ((cb_ok (P := pAnd) ha hc))
            have HE8 := hid (ce_ok ha (cs_ok pOr b c))
            have HC8 := hid ((cb_ok (P := pAnd) ha (cs_ok pOr b c)))
            have HE9 := hid (ce_ok (cs_ok pAnd a b) (cs_ok pAnd a c))
            have HC9 := hid ((cb_ok (P := pOr) (cs_ok pAnd a b) (cs_ok pAnd a c)).trans (distr ha hb0 hc))
            clear ha hb0 hc
            have HF := hid hf; clear hf
            have HG := hid hg; clear hg
            go_enter Try.func9, Try.ntmps9
            go_wp2_with fail
            refine (sane_any _ ).mono ?_
            rintro e w1 ⟨rfl, hb⟩
            replace HVA := hid (HVA.out.ups hb)
            replace HVB := hid (HVB.out.ups hb)
            replace HVC := hid (HVC.out.ups hb)
            replace HB := hid (HB.out.trans (hb.mono HB.out.size))
            clear hb
            go_wp2_with fail
            refine (few_b _ _ a b _ HVA.out HVB.out).mono ?_
            rw [HF.out]
            rintro e w2 ⟨rfl, hb⟩
            replace HVA := hid (HVA.out.ups hb)
            replace HVB := hid (HVB.out.ups hb)
            replace HVC := hid (HVC.out.ups hb)
            replace HB := hid (HB.out.trans (hb.mono HB.out.size))
            clear hb
            go_wp2_with fail
            refine (Few_b _ c _ HVC.out).mono ?_
            rw [HG.out]
            rintro e w3 ⟨rfl, hb⟩
            replace HVA := hid (HVA.out.ups hb)
            replace HVB := hid (HVB.out.ups hb)
            replace HVC := hid (HVC.out.ups hb)
            replace HB := hid (HB.out.trans (hb.mono HB.out.size))
            clear hb
            go_wp2_with fail
            refine (Check_any _ a _ HVA.out).mono ?_
            rw [HKA.out]
            rintro e w4 ⟨rfl, hb⟩
            replace HVA := hid (HVA.out.ups hb)
            replace HVB := hid (HVB.out.ups hb)
            replace HVC := hid (HVC.out.ups hb)
            replace HB := hid (HB.out.trans (hb.mono HB.out.size))
            clear hb
            go_wp2_with fail
            refine (Check_any _ b _ HVB.out).mono ?_
            rw [HKB.out]
            rintro e w5 ⟨rfl, hb⟩
            replace HVA := hid (HVA.out.ups hb)
            replace HVB := hid (HVB.out.ups hb)
            replace HVC := hid (HVC.out.ups hb)
            replace HB := hid (HB.out.trans (hb.mono HB.out.size))
            clear hb
            go_wp2_with fail
            refine (Check_any _ c _ HVC.out).mono ?_
            rw [HKC.out]
            rintro e w6 ⟨rfl, hb⟩
            replace HVA := hid (HVA.out.ups hb)
            replace HVB := hid (HVB.out.ups hb)
            replace HVC := hid (HVC.out.ups hb)
            replace HB := hid (HB.out.trans (hb.mono HB.out.size))
            clear hb
            go_wp2_with fail
            refine (Union_any _ _ _ _ _ HVA.out HVB.out).mono ?_
            rw [HE0.out, HC0.out]
            rintro e w7 ⟨uAB, rfl, hAB, hb⟩
            replace HVA := hid (HVA.out.ups hb)
            replace HVB := hid (HVB.out.ups hb)
            replace HVC := hid (HVC.out.ups hb)
            replace HB := hid (HB.out.trans (hb.mono HB.out.size))
            clear hb
            have HAB := hid hAB; clear hAB
            go_wp2_with fail
            refine (Union_any _ _ _ _ _ HVB.out HVA.out).mono ?_
            rw [HE1.out, HC1.out]
            rintro e w8 ⟨uBA, rfl, hBA, hb⟩
            replace HVA := hid (HVA.out.ups hb)
            replace HVB := hid (HVB.out.ups hb)
            replace HVC := hid (HVC.out.ups hb)
            replace HAB := hid (HAB.out.ups hb)
            replace HB := hid (HB.out.trans (hb.mono HB.out.size))
            clear hb
            have HBA := hid hBA; clear hBA
            go_wp2_with fail
            refine (Union_any _ _ _ _ _ HVB.out HVC.out).mono ?_
            rw [HE2.out, HC2.out]
            rintro e w9 ⟨uBC, rfl, hBC, hb⟩
            replace HVA := hid (HVA.out.ups hb)
            replace HVB := hid (HVB.out.ups hb)
            replace HVC := hid (HVC.out.ups hb)
            replace HAB := hid (HAB.out.ups hb)
            replace HBA := hid (HBA.out.ups hb)
            replace HB := hid (HB.out.trans (hb.mono HB.out.size))
            clear hb
            have HBC := hid hBC; clear hBC
            go_wp2_with fail
            refine (Union_any _ _ _ _ _ HAB.out HVC.out).mono ?_
            rw [HE3.out, HC3.out]
            rintro e w10 ⟨uL, rfl, hL, hb⟩
            replace HVA := hid (HVA.out.ups hb)
            replace HVB := hid (HVB.out.ups hb)
            replace HVC := hid (HVC.out.ups hb)
            replace HAB := hid (HAB.out.ups hb)
            replace HBA := hid (HBA.out.ups hb)
            replace HBC := hid (HBC.out.ups hb)
            replace HB := hid (HB.out.trans (hb.mono HB.out.size))
            clear hb
            have HL := hid hL; clear hL
            go_wp2_with fail
            refine (Union_any _ _ _ _ _ HVA.out HBC.out).mono ?_
            rw [HE4.out, HC4.out]
            rintro e w11 ⟨uR, rfl, hR, hb⟩
            replace HVA := hid (HVA.out.ups hb)
            replace HVB := hid (HVB.out.ups hb)
            replace HVC := hid (HVC.out.ups hb)
            replace HAB := hid (HAB.out.ups hb)
            replace HBA := hid (HBA.out.ups hb)
            replace HBC := hid (HBC.out.ups hb)
            replace HL := hid (HL.out.ups hb)
            replace HB := hid (HB.out.trans (hb.mono HB.out.size))
            clear hb
            have HR := hid hR; clear hR
            go_wp2_with fail
            refine (Same_b _ _ (cs pOr a b) (cs pOr a b) _ HAB.out HBA.out).mono ?_
            rw [show decide (cs pOr a b = cs pOr a b) = true from by simp]
            rintro e w12 ⟨rfl, hb⟩
            replace HVA := hid (HVA.out.ups hb)
            replace HVB := hid (HVB.out.ups hb)
            replace HVC := hid (HVC.out.ups hb)
            replace HAB := hid (HAB.out.ups hb)
            replace HBA := hid (HBA.out.ups hb)
            replace HBC := hid (HBC.out.ups hb)
            replace HL := hid (HL.out.ups hb)
            replace HR := hid (HR.out.ups hb)
            replace HB := hid (HB.out.trans (hb.mono HB.out.size))
            clear hb
            go_wp2_with fail
            refine (Same_b _ _ (cs pOr (cs pOr a b) c) (cs pOr (cs pOr a b) c) _ HL.out HR.out).mono ?_
            rw [show decide (cs pOr (cs pOr a b) c = cs pOr (cs pOr a b) c) = true from by simp]
            rintro e w13 ⟨rfl, hb⟩
            replace HVA := hid (HVA.out.ups hb)
            replace HVB := hid (HVB.out.ups hb)
            replace HVC := hid (HVC.out.ups hb)
            replace HAB := hid (HAB.out.ups hb)
            replace HBA := hid (HBA.out.ups hb)
            replace HBC := hid (HBC.out.ups hb)
            replace HL := hid (HL.out.ups hb)
            replace HR := hid (HR.out.ups hb)
            replace HB := hid (HB.out.trans (hb.mono HB.out.size))
            clear hb
            go_wp2_with fail
            refine (Meet_any _ _ _ _ _ HVA.out HVB.out).mono ?_
            rw [HE5.out, HC5.out]
            rintro e w14 ⟨uP, rfl, hP, hb⟩
            replace HVA := hid (HVA.out.ups hb)
            replace HVB := hid (HVB.out.ups hb)
            replace HVC := hid (HVC.out.ups hb)
            replace HAB := hid (HAB.out.ups hb)
            replace HBA := hid (HBA.out.ups hb)
            replace HBC := hid (HBC.out.ups hb)
            replace HL := hid (HL.out.ups hb)
            replace HR := hid (HR.out.ups hb)
            replace HB := hid (HB.out.trans (hb.mono HB.out.size))
            clear hb
            have HP := hid hP; clear hP
            go_wp2_with fail
            refine (Meet_any _ _ _ _ _ HVB.out HVA.out).mono ?_
            rw [HE6.out, HC6.out]
            rintro e w15 ⟨uQ, rfl, hQ, hb⟩
            replace HVA := hid (HVA.out.ups hb)
            replace HVB := hid (HVB.out.ups hb)
            replace HVC := hid (HVC.out.ups hb)
            replace HAB := hid (HAB.out.ups hb)
            replace HBA := hid (HBA.out.ups hb)
            replace HBC := hid (HBC.out.ups hb)
            replace HL := hid (HL.out.ups hb)
            replace HR := hid (HR.out.ups hb)
            replace HP := hid (HP.out.ups hb)
            replace HB := hid (HB.out.trans (hb.mono HB.out.size))
            clear hb
            have HQ := hid hQ; clear hQ
            go_wp2_with fail
            refine (Meet_any _ _ _ _ _ HVA.out HVC.out).mono ?_
            rw [HE7.out, HC7.out]
            rintro e w16 ⟨uS, rfl, hS, hb⟩
            replace HVA := hid (HVA.out.ups hb)
            replace HVB := hid (HVB.out.ups hb)
            replace HVC := hid (HVC.out.ups hb)
            replace HAB := hid (HAB.out.ups hb)
            replace HBA := hid (HBA.out.ups hb)
            replace HBC := hid (HBC.out.ups hb)
            replace HL := hid (HL.out.ups hb)
            replace HR := hid (HR.out.ups hb)
            replace HP := hid (HP.out.ups hb)
            replace HQ := hid (HQ.out.ups hb)
            replace HB := hid (HB.out.trans (hb.mono HB.out.size))
            clear hb
            have HS := hid hS; clear hS
            go_wp2_with fail
            refine (Meet_any _ _ _ _ _ HVA.out HBC.out).mono ?_
            rw [HE8.out, HC8.out]
            rintro e w17 ⟨uU, rfl, hU, hb⟩
            replace HVA := hid (HVA.out.ups hb)
            replace HVB := hid (HVB.out.ups hb)
            replace HVC := hid (HVC.out.ups hb)
            replace HAB := hid (HAB.out.ups hb)
            replace HBA := hid (HBA.out.ups hb)
            replace HBC := hid (HBC.out.ups hb)
            replace HL := hid (HL.out.ups hb)
            replace HR := hid (HR.out.ups hb)
            replace HP := hid (HP.out.ups hb)
            replace HQ := hid (HQ.out.ups hb)
            replace HS := hid (HS.out.ups hb)
            replace HB := hid (HB.out.trans (hb.mono HB.out.size))
            clear hb
            have HU := hid hU; clear hU
            go_wp2_with fail
            refine (Union_any _ _ _ _ _ HP.out HS.out).mono ?_
            rw [HE9.out, HC9.out]
            rintro e w18 ⟨uV, rfl, hV, hb⟩
            replace HVA := hid (HVA.out.ups hb)
            replace HVB := hid (HVB.out.ups hb)
            replace HVC := hid (HVC.out.ups hb)
            replace HAB := hid (HAB.out.ups hb)
            replace HBA := hid (HBA.out.ups hb)
            replace HBC := hid (HBC.out.ups hb)
            replace HL := hid (HL.out.ups hb)
            replace HR := hid (HR.out.ups hb)
            replace HP := hid (HP.out.ups hb)
            replace HQ := hid (HQ.out.ups hb)
            replace HS := hid (HS.out.ups hb)
            replace HU := hid (HU.out.ups hb)
            replace HB := hid (HB.out.trans (hb.mono HB.out.size))
            clear hb
            have HV := hid hV; clear hV
            go_wp2_with fail
            refine (Same_b _ _ (cs pAnd a b) (cs pAnd a b) _ HP.out HQ.out).mono ?_
            rw [show decide (cs pAnd a b = cs pAnd a b) = true from by simp]
            rintro e w19 ⟨rfl, hb⟩
            replace HVA := hid (HVA.out.ups hb)
            replace HVB := hid (HVB.out.ups hb)
            replace HVC := hid (HVC.out.ups hb)
            replace HAB := hid (HAB.out.ups hb)
            replace HBA := hid (HBA.out.ups hb)
            replace HBC := hid (HBC.out.ups hb)
            replace HL := hid (HL.out.ups hb)
            replace HR := hid (HR.out.ups hb)
            replace HP := hid (HP.out.ups hb)
            replace HQ := hid (HQ.out.ups hb)
            replace HS := hid (HS.out.ups hb)
            replace HU := hid (HU.out.ups hb)
            replace HV := hid (HV.out.ups hb)
            replace HB := hid (HB.out.trans (hb.mono HB.out.size))
            clear hb
            go_wp2_with fail
            refine (Same_b _ _ (cs pAnd a (cs pOr b c)) (cs pAnd a (cs pOr b c)) _ HU.out HV.out).mono ?_
            rw [show decide (cs pAnd a (cs pOr b c) = cs pAnd a (cs pOr b c)) = true from by simp]
            rintro e w20 ⟨rfl, hb⟩
            replace HVA := hid (HVA.out.ups hb)
            replace HVB := hid (HVB.out.ups hb)
            replace HVC := hid (HVC.out.ups hb)
            replace HAB := hid (HAB.out.ups hb)
            replace HBA := hid (HBA.out.ups hb)
            replace HBC := hid (HBC.out.ups hb)
            replace HL := hid (HL.out.ups hb)
            replace HR := hid (HR.out.ups hb)
            replace HP := hid (HP.out.ups hb)
            replace HQ := hid (HQ.out.ups hb)
            replace HS := hid (HS.out.ups hb)
            replace HU := hid (HU.out.ups hb)
            replace HV := hid (HV.out.ups hb)
            replace HB := hid (HB.out.trans (hb.mono HB.out.size))
            clear hb
            go_wp2
            go_ret
            exact ⟨rfl, HB.out⟩
          · have HKA := hid (chk_ok ha); have HKB := hid (chk_ok hb0); have HKC := hid (chk_no hc); clear ha hb0 hc
            have HF := hid hf; clear hf
            have HG := hid hg; clear hg
            go_enter Try.func9, Try.ntmps9
            go_wp2_with fail
            refine (sane_any _ ).mono ?_
            rintro e w1 ⟨rfl, hb⟩
            replace HVA := hid (HVA.out.ups hb)
            replace HVB := hid (HVB.out.ups hb)
            replace HVC := hid (HVC.out.ups hb)
            replace HB := hid (HB.out.trans (hb.mono HB.out.size))
            clear hb
            go_wp2_with fail
            refine (few_b _ _ a b _ HVA.out HVB.out).mono ?_
            rw [HF.out]
            rintro e w2 ⟨rfl, hb⟩
            replace HVA := hid (HVA.out.ups hb)
            replace HVB := hid (HVB.out.ups hb)
            replace HVC := hid (HVC.out.ups hb)
            replace HB := hid (HB.out.trans (hb.mono HB.out.size))
            clear hb
            go_wp2_with fail
            refine (Few_b _ c _ HVC.out).mono ?_
            rw [HG.out]
            rintro e w3 ⟨rfl, hb⟩
            replace HVA := hid (HVA.out.ups hb)
            replace HVB := hid (HVB.out.ups hb)
            replace HVC := hid (HVC.out.ups hb)
            replace HB := hid (HB.out.trans (hb.mono HB.out.size))
            clear hb
            go_wp2_with fail
            refine (Check_any _ a _ HVA.out).mono ?_
            rw [HKA.out]
            rintro e w4 ⟨rfl, hb⟩
            replace HVA := hid (HVA.out.ups hb)
            replace HVB := hid (HVB.out.ups hb)
            replace HVC := hid (HVC.out.ups hb)
            replace HB := hid (HB.out.trans (hb.mono HB.out.size))
            clear hb
            go_wp2_with fail
            refine (Check_any _ b _ HVB.out).mono ?_
            rw [HKB.out]
            rintro e w5 ⟨rfl, hb⟩
            replace HVA := hid (HVA.out.ups hb)
            replace HVB := hid (HVB.out.ups hb)
            replace HVC := hid (HVC.out.ups hb)
            replace HB := hid (HB.out.trans (hb.mono HB.out.size))
            clear hb
            go_wp2_with fail
            refine (Check_any _ c _ HVC.out).mono ?_
            rw [HKC.out]
            rintro e w6 ⟨rfl, hb⟩
            replace HVA := hid (HVA.out.ups hb)
            replace HVB := hid (HVB.out.ups hb)
            replace HVC := hid (HVC.out.ups hb)
            replace HB := hid (HB.out.trans (hb.mono HB.out.size))
            clear hb
            go_wp2
            go_ret
            exact ⟨rfl, HB.out⟩
        · have HKA := hid (chk_ok ha); have HKB := hid (chk_no hb0); clear ha hb0
          have HF := hid hf; clear hf
          have HG := hid hg; clear hg
          go_enter Try.func9, Try.ntmps9
          go_wp2_with fail
          refine (sane_any _ ).mono ?_
          rintro e w1 ⟨rfl, hb⟩
          replace HVA := hid (HVA.out.ups hb)
          replace HVB := hid (HVB.out.ups hb)
          replace HVC := hid (HVC.out.ups hb)
          replace HB := hid (HB.out.trans (hb.mono HB.out.size))
          clear hb
          go_wp2_with fail
          refine (few_b _ _ a b _ HVA.out HVB.out).mono ?_
          rw [HF.out]
          rintro e w2 ⟨rfl, hb⟩
          replace HVA := hid (HVA.out.ups hb)
          replace HVB := hid (HVB.out.ups hb)
          replace HVC := hid (HVC.out.ups hb)
          replace HB := hid (HB.out.trans (hb.mono HB.out.size))
          clear hb
          go_wp2_with fail
          refine (Few_b _ c _ HVC.out).mono ?_
          rw [HG.out]
          rintro e w3 ⟨rfl, hb⟩
          replace HVA := hid (HVA.out.ups hb)
          replace HVB := hid (HVB.out.ups hb)
          replace HVC := hid (HVC.out.ups hb)
          replace HB := hid (HB.out.trans (hb.mono HB.out.size))
          clear hb
          go_wp2_with fail
          refine (Check_any _ a _ HVA.out).mono ?_
          rw [HKA.out]
          rintro e w4 ⟨rfl, hb⟩
          replace HVA := hid (HVA.out.ups hb)
          replace HVB := hid (HVB.out.ups hb)
          replace HVC := hid (HVC.out.ups hb)
          replace HB := hid (HB.out.trans (hb.mono HB.out.size))
          clear hb
          go_wp2_with fail
          refine (Check_any _ b _ HVB.out).mono ?_
          rw [HKB.out]
          rintro e w5 ⟨rfl, hb⟩
          replace HVA := hid (HVA.out.ups hb)
          replace HVB := hid (HVB.out.ups hb)
          replace HVC := hid (HVC.out.ups hb)
          replace HB := hid (HB.out.trans (hb.mono HB.out.size))
          clear hb
          go_wp2
          go_ret
          exact ⟨rfl, HB.out⟩
      · have HKA := hid (chk_no ha); clear ha
        have HF := hid hf; clear hf
        have HG := hid hg; clear hg
        go_enter Try.func9, Try.ntmps9
        go_wp2_with fail
        refine (sane_any _ ).mono ?_
        rintro e w1 ⟨rfl, hb⟩
        replace HVA := hid (HVA.out.ups hb)
        replace HVB := hid (HVB.out.ups hb)
        replace HVC := hid (HVC.out.ups hb)
        replace HB := hid (HB.out.trans (hb.mono HB.out.size))
        clear hb
        go_wp2_with fail
        refine (few_b _ _ a b _ HVA.out HVB.out).mono ?_
        rw [HF.out]
        rintro e w2 ⟨rfl, hb⟩
        replace HVA := hid (HVA.out.ups hb)
        replace HVB := hid (HVB.out.ups hb)
        replace HVC := hid (HVC.out.ups hb)
        replace HB := hid (HB.out.trans (hb.mono HB.out.size))
        clear hb
        go_wp2_with fail
        refine (Few_b _ c _ HVC.out).mono ?_
        rw [HG.out]
        rintro e w3 ⟨rfl, hb⟩
        replace HVA := hid (HVA.out.ups hb)
        replace HVB := hid (HVB.out.ups hb)
        replace HVC := hid (HVC.out.ups hb)
        replace HB := hid (HB.out.trans (hb.mono HB.out.size))
        clear hb
        go_wp2_with fail
        refine (Check_any _ a _ HVA.out).mono ?_
        rw [HKA.out]
        rintro e w4 ⟨rfl, hb⟩
        replace HVA := hid (HVA.out.ups hb)
        replace HVB := hid (HVB.out.ups hb)
        replace HVC := hid (HVC.out.ups hb)
        replace HB := hid (HB.out.trans (hb.mono HB.out.size))
        clear hb
        go_wp2
        go_ret
        exact ⟨rfl, HB.out⟩
    · skip
      have HF := hid hf; clear hf
      have HG := hid hg; clear hg
      go_enter Try.func9, Try.ntmps9
      go_wp2_with fail
      refine (sane_any _ ).mono ?_
      rintro e w1 ⟨rfl, hb⟩
      replace HVA := hid (HVA.out.ups hb)
      replace HVB := hid (HVB.out.ups hb)
      replace HVC := hid (HVC.out.ups hb)
      replace HB := hid (HB.out.trans (hb.mono HB.out.size))
      clear hb
      go_wp2_with fail
      refine (few_b _ _ a b _ HVA.out HVB.out).mono ?_
      rw [HF.out]
      rintro e w2 ⟨rfl, hb⟩
      replace HVA := hid (HVA.out.ups hb)
      replace HVB := hid (HVB.out.ups hb)
      replace HVC := hid (HVC.out.ups hb)
      replace HB := hid (HB.out.trans (hb.mono HB.out.size))
      clear hb
      go_wp2_with fail
      refine (Few_b _ c _ HVC.out).mono ?_
      rw [HG.out]
      rintro e w3 ⟨rfl, hb⟩
      replace HVA := hid (HVA.out.ups hb)
      replace HVB := hid (HVB.out.ups hb)
      replace HVC := hid (HVC.out.ups hb)
      replace HB := hid (HB.out.trans (hb.mono HB.out.size))
      clear hb
      go_wp2
      go_ret
      exact ⟨rfl, HB.out⟩
  · skip
    have HF := hid hf; clear hf
    go_enter Try.func9, Try.ntmps9
    go_wp2_with fail
    refine (sane_any _ ).mono ?_
    rintro e w1 ⟨rfl, hb⟩
    replace HVA := hid (HVA.out.ups hb)
    replace HVB := hid (HVB.out.ups hb)
    replace HVC := hid (HVC.out.ups hb)
    replace HB := hid (HB.out.trans (hb.mono HB.out.size))
    clear hb
    go_wp2_with fail
    refine (few_b _ _ a b _ HVA.out HVB.out).mono ?_
    rw [HF.out]
    rintro e w2 ⟨rfl, hb⟩
    replace HVA := hid (HVA.out.ups hb)
    replace HVB := hid (HVB.out.ups hb)
    replace HVC := hid (HVC.out.ups hb)
    replace HB := hid (HB.out.trans (hb.mono HB.out.size))
    clear hb
    go_wp2
    go_ret
    exact ⟨rfl, HB.out⟩
end Go.Proofs.Ytnbhihjhpomenaa

/- The law of sizes. -/
import Derived.Test.YtnbhihjhpomenaaQ
namespace Go.Proofs.Ytnbhihjhpomenaa
open Go.RowKit Go
set_option linter.unusedVariables false
set_option linter.unusedSimpArgs false
theorem sizes_add {a b : Sp} (ha : T.ok 1024 (-1) a) (hb : T.ok 1024 (-1) b) : T.size (cs pOr a b) + T.size (cs pAnd a b) = T.size a + T.size b := by
  have e : ∀ l : Sp, T.ok 1024 (-1) l → T.size l = (T.cnt (T.has l) 1024 : Int) := fun l h => T.size_cnt (n := 1024) (by omega) h
  rw [e _ (cs_ok pOr a b), e _ (cs_ok pAnd a b), e _ ha, e _ hb]
  have h1 : T.cnt (T.has (cs pOr a b)) 1024 = T.cnt (fun x => T.has a x ∨ T.has b x) 1024 := T.cnt_congr (fun x _ => by
    rw [cs_has pOr rfl ha hb]; simp)
  have h2 : T.cnt (T.has (cs pAnd a b)) 1024 = T.cnt (fun x => T.has a x ∧ T.has b x) 1024 := T.cnt_congr (fun x _ => by
    rw [cs_has pAnd rfl ha hb]; simp)
  have h3 := T.cnt_or (P := T.has a) (Q := T.has b) 1024
  rw [h1, h2]
  omega
theorem cnt_yes {a : Sp} {k c : Nat} (h : c = T.cnt (T.has a) k) (hp : decide (T.has a k) = true) : c + 1 = T.cnt (T.has a) (k + 1) := by
  unfold T.cnt; rw [if_pos (by simpa using hp), h]
theorem cnt_no {a : Sp} {k c : Nat} (h : c = T.cnt (T.has a) k) (hp : decide (T.has a k) = false) : c = T.cnt (T.has a) (k + 1) := by
  rw [T.cnt, if_neg (by simpa using hp), h]; rfl
theorem cnt_ok {l : Sp} (h : T.ok 1024 (-1) l) : cnt l = T.size l := if_pos h
set_option maxRecDepth 100000 in
set_option maxHeartbeats 16000000 in
theorem sizes_any (va vb : Value) (a b : Sp) (w : World) (hva : SS w va a) (hvb : SS w vb b) : Calls Try.prog 8 #[va, vb] w fun e w' => e = .returned (.bool true) ∧ Below w.heap.size w w' := by
  have HVA := hid hva; have HVB := hid hvb
  have HB := hid (Below.refl w.heap.size w)
  clear hva hvb
  rcases tf (decide (a.length ≤ 40) && decide (b.length ≤ 40)) with hf | hf
  · rcases (Decidable.em (T.ok 1024 (-1) a)) with ha | ha
    · rcases (Decidable.em (T.ok 1024 (-1) b)) with hb0 | hb0
      · have HOA := hid ha; have HOB := hid hb0
        have HKA := hid (chk_ok ha); have HKB := hid (chk_ok hb0); have HCE := hid (ce_ok ha hb0)
        have HC0 := hid (cb_ok (P := pOr) ha hb0); have HK0 := hid (chk_ok (cs_ok pOr a b))
        have HC1 := hid (cb_ok (P := pAnd) ha hb0); have HK1 := hid (chk_ok (cs_ok pAnd a b))
        have hsum := sizes_add ha hb0
        obtain ⟨M, hM⟩ : ∃ z, z = T.size a := ⟨_, rfl⟩
        have bM := T.size_bound (by omega) ha
        rw [← hM] at bM hsum
        have HNM := hid ((cnt_ok ha).trans hM.symm)
        obtain ⟨N, hN⟩ : ∃ z, z = T.size b := ⟨_, rfl⟩
        have bN := T.size_bound (by omega) hb0
        rw [← hN] at bN hsum
        have HNN := hid ((cnt_ok hb0).trans hN.symm)
        obtain ⟨P, hP⟩ : ∃ z, z = T.size (cs pOr a b) := ⟨_, rfl⟩
        have bP := T.size_bound (by omega) (cs_ok pOr a b)
        rw [← hP] at bP hsum
        have HNP := hid ((cnt_ok (cs_ok pOr a b)).trans hP.symm)
        obtain ⟨Q, hQ⟩ : ∃ z, z = T.size (cs pAnd a b) := ⟨_, rfl⟩
        have bQ := T.size_bound (by omega) (cs_ok pAnd a b)
        rw [← hQ] at bQ hsum
        have HNQ := hid ((cnt_ok (cs_ok pAnd a b)).trans hQ.symm)
        have HMM := hid hM
        clear ha hb0 hM hN hP hQ
        obtain ⟨bM0, bM1⟩ := bM; obtain ⟨bN0, bN1⟩ := bN; obtain ⟨bP0, bP1⟩ := bP; obtain ⟨bQ0, bQ1⟩ := bQ
        have HF := hid hf; clear hf
        go_enter Try.func8, Try.ntmps8
        go_wp2_with fail
        refine (sane_any _ ).mono ?_
        rintro e w1 ⟨rfl, hb⟩
        replace HVA := hid (HVA.out.ups hb)
        replace HVB := hid (HVB.out.ups hb)
        replace HB := hid (HB.out.trans (hb.mono HB.out.size))
        clear hb
        go_wp2_with fail
        refine (few_b _ _ a b _ HVA.out HVB.out).mono ?_
        rw [HF.out]
        rintro e w2 ⟨rfl, hb⟩
        replace HVA := hid (HVA.out.ups hb)
        replace HVB := hid (HVB.out.ups hb)
        replace HB := hid (HB.out.trans (hb.mono HB.out.size))
        clear hb
        go_wp2_with fail
        refine (Check_any _ a _ HVA.out).mono ?_
        rw [HKA.out]
        rintro e w3 ⟨rfl, hb⟩
        replace HVA := hid (HVA.out.ups hb)
        replace HVB := hid (HVB.out.ups hb)
        replace HB := hid (HB.out.trans (hb.mono HB.out.size))
        clear hb
        go_wp2_with fail
        refine (Check_any _ b _ HVB.out).mono ?_
        rw [HKB.out]
        rintro e w4 ⟨rfl, hb⟩
        replace HVA := hid (HVA.out.ups hb)
        replace HVB := hid (HVB.out.ups hb)
        replace HB := hid (HB.out.trans (hb.mono HB.out.size))
        clear hb
        go_wp2_with fail
        refine (Union_any _ _ _ _ _ HVA.out HVB.out).mono ?_
        rw [HCE.out, HC0.out]
        rintro e w5 ⟨uX, rfl, hX, hb⟩
        replace HVA := hid (HVA.out.ups hb)
        replace HVB := hid (HVB.out.ups hb)
        replace HB := hid (HB.out.trans (hb.mono HB.out.size))
        clear hb
        have HX := hid hX; clear hX
        go_wp2_with fail
        refine (Meet_any _ _ _ _ _ HVA.out HVB.out).mono ?_
        rw [HCE.out, HC1.out]
        rintro e w6 ⟨uY, rfl, hY, hb⟩
        replace HVA := hid (HVA.out.ups hb)
        replace HVB := hid (HVB.out.ups hb)
        replace HX := hid (HX.out.ups hb)
        replace HB := hid (HB.out.trans (hb.mono HB.out.size))
        clear hb
        have HY := hid hY; clear hY
        go_wp2_with fail
        refine (Count_any _ a _ HVA.out).mono ?_
        rw [HNM.out, HKA.out]
        rintro e w7 ⟨rfl, hb⟩
        replace HVA := hid (HVA.out.ups hb)
        replace HVB := hid (HVB.out.ups hb)
        replace HX := hid (HX.out.ups hb)
        replace HY := hid (HY.out.ups hb)
        replace HB := hid (HB.out.trans (hb.mono HB.out.size))
        clear hb
        go_wp2_with fail
        refine (Count_any _ b _ HVB.out).mono ?_
        rw [HNN.out, HKB.out]
        rintro e w8 ⟨rfl, hb⟩
        replace HVA := hid (HVA.out.ups hb)
        replace HVB := hid (HVB.out.ups hb)
        replace HX := hid (HX.out.ups hb)
        replace HY := hid (HY.out.ups hb)
        replace HB := hid (HB.out.trans (hb.mono HB.out.size))
        clear hb
        go_wp2_with fail
        refine (Count_any _ (cs pOr a b) _ HX.out).mono ?_
        rw [HNP.out, HK0.out]
        rintro e w9 ⟨rfl, hb⟩
        replace HVA := hid (HVA.out.ups hb)
        replace HVB := hid (HVB.out.ups hb)
        replace HX := hid (HX.out.ups hb)
        replace HY := hid (HY.out.ups hb)
        replace HB := hid (HB.out.trans (hb.mono HB.out.size))
        clear hb
        go_wp2_with fail
        refine (Count_any _ (cs pAnd a b) _ HY.out).mono ?_
        rw [HNQ.out, HK1.out]
        rintro e w10 ⟨rfl, hb⟩
        replace HVA := hid (HVA.out.ups hb)
        replace HVB := hid (HVB.out.ups hb)
        replace HX := hid (HX.out.ups hb)
        replace HY := hid (HY.out.ups hb)
        replace HB := hid (HB.out.trans (hb.mono HB.out.size))
        clear hb
        go_wp2
        go_loopw [17, 98] (fun s i wr => ∃ k c : Nat, k ≤ 1024 ∧ c ≤ k ∧ i = .int .i64 k ∧ s = .int .i64 c ∧ Below w10.heap.size w10 wr ∧ Hid (c = T.cnt (T.has a) k)) (fun _ i _ => 1024 - (intOf i).toNat)
        case atStart => exact ⟨0, 0, by omega, by omega, rfl, rfl, Below.refl _ _, hid rfl⟩
        case round =>
          obtain ⟨k, c, hk, hck, rfl, rfl, hb, hz⟩ := hrel
          have HBl := hid hb
          replace HVA := hid (HVA.out.ups hb)
          replace HVB := hid (HVB.out.ups hb)
          replace HX := hid (HX.out.ups hb)
          replace HY := hid (HY.out.ups hb)
          replace HB := hid (HB.out.trans (hb.mono HB.out.size))
          clear hb
          by_cases hlt : k < 1024
          · obtain hpa | hpa := tf (decide (T.has a k))
            · have HCX := hid (cnt_yes hz.out hpa)
              have HPA := hid hpa
              clear hpa hz
              go_wp2_with fail
              refine (Has_any _ a _ _ HVA.out).mono ?_
              rw [HPA.out]
              rintro e w51 ⟨rfl, hb⟩
              replace HVA := hid (HVA.out.ups hb)
              replace HVB := hid (HVB.out.ups hb)
              replace HX := hid (HX.out.ups hb)
              replace HY := hid (HY.out.ups hb)
              replace HB := hid (HB.out.trans (hb.mono HB.out.size))
              replace HBl := hid (HBl.out.trans (hb.mono HBl.out.size))
              clear hb
              go_wp2
              go_roundw
              case rel => exact ⟨k + 1, c + 1, by omega, by omega, by go_num, by go_num, HBl.out, HCX⟩
              case measure => simp [intOf]; omega
            · have HCX := hid (cnt_no hz.out hpa)
              have HPA := hid hpa
              clear hpa hz
              go_wp2_with fail
              refine (Has_any _ a _ _ HVA.out).mono ?_
              rw [HPA.out]
              rintro e w51 ⟨rfl, hb⟩
              replace HVA := hid (HVA.out.ups hb)
              replace HVB := hid (HVB.out.ups hb)
              replace HX := hid (HX.out.ups hb)
              replace HY := hid (HY.out.ups hb)
              replace HB := hid (HB.out.trans (hb.mono HB.out.size))
              replace HBl := hid (HBl.out.trans (hb.mono HBl.out.size))
              clear hb
              go_wp2
              go_roundw
              case rel => exact ⟨k + 1, c, by omega, by omega, by go_num, rfl, HBl.out, HCX⟩
              case measure => simp [intOf]; omega
          · obtain rfl : k = 1024 := by omega
            have hcM : M = (c : Int) := by rw [HMM.out, hz.out]; exact T.size_cnt (n := 1024) (by omega) HOA.out
            clear hz HBl
            have hceq : ((c : Int) == M) = true := by rw [hcM]; simp
            clear hcM
            go_wp2
            go_ret
            exact ⟨rfl, HB.out⟩
      · have HKA := hid (chk_ok ha); have HKB := hid (chk_no hb0)
        clear ha hb0
        have HF := hid hf; clear hf
        go_enter Try.func8, Try.ntmps8
        go_wp2_with fail
        refine (sane_any _ ).mono ?_
        rintro e w1 ⟨rfl, hb⟩
        replace HVA := hid (HVA.out.ups hb)
        replace HVB := hid (HVB.out.ups hb)
        replace HB := hid (HB.out.trans (hb.mono HB.out.size))
        clear hb
        go_wp2_with fail
        refine (few_b _ _ a b _ HVA.out HVB.out).mono ?_
        rw [HF.out]
        rintro e w2 ⟨rfl, hb⟩
        replace HVA := hid (HVA.out.ups hb)
        replace HVB := hid (HVB.out.ups hb)
        replace HB := hid (HB.out.trans (hb.mono HB.out.size))
        clear hb
        go_wp2_with fail
        refine (Check_any _ a _ HVA.out).mono ?_
        rw [HKA.out]
        rintro e w3 ⟨rfl, hb⟩
        replace HVA := hid (HVA.out.ups hb)
        replace HVB := hid (HVB.out.ups hb)
        replace HB := hid (HB.out.trans (hb.mono HB.out.size))
        clear hb
        go_wp2_with fail
        refine (Check_any _ b _ HVB.out).mono ?_
        rw [HKB.out]
        rintro e w4 ⟨rfl, hb⟩
        replace HVA := hid (HVA.out.ups hb)
        replace HVB := hid (HVB.out.ups hb)
        replace HB := hid (HB.out.trans (hb.mono HB.out.size))
        clear hb
        go_wp2
        go_ret
        exact ⟨rfl, HB.out⟩
    · have HKA := hid (chk_no ha)
      clear ha
      have HF := hid hf; clear hf
      go_enter Try.func8, Try.ntmps8
      go_wp2_with fail
      refine (sane_any _ ).mono ?_
      rintro e w1 ⟨rfl, hb⟩
      replace HVA := hid (HVA.out.ups hb)
      replace HVB := hid (HVB.out.ups hb)
      replace HB := hid (HB.out.trans (hb.mono HB.out.size))
      clear hb
      go_wp2_with fail
      refine (few_b _ _ a b _ HVA.out HVB.out).mono ?_
      rw [HF.out]
      rintro e w2 ⟨rfl, hb⟩
      replace HVA := hid (HVA.out.ups hb)
      replace HVB := hid (HVB.out.ups hb)
      replace HB := hid (HB.out.trans (hb.mono HB.out.size))
      clear hb
      go_wp2_with fail
      refine (Check_any _ a _ HVA.out).mono ?_
      rw [HKA.out]
      rintro e w3 ⟨rfl, hb⟩
      replace HVA := hid (HVA.out.ups hb)
      replace HVB := hid (HVB.out.ups hb)
      replace HB := hid (HB.out.trans (hb.mono HB.out.size))
      clear hb
      go_wp2
      go_ret
      exact ⟨rfl, HB.out⟩
  · skip
    have HF := hid hf; clear hf
    go_enter Try.func8, Try.ntmps8
    go_wp2_with fail
    refine (sane_any _ ).mono ?_
    rintro e w1 ⟨rfl, hb⟩
    replace HVA := hid (HVA.out.ups hb)
    replace HVB := hid (HVB.out.ups hb)
    replace HB := hid (HB.out.trans (hb.mono HB.out.size))
    clear hb
    go_wp2_with fail
    refine (few_b _ _ a b _ HVA.out HVB.out).mono ?_
    rw [HF.out]
    rintro e w2 ⟨rfl, hb⟩
    replace HVA := hid (HVA.out.ups hb)
    replace HVB := hid (HVB.out.ups hb)
    replace HB := hid (HB.out.trans (hb.mono HB.out.size))
    clear hb
    go_wp2
    go_ret
    exact ⟨rfl, HB.out⟩
end Go.Proofs.Ytnbhihjhpomenaa

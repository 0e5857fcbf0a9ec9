/- The law of members. -/
import Derived.Test.YtnbhihjhpomenaaQ
namespace Go.Proofs.Ytnbhihjhpomenaa
open Go.RowKit Go
set_option linter.unusedVariables false
set_option linter.unusedSimpArgs false
set_option maxRecDepth 100000 in
set_option maxHeartbeats 16000000 in
theorem members_any (va vb : Value) (a b : Sp) (x : Int) (w : World) (hva : SS w va a) (hvb : SS w vb b) : Calls Try.prog 5 #[va, vb, .int .i64 x] w fun e w' => e = .returned (.bool true) ∧ Below w.heap.size w w' := by
  have HVA := hid hva; have HVB := hid hvb
  have HB := hid (Below.refl w.heap.size w)
  clear hva hvb
  rcases tf (decide (a.length ≤ 40) && decide (b.length ≤ 40)) with hf | hf
  · rcases (Decidable.em (T.ok 1024 (-1) a)) with ha | ha
    · rcases (Decidable.em (T.ok 1024 (-1) b)) with hb0 | hb0
      · have HOA := hid ha; have HOB := hid hb0
        have HCE := hid (ce_ok ha hb0); have HKA := hid (chk_ok ha); have HKB := hid (chk_ok hb0)
        have HC0 := hid (cb_ok (P := pOr) ha hb0); have HK0 := hid (chk_ok (cs_ok pOr a b))
        have HC1 := hid (cb_ok (P := pAnd) ha hb0); have HK1 := hid (chk_ok (cs_ok pAnd a b))
        have HC2 := hid (cb_ok (P := pNot) ha hb0); have HK2 := hid (chk_ok (cs_ok pNot a b))
        clear ha hb0
        have HF := hid hf; clear hf
        go_enter Try.func5, Try.ntmps5
        go_wp2_with fail
        refine (sane_any _ ).mono ?_
        rintro e w1 ⟨rfl, hb⟩
        replace HVA := hid (HVA.out.ups hb)
        replace HVB := hid (HVB.out.ups hb)
        replace HB := hid (HB.out.trans (hb.mono HB.out.size))
        clear hb
        go_wp2_with fail
        refine (few_b _ _ a b _ HVA.out HVB.out).mono ?_
        rw [HF.out]
        rintro e w2 ⟨rfl, hb⟩
        replace HVA := hid (HVA.out.ups hb)
        replace HVB := hid (HVB.out.ups hb)
        replace HB := hid (HB.out.trans (hb.mono HB.out.size))
        clear hb
        go_wp2_with fail
        refine (Union_any _ _ _ _ _ HVA.out HVB.out).mono ?_
        rw [HCE.out, HC0.out]
        rintro e w3 ⟨uX, rfl, hX, hb⟩
        replace HVA := hid (HVA.out.ups hb)
        replace HVB := hid (HVB.out.ups hb)
        replace HB := hid (HB.out.trans (hb.mono HB.out.size))
        clear hb
        have HX := hid hX; clear hX
        go_wp2_with fail
        refine (Meet_any _ _ _ _ _ HVA.out HVB.out).mono ?_
        rw [HCE.out, HC1.out]
        rintro e w4 ⟨uY, rfl, hY, hb⟩
        replace HVA := hid (HVA.out.ups hb)
        replace HVB := hid (HVB.out.ups hb)
        replace HX := hid (HX.out.ups hb)
        replace HB := hid (HB.out.trans (hb.mono HB.out.size))
        clear hb
        have HY := hid hY; clear hY
        go_wp2_with fail
        refine (Minus_any _ _ _ _ _ HVA.out HVB.out).mono ?_
        rw [HCE.out, HC2.out]
        rintro e w5 ⟨uZ, rfl, hZ, hb⟩
        replace HVA := hid (HVA.out.ups hb)
        replace HVB := hid (HVB.out.ups hb)
        replace HX := hid (HX.out.ups hb)
        replace HY := hid (HY.out.ups hb)
        replace HB := hid (HB.out.trans (hb.mono HB.out.size))
        clear hb
        have HZ := hid hZ; clear hZ
        go_wp2_with fail
        refine (Check_any _ a _ HVA.out).mono ?_
        rw [HKA.out]
        rintro e w6 ⟨rfl, hb⟩
        replace HVA := hid (HVA.out.ups hb)
        replace HVB := hid (HVB.out.ups hb)
        replace HX := hid (HX.out.ups hb)
        replace HY := hid (HY.out.ups hb)
        replace HZ := hid (HZ.out.ups hb)
        replace HB := hid (HB.out.trans (hb.mono HB.out.size))
        clear hb
        go_wp2_with fail
        refine (Check_any _ b _ HVB.out).mono ?_
        rw [HKB.out]
        rintro e w7 ⟨rfl, hb⟩
        replace HVA := hid (HVA.out.ups hb)
        replace HVB := hid (HVB.out.ups hb)
        replace HX := hid (HX.out.ups hb)
        replace HY := hid (HY.out.ups hb)
        replace HZ := hid (HZ.out.ups hb)
        replace HB := hid (HB.out.trans (hb.mono HB.out.size))
        clear hb
        go_wp2_with fail
        refine (Check_any _ (cs pOr a b) _ HX.out).mono ?_
        rw [HK0.out]
        rintro e w8 ⟨rfl, hb⟩
        replace HVA := hid (HVA.out.ups hb)
        replace HVB := hid (HVB.out.ups hb)
        replace HX := hid (HX.out.ups hb)
        replace HY := hid (HY.out.ups hb)
        replace HZ := hid (HZ.out.ups hb)
        replace HB := hid (HB.out.trans (hb.mono HB.out.size))
        clear hb
        go_wp2_with fail
        refine (Check_any _ (cs pAnd a b) _ HY.out).mono ?_
        rw [HK1.out]
        rintro e w9 ⟨rfl, hb⟩
        replace HVA := hid (HVA.out.ups hb)
        replace HVB := hid (HVB.out.ups hb)
        replace HX := hid (HX.out.ups hb)
        replace HY := hid (HY.out.ups hb)
        replace HZ := hid (HZ.out.ups hb)
        replace HB := hid (HB.out.trans (hb.mono HB.out.size))
        clear hb
        go_wp2_with fail
        refine (Check_any _ (cs pNot a b) _ HZ.out).mono ?_
        rw [HK2.out]
        rintro e w10 ⟨rfl, hb⟩
        replace HVA := hid (HVA.out.ups hb)
        replace HVB := hid (HVB.out.ups hb)
        replace HX := hid (HX.out.ups hb)
        replace HY := hid (HY.out.ups hb)
        replace HZ := hid (HZ.out.ups hb)
        replace HB := hid (HB.out.trans (hb.mono HB.out.size))
        clear hb
        go_wp2
        go_loopw [14] (fun s wr => ∃ t : Int, -1 ≤ t ∧ t ≤ 1025 ∧ s = .int .i64 t ∧ Below w10.heap.size w10 wr) (fun s _ => (1025 - intOf s).toNat)
        case atStart => exact ⟨-1, by omega, by omega, rfl, Below.refl _ _⟩
        case round =>
          obtain ⟨t, ht0, ht1, rfl, hb⟩ := hrel
          have HBl := hid hb
          replace HVA := hid (HVA.out.ups hb)
          replace HVB := hid (HVB.out.ups hb)
          replace HX := hid (HX.out.ups hb)
          replace HY := hid (HY.out.ups hb)
          replace HZ := hid (HZ.out.ups hb)
          replace HB := hid (HB.out.trans (hb.mono HB.out.size))
          clear hb
          by_cases hlt : t ≤ 1024
          · have hX := cs_dec (P := pOr) rfl HOA.out HOB.out t; have hY := cs_dec (P := pAnd) rfl HOA.out HOB.out t; have hZ := cs_dec (P := pNot) rfl HOA.out HOB.out t
            obtain ⟨hpa | hpa, hpb | hpb⟩ := And.intro (tf (decide (T.has a t))) (tf (decide (T.has b t)))
            · replace hX := hX.trans (show _ = true from by rw [hpa, hpb]; rfl)
              replace hY := hY.trans (show _ = true from by rw [hpa, hpb]; rfl)
              replace hZ := hZ.trans (show _ = false from by rw [hpa, hpb]; rfl)
              have HPA := hid hpa; have HPB := hid hpb; have HHX := hid hX; have HHY := hid hY; have HHZ := hid hZ
              clear hpa hpb hX hY hZ
              go_wp2_with fail
              refine (Has_any _ a t _ HVA.out).mono ?_
              rw [HPA.out]
              rintro e w51 ⟨rfl, hb⟩
              replace HVA := hid (HVA.out.ups hb)
              replace HVB := hid (HVB.out.ups hb)
              replace HX := hid (HX.out.ups hb)
              replace HY := hid (HY.out.ups hb)
              replace HZ := hid (HZ.out.ups hb)
              replace HB := hid (HB.out.trans (hb.mono HB.out.size))
              replace HBl := hid (HBl.out.trans (hb.mono HBl.out.size))
              clear hb
              go_wp2_with fail
              refine (Has_any _ b t _ HVB.out).mono ?_
              rw [HPB.out]
              rintro e w52 ⟨rfl, hb⟩
              replace HVA := hid (HVA.out.ups hb)
              replace HVB := hid (HVB.out.ups hb)
              replace HX := hid (HX.out.ups hb)
              replace HY := hid (HY.out.ups hb)
              replace HZ := hid (HZ.out.ups hb)
              replace HB := hid (HB.out.trans (hb.mono HB.out.size))
              replace HBl := hid (HBl.out.trans (hb.mono HBl.out.size))
              clear hb
              go_wp2_with fail
              refine (Has_any _ (cs pOr a b) t _ HX.out).mono ?_
              rw [HHX.out]
              rintro e w53 ⟨rfl, hb⟩
              replace HVA := hid (HVA.out.ups hb)
              replace HVB := hid (HVB.out.ups hb)
              replace HX := hid (HX.out.ups hb)
              replace HY := hid (HY.out.ups hb)
              replace HZ := hid (HZ.out.ups hb)
              replace HB := hid (HB.out.trans (hb.mono HB.out.size))
              replace HBl := hid (HBl.out.trans (hb.mono HBl.out.size))
              clear hb
              go_wp2_with fail
              refine (Has_any _ (cs pAnd a b) t _ HY.out).mono ?_
              rw [HHY.out]
              rintro e w54 ⟨rfl, hb⟩
              replace HVA := hid (HVA.out.ups hb)
              replace HVB := hid (HVB.out.ups hb)
              replace HX := hid (HX.out.ups hb)
              replace HY := hid (HY.out.ups hb)
              replace HZ := hid (HZ.out.ups hb)
              replace HB := hid (HB.out.trans (hb.mono HB.out.size))
              replace HBl := hid (HBl.out.trans (hb.mono HBl.out.size))
              clear hb
              go_wp2_with fail
              refine (Has_any _ (cs pNot a b) t _ HZ.out).mono ?_
              rw [HHZ.out]
              rintro e w55 ⟨rfl, hb⟩
              replace HVA := hid (HVA.out.ups hb)
              replace HVB := hid (HVB.out.ups hb)
              replace HX := hid (HX.out.ups hb)
              replace HY := hid (HY.out.ups hb)
              replace HZ := hid (HZ.out.ups hb)
              replace HB := hid (HB.out.trans (hb.mono HB.out.size))
              replace HBl := hid (HBl.out.trans (hb.mono HBl.out.size))
              clear hb
              go_wp2
              go_roundw
              case rel => exact ⟨t + 1, by omega, by omega, by go_num, HBl.out⟩
              case measure => simp [intOf]; omega
            · replace hX := hX.trans (show _ = true from by rw [hpa, hpb]; rfl)
              replace hY := hY.trans (show _ = false from by rw [hpa, hpb]; rfl)
              replace hZ := hZ.trans (show _ = true from by rw [hpa, hpb]; rfl)
              have HPA := hid hpa; have HPB := hid hpb; have HHX := hid hX; have HHY := hid hY; have HHZ := hid hZ
              clear hpa hpb hX hY hZ
              go_wp2_with fail
              refine (Has_any _ a t _ HVA.out).mono ?_
              rw [HPA.out]
              rintro e w51 ⟨rfl, hb⟩
              replace HVA := hid (HVA.out.ups hb)
              replace HVB := hid (HVB.out.ups hb)
              replace HX := hid (HX.out.ups hb)
              replace HY := hid (HY.out.ups hb)
              replace HZ := hid (HZ.out.ups hb)
              replace HB := hid (HB.out.trans (hb.mono HB.out.size))
              replace HBl := hid (HBl.out.trans (hb.mono HBl.out.size))
              clear hb
              go_wp2_with fail
              refine (Has_any _ b t _ HVB.out).mono ?_
              rw [HPB.out]
              rintro e w52 ⟨rfl, hb⟩
              replace HVA := hid (HVA.out.ups hb)
              replace HVB := hid (HVB.out.ups hb)
              replace HX := hid (HX.out.ups hb)
              replace HY := hid (HY.out.ups hb)
              replace HZ := hid (HZ.out.ups hb)
              replace HB := hid (HB.out.trans (hb.mono HB.out.size))
              replace HBl := hid (HBl.out.trans (hb.mono HBl.out.size))
              clear hb
              go_wp2_with fail
              refine (Has_any _ (cs pOr a b) t _ HX.out).mono ?_
              rw [HHX.out]
              rintro e w53 ⟨rfl, hb⟩
              replace HVA := hid (HVA.out.ups hb)
              replace HVB := hid (HVB.out.ups hb)
              replace HX := hid (HX.out.ups hb)
              replace HY := hid (HY.out.ups hb)
              replace HZ := hid (HZ.out.ups hb)
              replace HB := hid (HB.out.trans (hb.mono HB.out.size))
              replace HBl := hid (HBl.out.trans (hb.mono HBl.out.size))
              clear hb
              go_wp2_with fail
              refine (Has_any _ (cs pAnd a b) t _ HY.out).mono ?_
              rw [HHY.out]
              rintro e w54 ⟨rfl, hb⟩
              replace HVA := hid (HVA.out.ups hb)
              replace HVB := hid (HVB.out.ups hb)
              replace HX := hid (HX.out.ups hb)
              replace HY := hid (HY.out.ups hb)
              replace HZ := hid (HZ.out.ups hb)
              replace HB := hid (HB.out.trans (hb.mono HB.out.size))
              replace HBl := hid (HBl.out.trans (hb.mono HBl.out.size))
              clear hb
              go_wp2_with fail
              refine (Has_any _ (cs pNot a b) t _ HZ.out).mono ?_
              rw [HHZ.out]
              rintro e w55 ⟨rfl, hb⟩
              replace HVA := hid (HVA.out.ups hb)
              replace HVB := hid (HVB.out.ups hb)
              replace HX := hid (HX.out.ups hb)
              replace HY := hid (HY.out.ups hb)
              replace HZ := hid (HZ.out.ups hb)
              replace HB := hid (HB.out.trans (hb.mono HB.out.size))
              replace HBl := hid (HBl.out.trans (hb.mono HBl.out.size))
              clear hb
              go_wp2
              go_roundw
              case rel => exact ⟨t + 1, by omega, by omega, by go_num, HBl.out⟩
              case measure => simp [intOf]; omega
            · replace hX := hX.trans (show _ = true from by rw [hpa, hpb]; rfl)
              replace hY := hY.trans (show _ = false from by rw [hpa, hpb]; rfl)
              replace hZ := hZ.trans (show _ = false from by rw [hpa, hpb]; rfl)
              have HPA := hid hpa; have HPB := hid hpb; have HHX := hid hX; have HHY := hid hY; have HHZ := hid hZ
              clear hpa hpb hX hY hZ
              go_wp2_with fail
              refine (Has_any _ a t _ HVA.out).mono ?_
              rw [HPA.out]
              rintro e w51 ⟨rfl, hb⟩
              replace HVA := hid (HVA.out.ups hb)
              replace HVB := hid (HVB.out.ups hb)
              replace HX := hid (HX.out.ups hb)
              replace HY := hid (HY.out.ups hb)
              replace HZ := hid (HZ.out.ups hb)
              replace HB := hid (HB.out.trans (hb.mono HB.out.size))
              replace HBl := hid (HBl.out.trans (hb.mono HBl.out.size))
              clear hb
              go_wp2_with fail
              refine (Has_any _ b t _ HVB.out).mono ?_
              rw [HPB.out]
              rintro e w52 ⟨rfl, hb⟩
              replace HVA := hid (HVA.out.ups hb)
              replace HVB := hid (HVB.out.ups hb)
              replace HX := hid (HX.out.ups hb)
              replace HY := hid (HY.out.ups hb)
              replace HZ := hid (HZ.out.ups hb)
              replace HB := hid (HB.out.trans (hb.mono HB.out.size))
              replace HBl := hid (HBl.out.trans (hb.mono HBl.out.size))
              clear hb
              go_wp2_with fail
              refine (Has_any _ (cs pOr a b) t _ HX.out).mono ?_
              rw [HHX.out]
              rintro e w53 ⟨rfl, hb⟩
              replace HVA := hid (HVA.out.ups hb)
              replace HVB := hid (HVB.out.ups hb)
              replace HX := hid (HX.out.ups hb)
              replace HY := hid (HY.out.ups hb)
              replace HZ := hid (HZ.out.ups hb)
              replace HB := hid (HB.out.trans (hb.mono HB.out.size))
              replace HBl := hid (HBl.out.trans (hb.mono HBl.out.size))
              clear hb
              go_wp2_with fail
              refine (Has_any _ (cs pAnd a b) t _ HY.out).mono ?_
              rw [HHY.out]
              rintro e w54 ⟨rfl, hb⟩
              replace HVA := hid (HVA.out.ups hb)
              replace HVB := hid (HVB.out.ups hb)
              replace HX := hid (HX.out.ups hb)
              replace HY := hid (HY.out.ups hb)
              replace HZ := hid (HZ.out.ups hb)
              replace HB := hid (HB.out.trans (hb.mono HB.out.size))
              replace HBl := hid (HBl.out.trans (hb.mono HBl.out.size))
              clear hb
              go_wp2_with fail
              refine (Has_any _ (cs pNot a b) t _ HZ.out).mono ?_
              rw [HHZ.out]
              rintro e w55 ⟨rfl, hb⟩
              replace HVA := hid (HVA.out.ups hb)
              replace HVB := hid (HVB.out.ups hb)
              replace HX := hid (HX.out.ups hb)
              replace HY := hid (HY.out.ups hb)
              replace HZ := hid (HZ.out.ups hb)
              replace HB := hid (HB.out.trans (hb.mono HB.out.size))
              replace HBl := hid (HBl.out.trans (hb.mono HBl.out.size))
              clear hb
              go_wp2
              go_roundw
              case rel => exact ⟨t + 1, by omega, by omega, by go_num, HBl.out⟩
              case measure => simp [intOf]; omega
            · replace hX := hX.trans (show _ = false from by rw [hpa, hpb]; rfl)
              replace hY := hY.trans (show _ = false from by rw [hpa, hpb]; rfl)
              replace hZ := hZ.trans (show _ = false from by rw [hpa, hpb]; rfl)
              have HPA := hid hpa; have HPB := hid hpb; have HHX := hid hX; have HHY := hid hY; have HHZ := hid hZ
              clear hpa hpb hX hY hZ
              go_wp2_with fail
              refine (Has_any _ a t _ HVA.out).mono ?_
              rw [HPA.out]
              rintro e w51 ⟨rfl, hb⟩
              replace HVA := hid (HVA.out.ups hb)
              replace HVB := hid (HVB.out.ups hb)
              replace HX := hid (HX.out.ups hb)
              replace HY := hid (HY.out.ups hb)
              replace HZ := hid (HZ.out.ups hb)
              replace HB := hid (HB.out.trans (hb.mono HB.out.size))
              replace HBl := hid (HBl.out.trans (hb.mono HBl.out.size))
              clear hb
              go_wp2_with fail
              refine (Has_any _ b t _ HVB.out).mono ?_
              rw [HPB.out]
              rintro e w52 ⟨rfl, hb⟩
              replace HVA := hid (HVA.out.ups hb)
              replace HVB := hid (HVB.out.ups hb)
              replace HX := hid (HX.out.ups hb)
              replace HY := hid (HY.out.ups hb)
              replace HZ := hid (HZ.out.ups hb)
              replace HB := hid (HB.out.trans (hb.mono HB.out.size))
              replace HBl := hid (HBl.out.trans (hb.mono HBl.out.size))
              clear hb
              go_wp2_with fail
              refine (Has_any _ (cs pOr a b) t _ HX.out).mono ?_
              rw [HHX.out]
              rintro e w53 ⟨rfl, hb⟩
              replace HVA := hid (HVA.out.ups hb)
              replace HVB := hid (HVB.out.ups hb)
              replace HX := hid (HX.out.ups hb)
              replace HY := hid (HY.out.ups hb)
              replace HZ := hid (HZ.out.ups hb)
              replace HB := hid (HB.out.trans (hb.mono HB.out.size))
              replace HBl := hid (HBl.out.trans (hb.mono HBl.out.size))
              clear hb
              go_wp2_with fail
              refine (Has_any _ (cs pAnd a b) t _ HY.out).mono ?_
              rw [HHY.out]
              rintro e w54 ⟨rfl, hb⟩
              replace HVA := hid (HVA.out.ups hb)
              replace HVB := hid (HVB.out.ups hb)
              replace HX := hid (HX.out.ups hb)
              replace HY := hid (HY.out.ups hb)
              replace HZ := hid (HZ.out.ups hb)
              replace HB := hid (HB.out.trans (hb.mono HB.out.size))
              replace HBl := hid (HBl.out.trans (hb.mono HBl.out.size))
              clear hb
              go_wp2_with fail
              refine (Has_any _ (cs pNot a b) t _ HZ.out).mono ?_
              rw [HHZ.out]
              rintro e w55 ⟨rfl, hb⟩
              replace HVA := hid (HVA.out.ups hb)
              replace HVB := hid (HVB.out.ups hb)
              replace HX := hid (HX.out.ups hb)
              replace HY := hid (HY.out.ups hb)
              replace HZ := hid (HZ.out.ups hb)
              replace HB := hid (HB.out.trans (hb.mono HB.out.size))
              replace HBl := hid (HBl.out.trans (hb.mono HBl.out.size))
              clear hb
              go_wp2
              go_roundw
              case rel => exact ⟨t + 1, by omega, by omega, by go_num, HBl.out⟩
              case measure => simp [intOf]; omega
          · obtain rfl : t = 1025 := by omega
            rcases (by omega : x < 0 ∨ (0 ≤ x ∧ x < 1024) ∨ 1024 ≤ x) with h1 | ⟨h1, h2⟩ | h1
            · have HHX := hid (cs_out pOr a b x (by omega)); have HHY := hid (cs_out pAnd a b x (by omega)); have HHZ := hid (cs_out pNot a b x (by omega))
              go_wp2_with fail
              refine (Has_any _ (cs pOr a b) x _ HX.out).mono ?_
              rw [HHX.out]
              rintro e w81 ⟨rfl, hb⟩
              replace HVA := hid (HVA.out.ups hb)
              replace HVB := hid (HVB.out.ups hb)
              replace HX := hid (HX.out.ups hb)
              replace HY := hid (HY.out.ups hb)
              replace HZ := hid (HZ.out.ups hb)
              replace HB := hid (HB.out.trans (hb.mono HB.out.size))
              clear hb
              go_wp2_with fail
              refine (Has_any _ (cs pAnd a b) x _ HY.out).mono ?_
              rw [HHY.out]
              rintro e w82 ⟨rfl, hb⟩
              replace HVA := hid (HVA.out.ups hb)
              replace HVB := hid (HVB.out.ups hb)
              replace HX := hid (HX.out.ups hb)
              replace HY := hid (HY.out.ups hb)
              replace HZ := hid (HZ.out.ups hb)
              replace HB := hid (HB.out.trans (hb.mono HB.out.size))
              clear hb
              go_wp2_with fail
              refine (Has_any _ (cs pNot a b) x _ HZ.out).mono ?_
              rw [HHZ.out]
              rintro e w83 ⟨rfl, hb⟩
              replace HVA := hid (HVA.out.ups hb)
              replace HVB := hid (HVB.out.ups hb)
              replace HX := hid (HX.out.ups hb)
              replace HY := hid (HY.out.ups hb)
              replace HZ := hid (HZ.out.ups hb)
              replace HB := hid (HB.out.trans (hb.mono HB.out.size))
              clear hb
              go_wp2
              go_ret
              exact ⟨rfl, HB.out⟩
            · go_wp2
              go_ret
              exact ⟨rfl, HB.out⟩
            · have HHX := hid (cs_out pOr a b x (by omega)); have HHY := hid (cs_out pAnd a b x (by omega)); have HHZ := hid (cs_out pNot a b x (by omega))
              go_wp2_with fail
              refine (Has_any _ (cs pOr a b) x _ HX.out).mono ?_
              rw [HHX.out]
              rintro e w81 ⟨rfl, hb⟩
              replace HVA := hid (HVA.out.ups hb)
              replace HVB := hid (HVB.out.ups hb)
              replace HX := hid (HX.out.ups hb)
              replace HY := hid (HY.out.ups hb)
              replace HZ := hid (HZ.out.ups hb)
              replace HB := hid (HB.out.trans (hb.mono HB.out.size))
              clear hb
              go_wp2_with fail
              refine (Has_any _ (cs pAnd a b) x _ HY.out).mono ?_
              rw [HHY.out]
              rintro e w82 ⟨rfl, hb⟩
              replace HVA := hid (HVA.out.ups hb)
              replace HVB := hid (HVB.out.ups hb)
              replace HX := hid (HX.out.ups hb)
              replace HY := hid (HY.out.ups hb)
              replace HZ := hid (HZ.out.ups hb)
              replace HB := hid (HB.out.trans (hb.mono HB.out.size))
              clear hb
              go_wp2_with fail
              refine (Has_any _ (cs pNot a b) x _ HZ.out).mono ?_
              rw [HHZ.out]
              rintro e w83 ⟨rfl, hb⟩
              replace HVA := hid (HVA.out.ups hb)
              replace HVB := hid (HVB.out.ups hb)
              replace HX := hid (HX.out.ups hb)
              replace HY := hid (HY.out.ups hb)
              replace HZ := hid (HZ.out.ups hb)
              replace HB := hid (HB.out.trans (hb.mono HB.out.size))
              clear hb
              go_wp2
              go_ret
              exact ⟨rfl, HB.out⟩
      · have HKA := hid (chk_ok ha); have HKB := hid (chk_no hb0)
        have HCE := hid (ce_no (fun h : T.ok 1024 (-1) a ∧ T.ok 1024 (-1) b => hb0 h.2))
        have HC0 := hid (cb_no (P := pOr) (fun h : T.ok 1024 (-1) a ∧ T.ok 1024 (-1) b => hb0 h.2))
        have HC1 := hid (cb_no (P := pAnd) (fun h : T.ok 1024 (-1) a ∧ T.ok 1024 (-1) b => hb0 h.2))
        have HC2 := hid (cb_no (P := pNot) (fun h : T.ok 1024 (-1) a ∧ T.ok 1024 (-1) b => hb0 h.2))
        clear ha hb0
        have HF := hid hf; clear hf
        go_enter Try.func5, Try.ntmps5
        go_wp2_with fail
        refine (sane_any _ ).mono ?_
        rintro e w1 ⟨rfl, hb⟩
        replace HVA := hid (HVA.out.ups hb)
        replace HVB := hid (HVB.out.ups hb)
        replace HB := hid (HB.out.trans (hb.mono HB.out.size))
        clear hb
        go_wp2_with fail
        refine (few_b _ _ a b _ HVA.out HVB.out).mono ?_
        rw [HF.out]
        rintro e w2 ⟨rfl, hb⟩
        replace HVA := hid (HVA.out.ups hb)
        replace HVB := hid (HVB.out.ups hb)
        replace HB := hid (HB.out.trans (hb.mono HB.out.size))
        clear hb
        go_wp2_with fail
        refine (Union_any _ _ _ _ _ HVA.out HVB.out).mono ?_
        rw [HCE.out, HC0.out]
        rintro e w3 ⟨uX, rfl, hX, hb⟩
        replace HVA := hid (HVA.out.ups hb)
        replace HVB := hid (HVB.out.ups hb)
        replace HB := hid (HB.out.trans (hb.mono HB.out.size))
        clear hb
        obtain ⟨pX, cX, fX⟩ := hX.form
        subst fX
        have HX := hid hX; clear hX
        go_wp2_with fail
        refine (Meet_any _ _ _ _ _ HVA.out HVB.out).mono ?_
        rw [HCE.out, HC1.out]
        rintro e w4 ⟨uY, rfl, hY, hb⟩
        replace HVA := hid (HVA.out.ups hb)
        replace HVB := hid (HVB.out.ups hb)
        replace HX := hid (HX.out.ups hb)
        replace HB := hid (HB.out.trans (hb.mono HB.out.size))
        clear hb
        obtain ⟨pY, cY, fY⟩ := hY.form
        subst fY
        have HY := hid hY; clear hY
        go_wp2_with fail
        refine (Minus_any _ _ _ _ _ HVA.out HVB.out).mono ?_
        rw [HCE.out, HC2.out]
        rintro e w5 ⟨uZ, rfl, hZ, hb⟩
        replace HVA := hid (HVA.out.ups hb)
        replace HVB := hid (HVB.out.ups hb)
        replace HX := hid (HX.out.ups hb)
        replace HY := hid (HY.out.ups hb)
        replace HB := hid (HB.out.trans (hb.mono HB.out.size))
        clear hb
        obtain ⟨pZ, cZ, fZ⟩ := hZ.form
        subst fZ
        have HZ := hid hZ; clear hZ
        go_wp2_with fail
        refine (Check_any _ a _ HVA.out).mono ?_
        rw [HKA.out]
        rintro e w6 ⟨rfl, hb⟩
        replace HVA := hid (HVA.out.ups hb)
        replace HVB := hid (HVB.out.ups hb)
        replace HX := hid (HX.out.ups hb)
        replace HY := hid (HY.out.ups hb)
        replace HZ := hid (HZ.out.ups hb)
        replace HB := hid (HB.out.trans (hb.mono HB.out.size))
        clear hb
        go_wp2_with fail
        refine (Check_any _ b _ HVB.out).mono ?_
        rw [HKB.out]
        rintro e w7 ⟨rfl, hb⟩
        replace HVA := hid (HVA.out.ups hb)
        replace HVB := hid (HVB.out.ups hb)
        replace HX := hid (HX.out.ups hb)
        replace HY := hid (HY.out.ups hb)
        replace HZ := hid (HZ.out.ups hb)
        replace HB := hid (HB.out.trans (hb.mono HB.out.size))
        clear hb
        go_wp2
        go_ret
        exact ⟨rfl, HB.out⟩
    · have HKA := hid (chk_no ha)
      have HCE := hid (ce_no (fun h : T.ok 1024 (-1) a ∧ T.ok 1024 (-1) b => ha h.1))
      have HC0 := hid (cb_no (P := pOr) (fun h : T.ok 1024 (-1) a ∧ T.ok 1024 (-1) b => ha h.1))
      have HC1 := hid (cb_no (P := pAnd) (fun h : T.ok 1024 (-1) a ∧ T.ok 1024 (-1) b => ha h.1))
      have HC2 := hid (cb_no (P := pNot) (fun h : T.ok 1024 (-1) a ∧ T.ok 1024 (-1) b => ha h.1))
      clear ha
      have HF := hid hf; clear hf
      go_enter Try.func5, Try.ntmps5
      go_wp2_with fail
      refine (sane_any _ ).mono ?_
      rintro e w1 ⟨rfl, hb⟩
      replace HVA := hid (HVA.out.ups hb)
      replace HVB := hid (HVB.out.ups hb)
      replace HB := hid (HB.out.trans (hb.mono HB.out.size))
      clear hb
      go_wp2_with fail
      refine (few_b _ _ a b _ HVA.out HVB.out).mono ?_
      rw [HF.out]
      rintro e w2 ⟨rfl, hb⟩
      replace HVA := hid (HVA.out.ups hb)
      replace HVB := hid (HVB.out.ups hb)
      replace HB := hid (HB.out.trans (hb.mono HB.out.size))
      clear hb
      go_wp2_with fail
      refine (Union_any _ _ _ _ _ HVA.out HVB.out).mono ?_
      rw [HCE.out, HC0.out]
      rintro e w3 ⟨uX, rfl, hX, hb⟩
      replace HVA := hid (HVA.out.ups hb)
      replace HVB := hid (HVB.out.ups hb)
      replace HB := hid (HB.out.trans (hb.mono HB.out.size))
      clear hb
      obtain ⟨pX, cX, fX⟩ := hX.form
      subst fX
      have HX := hid hX; clear hX
      go_wp2_with fail
      refine (Meet_any _ _ _ _ _ HVA.out HVB.out).mono ?_
      rw [HCE.out, HC1.out]
      rintro e w4 ⟨uY, rfl, hY, hb⟩
      replace HVA := hid (HVA.out.ups hb)
      replace HVB := hid (HVB.out.ups hb)
      replace HX := hid (HX.out.ups hb)
      replace HB := hid (HB.out.trans (hb.mono HB.out.size))
      clear hb
      obtain ⟨pY, cY, fY⟩ := hY.form
      subst fY
      have HY := hid hY; clear hY
      go_wp2_with fail
      refine (Minus_any _ _ _ _ _ HVA.out HVB.out).mono ?_
      rw [HCE.out, HC2.out]
      rintro e w5 ⟨uZ, rfl, hZ, hb⟩
      replace HVA := hid (HVA.out.ups hb)
      replace HVB := hid (HVB.out.ups hb)
      replace HX := hid (HX.out.ups hb)
      replace HY := hid (HY.out.ups hb)
      replace HB := hid (HB.out.trans (hb.mono HB.out.size))
      clear hb
      obtain ⟨pZ, cZ, fZ⟩ := hZ.form
      subst fZ
      have HZ := hid hZ; clear hZ
      go_wp2_with fail
      refine (Check_any _ a _ HVA.out).mono ?_
      rw [HKA.out]
      rintro e w6 ⟨rfl, hb⟩
      replace HVA := hid (HVA.out.ups hb)
      replace HVB := hid (HVB.out.ups hb)
      replace HX := hid (HX.out.ups hb)
      replace HY := hid (HY.out.ups hb)
      replace HZ := hid (HZ.out.ups hb)
      replace HB := hid (HB.out.trans (hb.mono HB.out.size))
      clear hb
      go_wp2
      go_ret
      exact ⟨rfl, HB.out⟩
  · have HF := hid hf; clear hf
    go_enter Try.func5, Try.ntmps5
    go_wp2_with fail
    refine (sane_any _ ).mono ?_
    rintro e w1 ⟨rfl, hb⟩
    replace HVA := hid (HVA.out.ups hb)
    replace HVB := hid (HVB.out.ups hb)
    replace HB := hid (HB.out.trans (hb.mono HB.out.size))
    clear hb
    go_wp2_with fail
    refine (few_b _ _ a b _ HVA.out HVB.out).mono ?_
    rw [HF.out]
    rintro e w2 ⟨rfl, hb⟩
    replace HVA := hid (HVA.out.ups hb)
    replace HVB := hid (HVB.out.ups hb)
    replace HB := hid (HB.out.trans (hb.mono HB.out.size))
    clear hb
    go_wp2
    go_ret
    exact ⟨rfl, HB.out⟩
end Go.Proofs.Ytnbhihjhpomenaa

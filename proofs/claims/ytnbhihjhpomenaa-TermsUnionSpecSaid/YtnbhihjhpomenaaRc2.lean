/- The reference's combine with one operation; its Union, Meet or Minus. -/
import Derived.Test.YtnbhihjhpomenaaRd
namespace Go.Proofs.Ytnbhihjhpomenaa
open Go.RowKit Go
set_option linter.unusedVariables false
set_option linter.unusedSimpArgs false
set_option maxRecDepth 100000 in
set_option maxHeartbeats 16000000 in
theorem rcombine2_any (va vb : Value) (a b : Sp) (w : World) (hva : SS w va a) (hvb : SS w vb b) : Calls Try.prog 29 #[va, vb, .int .i64 2] w fun e w' => ∃ u, e = .returned (.tuple #[u, .int .i64 (ce a b)]) ∧ SS w' u (cb pAnd a b) ∧ Below w.heap.size w w' := by
  have HVA := hid hva; have HVB := hid hvb
  have HB := hid (Below.refl w.heap.size w)
  clear hva hvb
  rcases (Decidable.em (T.ok 1024 (-1) a)) with ha | ha
  · rcases (Decidable.em (T.ok 1024 (-1) b)) with hb0 | hb0
    · have HKA := hid (chk_ok ha); have HKB := hid (chk_ok hb0); have HCE := hid (ce_ok ha hb0); have HCB := hid (cb_ok (P := pAnd) ha hb0)
      clear ha hb0
      obtain ⟨PB, hPB⟩ : ∃ PB : Nat → Bool, PB = fun t : Nat => pAnd (decide (T.has a (t : Int))) (decide (T.has b (t : Int))) := ⟨_, rfl⟩
      have hcs : ofb PB 1024 = cs pAnd a b := by rw [hPB]; exact ofb_cs _ _ _
      have hat : ∀ k : Nat, PB k = pAnd (decide (T.has a (k : Int))) (decide (T.has b (k : Int))) := fun k => by rw [hPB]
      have HCS := hid hcs; have HAT := hid hat
      clear hPB hcs hat
      go_enter Try.func29, Try.ntmps29
      rw [HCE.out, HCB.out]
      go_wp2_with fail
      refine (rCheck_any _ a _ HVA.out).mono ?_
      rw [HKA.out]
      rintro e w1 ⟨rfl, hb⟩
      replace HVA := hid (HVA.out.ups hb)
      replace HVB := hid (HVB.out.ups hb)
      replace HB := hid (HB.out.trans (hb.mono HB.out.size))
      clear hb
      go_wp2_with fail
      refine (rCheck_any _ b _ HVB.out).mono ?_
      rw [HKB.out]
      rintro e w2 ⟨rfl, hb⟩
      replace HVA := hid (HVA.out.ups hb)
      replace HVB := hid (HVB.out.ups hb)
      replace HB := hid (HB.out.trans (hb.mono HB.out.size))
      clear hb
      go_wp2_with (first | (refine wpl_build47 PB rfl rfl (some 24) rfl ?_) | (refine wpl_alloc47 PB rfl rfl (some 10) rfl ?_) | (refine wpl_store_new (zs := row PB 0) (vs := row PB 0) 47 (.tmp 10) (.tmp 24) rfl rfl rfl rfl rfl (info47 PB 0) (row_one PB 0) ?_; intro W hwc hwf hwb hws; have HWC := hid hwc; have HWF := hid hwf; have HWB := hid hwb; have HWS := hid hws; clear hwc hwf hwb hws))
      obtain ⟨gb, hgb⟩ : ∃ gb, gb = w2.heap.size := ⟨_, rfl⟩
      rw [← hgb] at HWC HWF HWB HWS ⊢
      have HGB := hid hgb; clear hgb
      have hgs : gb < W.heap.size := by rw [HWS.out]; omega
      go_loopw [11] (fun i wr => ∃ k : Nat, k ≤ 1024 ∧ i = .int .i64 k ∧ Cells wr ⟨gb, 0, none⟩ (row PB k) ∧ Free wr gb ∧ Below gb w2 wr ∧ gb < wr.heap.size) (fun i _ => 1024 - (intOf i).toNat)
      case atStart => exact ⟨0, by omega, rfl, HWC.out, HWF.out, HWB.out, hgs⟩
      case round =>
        obtain ⟨k, hk, rfl, hcs, hfr, hb, hgr⟩ := hrel
        clear HWC HWF HWB HWS hgs
        have hb0 : Below w2.heap.size w2 wr := by rw [← HGB.out]; exact hb
        have HVAr := hid (HVA.out.ups hb0); have HVBr := hid (HVB.out.ups hb0)
        clear hb0
        by_cases hlt : k < 1024
        · have hPk := HAT.out k
          have HCS2 := hid hcs; have HFR := hid hfr; have HBW := hid hb
          clear hcs hfr hb
          obtain ⟨hpa | hpa, hpb | hpb⟩ := And.intro (tf (decide (T.has a (k : Int)))) (tf (decide (T.has b (k : Int))))
          · rw [hpa, hpb] at hPk
            have hrow := row_set PB k hlt
            rw [show PB k = true from hPk] at hrow
            have HROW := hid hrow; have HPA := hid hpa; have HPB := hid hpb
            clear hPk hrow hpa hpb
            go_wp2_with fail
            refine (rHas_any va a _ _ HVAr.out).mono ?_
            rw [HPA.out]
            rintro e w5 ⟨rfl, hb5⟩
            have HB5 := hid hb5; clear hb5
            go_wp2_with fail
            refine (rHas_any vb b _ _ (HVBr.out.ups HB5.out)).mono ?_
            rw [HPB.out]
            rintro e w6 ⟨rfl, hb6⟩
            have hb56 := HB5.out.trans (hb6.mono HB5.out.size)
            have hc6 := HCS2.out.ups hb56 hgr
            have hf6 := HFR.out.up hb56 hgr
            have hx6 := hc6.at0 (row_get PB k k hlt)
            have hset := hc6.set k (.bool true)
            rw [HROW.out] at hset
            have hfx := hf6 k
            have HSET := hid hset; have HF7 := hid (hf6.set ⟨gb, k, none⟩ (.bool true)); have HB7 := hid ((HBW.out.trans (hb56.mono (Nat.le_of_lt hgr))).setCell (p := ⟨gb, k, none⟩) (Nat.le_refl _) (.bool true))
            have HG7 := hid (Nat.lt_of_lt_of_le hgr hb56.size)
            clear hb6 hb56 hc6 hf6 hset
            go_wp2
            go_roundw
            case rel => exact ⟨k + 1, by omega, by go_num, HSET.out, HF7.out, HB7.out, by rw [World.size_setCell]; exact HG7.out⟩
            case measure => simp [intOf]; omega
          · rw [hpa, hpb] at hPk
            have hrow := row_set PB k hlt
            rw [show PB k = false from hPk] at hrow
            have HROW := hid hrow; have HPA := hid hpa; have HPB := hid hpb
            clear hPk hrow hpa hpb
            go_wp2_with fail
            refine (rHas_any va a _ _ HVAr.out).mono ?_
            rw [HPA.out]
            rintro e w5 ⟨rfl, hb5⟩
            have HB5 := hid hb5; clear hb5
            go_wp2_with fail
            refine (rHas_any vb b _ _ (HVBr.out.ups HB5.out)).mono ?_
            rw [HPB.out]
            rintro e w6 ⟨rfl, hb6⟩
            have hb56 := HB5.out.trans (hb6.mono HB5.out.size)
            have hc6 := HCS2.out.ups hb56 hgr
            have hf6 := HFR.out.up hb56 hgr
            have hx6 := hc6.at0 (row_get PB k k hlt)
            have hset := hc6.set k (.bool false)
            rw [HROW.out] at hset
            have hfx := hf6 k
            have HSET := hid hset; have HF7 := hid (hf6.set ⟨gb, k, none⟩ (.bool false)); have HB7 := hid ((HBW.out.trans (hb56.mono (Nat.le_of_lt hgr))).setCell (p := ⟨gb, k, none⟩) (Nat.le_refl _) (.bool false))
            have HG7 := hid (Nat.lt_of_lt_of_le hgr hb56.size)
            clear hb6 hb56 hc6 hf6 hset
            go_wp2
            go_roundw
            case rel => exact ⟨k + 1, by omega, by go_num, HSET.out, HF7.out, HB7.out, by rw [World.size_setCell]; exact HG7.out⟩
            case measure => simp [intOf]; omega
          · rw [hpa, hpb] at hPk
            have hrow := row_set PB k hlt
            rw [show PB k = false from hPk] at hrow
            have HROW := hid hrow; have HPA := hid hpa; have HPB := hid hpb
            clear hPk hrow hpa hpb
            go_wp2_with fail
            refine (rHas_any va a _ _ HVAr.out).mono ?_
            rw [HPA.out]
            rintro e w5 ⟨rfl, hb5⟩
            have HB5 := hid hb5; clear hb5
            go_wp2_with fail
            refine (rHas_any vb b _ _ (HVBr.out.ups HB5.out)).mono ?_
            rw [HPB.out]
            rintro e w6 ⟨rfl, hb6⟩
            have hb56 := HB5.out.trans (hb6.mono HB5.out.size)
            have hc6 := HCS2.out.ups hb56 hgr
            have hf6 := HFR.out.up hb56 hgr
            have hx6 := hc6.at0 (row_get PB k k hlt)
            have hset := hc6.set k (.bool false)
            rw [HROW.out] at hset
            have hfx := hf6 k
            have HSET := hid hset; have HF7 := hid (hf6.set ⟨gb, k, none⟩ (.bool false)); have HB7 := hid ((HBW.out.trans (hb56.mono (Nat.le_of_lt hgr))).setCell (p := ⟨gb, k, none⟩) (Nat.le_refl _) (.bool false))
            have HG7 := hid (Nat.lt_of_lt_of_le hgr hb56.size)
            clear hb6 hb56 hc6 hf6 hset
            go_wp2
            go_roundw
            case rel => exact ⟨k + 1, by omega, by go_num, HSET.out, HF7.out, HB7.out, by rw [World.size_setCell]; exact HG7.out⟩
            case measure => simp [intOf]; omega
          · rw [hpa, hpb] at hPk
            have hrow := row_set PB k hlt
            rw [show PB k = false from hPk] at hrow
            have HROW := hid hrow; have HPA := hid hpa; have HPB := hid hpb
            clear hPk hrow hpa hpb
            go_wp2_with fail
            refine (rHas_any va a _ _ HVAr.out).mono ?_
            rw [HPA.out]
            rintro e w5 ⟨rfl, hb5⟩
            have HB5 := hid hb5; clear hb5
            go_wp2_with fail
            refine (rHas_any vb b _ _ (HVBr.out.ups HB5.out)).mono ?_
            rw [HPB.out]
            rintro e w6 ⟨rfl, hb6⟩
            have hb56 := HB5.out.trans (hb6.mono HB5.out.size)
            have hc6 := HCS2.out.ups hb56 hgr
            have hf6 := HFR.out.up hb56 hgr
            have hx6 := hc6.at0 (row_get PB k k hlt)
            have hset := hc6.set k (.bool false)
            rw [HROW.out] at hset
            have hfx := hf6 k
            have HSET := hid hset; have HF7 := hid (hf6.set ⟨gb, k, none⟩ (.bool false)); have HB7 := hid ((HBW.out.trans (hb56.mono (Nat.le_of_lt hgr))).setCell (p := ⟨gb, k, none⟩) (Nat.le_refl _) (.bool false))
            have HG7 := hid (Nat.lt_of_lt_of_le hgr hb56.size)
            clear hb6 hb56 hc6 hf6 hset
            go_wp2
            go_roundw
            case rel => exact ⟨k + 1, by omega, by go_num, HSET.out, HF7.out, HB7.out, by rw [World.size_setCell]; exact HG7.out⟩
            case measure => simp [intOf]; omega
        · have hk2 : k = 1024 := by omega
          subst hk2
          have HRG := hid hcs.range
          have HBW := hid hb
          clear hcs hfr hb
          go_wp2_with (refine wpList_load_mid rfl 47 (.tmp 10) rfl gb 0 rfl (row PB 1024) _ HRG.out Try.underlying47 rfl (info47 PB 1024) ?_)
          refine (Of_any PB _).mono ?_
          rintro e w7 ⟨u, rfl, hs, hb7⟩
          rw [HCS.out] at hs
          have HS := hid hs
          have HBF := hid (HB.out.trans ((HBW.out.trans (hb7.mono (Nat.le_of_lt hgr))).mono (by rw [HGB.out]; exact HB.out.size)))
          clear hs hb7
          go_wp2
          exact bodyPost_ret (v := .tuple #[u, .int .i64 0]) (by simp [results, Try.results29, go_sem]) rfl ⟨u, rfl, HS.out, HBF.out⟩
    · have HKA := hid (chk_ok ha); have HKB := hid (chk_no hb0); have HCE := hid (ce_no (fun h : T.ok 1024 (-1) a ∧ T.ok 1024 (-1) b => hb0 h.2)); have HCB := hid (cb_no (P := pAnd) (fun h : T.ok 1024 (-1) a ∧ T.ok 1024 (-1) b => hb0 h.2))
      clear ha hb0
      go_enter Try.func29, Try.ntmps29
      rw [HCE.out, HCB.out]
      go_wp2_with fail
      refine (rCheck_any _ a _ HVA.out).mono ?_
      rw [HKA.out]
      rintro e w1 ⟨rfl, hb⟩
      replace HVA := hid (HVA.out.ups hb)
      replace HVB := hid (HVB.out.ups hb)
      replace HB := hid (HB.out.trans (hb.mono HB.out.size))
      clear hb
      go_wp2_with fail
      refine (rCheck_any _ b _ HVB.out).mono ?_
      rw [HKB.out]
      rintro e w2 ⟨rfl, hb⟩
      replace HVA := hid (HVA.out.ups hb)
      replace HVB := hid (HVB.out.ups hb)
      replace HB := hid (HB.out.trans (hb.mono HB.out.size))
      clear hb
      go_wp2
      exact bodyPost_ret (v := .tuple #[.slice none 0 0, .int .i64 60]) (by simp [results, Try.results29, go_sem]) rfl ⟨_, rfl, .inl ⟨rfl, rfl⟩, HB.out⟩
  · have HKA := hid (chk_no ha); have HCE := hid (ce_no (fun h : T.ok 1024 (-1) a ∧ T.ok 1024 (-1) b => ha h.1)); have HCB := hid (cb_no (P := pAnd) (fun h : T.ok 1024 (-1) a ∧ T.ok 1024 (-1) b => ha h.1))
    clear ha
    go_enter Try.func29, Try.ntmps29
    rw [HCE.out, HCB.out]
    go_wp2_with fail
    refine (rCheck_any _ a _ HVA.out).mono ?_
    rw [HKA.out]
    rintro e w1 ⟨rfl, hb⟩
    replace HVA := hid (HVA.out.ups hb)
    replace HVB := hid (HVB.out.ups hb)
    replace HB := hid (HB.out.trans (hb.mono HB.out.size))
    clear hb
    go_wp2
    exact bodyPost_ret (v := .tuple #[.slice none 0 0, .int .i64 60]) (by simp [results, Try.results29, go_sem]) rfl ⟨_, rfl, .inl ⟨rfl, rfl⟩, HB.out⟩
theorem rMeet_any (va vb : Value) (a b : Sp) (w : World) (hva : SS w va a) (hvb : SS w vb b) : Calls Try.prog 22 #[va, vb] w fun e w' => ∃ u, e = .returned (.tuple #[u, .int .i64 (ce a b)]) ∧ SS w' u (cb pAnd a b) ∧ Below w.heap.size w w' := by
  have HC := hid (rcombine2_any va vb a b w hva hvb)
  clear hva hvb
  go_enter Try.func22, Try.ntmps22
  go_wp2_with fail
  refine HC.out.mono ?_
  rintro e w1 ⟨u, rfl, hs, hb⟩
  have HS := hid hs; have HB := hid hb
  clear hs hb
  go_wp2
  exact bodyPost_ret (v := .tuple #[u, .int .i64 (ce a b)]) (by simp [results, Try.results22, go_sem]) rfl ⟨_, rfl, HS.out, HB.out⟩
end Go.Proofs.Ytnbhihjhpomenaa

/- Contract: Merge of the reference. -/
import Derived.Test.YtlkcnnamnjnmbaaEr
import Derived.Test.YtlkcnnamnjnmbaaF
namespace Go.Proofs.Ytlkcnnamnjnmbaa
open Go.RowKit Go
set_option linter.unusedVariables false
set_option linter.unusedSimpArgs false
set_option maxRecDepth 100000 in
set_option maxHeartbeats 8000000 in
theorem rMerge_any (va vb : Value) (a b : List St) (w : World) (hva : KS w va a) (hvb : KS w vb b) (hla : (a ++ b).length ≤ 10000) :
    Calls Try.prog 23 #[va, vb] w fun e w' => (∃ u, e = .returned (.tuple #[u, .int .i64 (S8.mge a b)]) ∧ KS w' u (S8.mg a b)) ∧ Below w.heap.size w w' := by
  have HLA := hid hla
  obtain ⟨pa, ca, hfa⟩ := hva.form
  obtain ⟨pb, cb, hfb⟩ := hvb.form
  obtain ⟨na, hna⟩ : ∃ n, n = a.length := ⟨_, rfl⟩
  obtain ⟨nb, hnb⟩ : ∃ n, n = b.length := ⟨_, rfl⟩
  rw [← hna] at hfa; rw [← hnb] at hfb
  subst hfa; subst hfb
  have HVA := hid hva; have HVB := hid hvb
  have HRA := hid (show KR pa w.heap.size a w from hva.gr 3 kc_len (by omega))
  have HRB := hid (show KR pb w.heap.size b w from hvb.gr 3 kc_len (by omega))
  have hca := hva.cap.2
  have hcb := hvb.cap.2
  unfold maxLen at hca hcb
  have hl2 : na + nb ≤ 10000 := by rw [List.length_append, ← hna, ← hnb] at hla; exact hla
  have HNA := hid hna; have HNB := hid hnb; have HCA := hid hca; have HCB := hid hcb
  clear hva hvb hla hna hnb hca hcb
  have HO1 := hid (fun W (h : Below w.heap.size w W) => rValid_any _ a W (HVA.out.ups h))
  have HO2 := hid (fun W (h : Below w.heap.size w W) => rValid_any _ b W (HVB.out.ups h))
  have HE0 := hid (show ¬ (S8.lst a ∧ S8.lst b) → S8.mge a b = 80 ∧ S8.mg a b = [] from fun h => ⟨if_neg h, if_neg h⟩)
  have HCO := hid rCompare_any
  by_cases ha : S8.lst a
  · rw [show decide (S8.lst a) = true from decide_eq_true ha] at HO1
    by_cases hb : S8.lst b
    · rw [show decide (S8.lst b) = true from decide_eq_true hb] at HO2
      have HE := hid (show S8.mge a b = 0 ∧ S8.mg a b = S8.mrg a b from ⟨if_pos ⟨ha, hb⟩, if_pos ⟨ha, hb⟩⟩)
      clear HE0 ha hb
      go_enter Try.func23, Try.ntmps23
      go_wp2_with fail
      refine (HO1.out _ (Below.refl _ _)).mono ?_
      rintro e w1 ⟨rfl, hb1⟩
      have HB1 := hid hb1
      clear hb1
      go_wp2_with fail
      refine (HO2.out _ HB1.out).mono ?_
      rintro e w2 ⟨rfl, hb2⟩
      have HB2 := hid (HB1.out.trans (hb2.mono HB1.out.size))
      clear hb2
      go_wp2_with fail
      go_loopw [6, 7, 8] (fun s t u wr => ∃ (i k : Nat) (pre : List St), i ≤ na ∧ k ≤ nb ∧ t = .int .i64 i ∧ u = .int .i64 k ∧ KO wr w.heap.size s pre ∧ Below w.heap.size w wr ∧ Hid (pre ++ S8.mrg (a.drop i) (b.drop k) = S8.mrg a b)) (fun s t u _ => na + nb - ((intOf t).toNat + (intOf u).toNat))
      case atStart => exact ⟨0, 0, [], by omega, by omega, rfl, rfl, go_nil _ _, HB2.out, hid (by simp)⟩
      case round =>
        obtain ⟨i, k, pre, hi, hk, rfl, rfl, hko, hbw, hpre⟩ := hrel
        have HPL := hid (show pre.length ≤ 10000 by
          have h1 := congrArg List.length hpre.out
          have h2 := S8.mrg_length a b
          have h3 := HLA.out
          rw [List.length_append] at h1 h3
          omega)
        obtain ⟨ps, cs, hfs⟩ := (GO.gs hko).form
        obtain ⟨ns, hns⟩ : ∃ n, n = pre.length := ⟨_, rfl⟩
        rw [← hns] at hfs
        subst hfs
        have HKO := hid hko; have HB := hid hbw
        have HT := hid (Below.refl wr.heap.size wr)
        have HG := hid (show Try.prog.eqGuardType Try.prog.depth 23 = false by kernel_rfl)
        clear hko hbw hns
        have hcai := HCA.out.1; have hcbi := HCB.out.1
        have FA : Hid (∀ x, a[i]? = some x → ∃ ba oa, pa = some ⟨ba, oa, none⟩ ∧ ∀ W, Below wr.heap.size wr W → At3 W ba (oa + i * 3) x) := hid (fun x hx => by
          obtain ⟨b', o', e, hl, h1⟩ := KR.at3 HRA.out hx
          have hl' := Nat.lt_of_lt_of_le hl HB.out.size
          have up : ∀ W, Below wr.heap.size wr W → Below w.heap.size w W := fun W hW => HB.out.trans (hW.mono HB.out.size)
          exact ⟨b', o', e, fun W hW => ⟨((up W hW).cell (p := ⟨b', o' + i * 3, none⟩) hl).trans h1.1, ((up W hW).cell (p := ⟨b', o' + i * 3 + 1, none⟩) hl).trans h1.2.1, ((up W hW).cell (p := ⟨b', o' + i * 3 + 2, none⟩) hl).trans h1.2.2⟩⟩)
        have FB : Hid (∀ x, b[k]? = some x → ∃ ba oa, pb = some ⟨ba, oa, none⟩ ∧ ∀ W, Below wr.heap.size wr W → At3 W ba (oa + k * 3) x) := hid (fun x hx => by
          obtain ⟨b', o', e, hl, h1⟩ := KR.at3 HRB.out hx
          have hl' := Nat.lt_of_lt_of_le hl HB.out.size
          have up : ∀ W, Below wr.heap.size wr W → Below w.heap.size w W := fun W hW => HB.out.trans (hW.mono HB.out.size)
          exact ⟨b', o', e, fun W hW => ⟨((up W hW).cell (p := ⟨b', o' + k * 3, none⟩) hl).trans h1.1, ((up W hW).cell (p := ⟨b', o' + k * 3 + 1, none⟩) hl).trans h1.2.1, ((up W hW).cell (p := ⟨b', o' + k * 3 + 2, none⟩) hl).trans h1.2.2⟩⟩)
        by_cases hia : i < na
        · obtain ⟨x, hx⟩ := get_lt (l := a) (i := i) (by rw [← HNA.out]; exact hia)
          obtain ⟨ba, oa, rfl, hax⟩ := FA.out x hx
          have HDA := hid (show a.drop i = x :: a.drop (i + 1) by
            obtain ⟨h1, h2⟩ := List.getElem?_eq_some_iff.1 hx
            rw [List.drop_eq_getElem_cons h1, h2])
          obtain ⟨x0, x1, x2⟩ := x
          have HAX := hid hax
          have HIA := hid hia; have HIL := hid hia
          clear hax hx
          by_cases hkb : k < nb
          · obtain ⟨y, hy⟩ := get_lt (l := b) (i := k) (by rw [← HNB.out]; exact hkb)
            obtain ⟨bb, ob, rfl, hay⟩ := FB.out y hy
            have HDB := hid (show b.drop k = y :: b.drop (k + 1) by
              obtain ⟨h1, h2⟩ := List.getElem?_eq_some_iff.1 hy
              rw [List.drop_eq_getElem_cons h1, h2])
            obtain ⟨y0, y1, y2⟩ := y
            have HAY := hid hay
            have HKB := hid hkb; have HKL := hid hkb
            have CC := hid (fun W => HCO.out (x0, x1, x2) (y0, y1, y2) W)
            clear hay hy FA FB
            rcases S8.lt_tri (x0, x1, x2) (y0, y1, y2) with hl | hl | hl
            · have HPR := hid (show (pre ++ [(x0, x1, x2)]) ++ S8.mrg (a.drop (i + 1)) (b.drop k) = S8.mrg a b by rw [← hpre.out, HDA.out, HDB.out, S8.mrg_gt hl, List.append_assoc]; rfl)
              rw [S8.cp_lt hl] at CC
              have HPE := hid (fun w => show _ = _ from st_eq (x0, x1, x2) (y0, y1, y2) w)
              rw [show decide ((x0, x1, x2) = (y0, y1, y2)) = false from decide_eq_false (S8.lt_ne hl)] at HPE
              clear hl
              clear hpre
              go_upto_region 6 with fail
              have HT := hid HT.out.drew
              refine wa_start (S := fun W => Below wr.heap.size wr W) (by kernel_rfl) HT.out ?_
              refine wa_tk 0 (some 27) (.int .i64 (k : Int)) rfl (by kernel_rfl) rfl rfl HT.out (fun w h0 => by go_simp) ?_
              try simp only [Act.put, List.setIfInBounds_toArray, List.set_cons_zero, List.set_cons_succ]
              refine wa_tk 1 (some 28) (.slice (some ⟨bb, ob, none⟩) nb cb) rfl (by kernel_rfl) rfl rfl HT.out (fun w h0 => by go_simp) ?_
              try simp only [Act.put, List.setIfInBounds_toArray, List.set_cons_zero, List.set_cons_succ]
              refine wa_tk 2 (some 29) (.int .i64 (nb : Int)) rfl (by kernel_rfl) rfl rfl HT.out (fun w h0 => by go_simp) ?_
              try simp only [Act.put, List.setIfInBounds_toArray, List.set_cons_zero, List.set_cons_succ]
              refine wa_tk 3 (some 30) (.bool false) rfl (by kernel_rfl) rfl rfl HT.out (fun w h0 => by have hkb := HKB.out; (go_simp) <;> omega) ?_
              try simp only [Act.put, List.setIfInBounds_toArray, List.set_cons_zero, List.set_cons_succ]
              refine wa_tk 4 (some 31) (.bool false) rfl (by kernel_rfl) rfl rfl HT.out (fun w h0 => by go_simp) ?_
              try simp only [Act.put, List.setIfInBounds_toArray, List.set_cons_zero, List.set_cons_succ]
              refine wa_tkg 5 (some 32) (.int .i64 (i : Int)) rfl (by kernel_rfl) rfl rfl HT.out (fun w h0 => by go_simp) ?_
              try simp only [Act.put, List.setIfInBounds_toArray, List.set_cons_zero, List.set_cons_succ]
              refine wa_tkg 6 (some 33) (.slice (some ⟨ba, oa, none⟩) na ca) rfl (by kernel_rfl) rfl rfl HT.out (fun w h0 => by go_simp) ?_
              try simp only [Act.put, List.setIfInBounds_toArray, List.set_cons_zero, List.set_cons_succ]
              refine wa_tkg 7 (some 34) (.int .i64 (na : Int)) rfl (by kernel_rfl) rfl rfl HT.out (fun w h0 => by go_simp) ?_
              try simp only [Act.put, List.setIfInBounds_toArray, List.set_cons_zero, List.set_cons_succ]
              refine wa_tkg 8 (some 35) (.bool true) rfl (by kernel_rfl) rfl rfl HT.out (fun w h0 => by have hia := HIA.out; (go_simp) <;> omega) ?_
              try simp only [Act.put, List.setIfInBounds_toArray, List.set_cons_zero, List.set_cons_succ]
              refine wa_tkg 9 (some 36) (.bool true) rfl (by kernel_rfl) rfl rfl HT.out (fun w h0 => by go_simp) ?_
              try simp only [Act.put, List.setIfInBounds_toArray, List.set_cons_zero, List.set_cons_succ]
              refine wa_tkg 10 (some 37) (.slice (some ⟨ba, oa, none⟩) na ca) rfl (by kernel_rfl) rfl rfl HT.out (fun w h0 => by go_simp) ?_
              try simp only [Act.put, List.setIfInBounds_toArray, List.set_cons_zero, List.set_cons_succ]
              refine wa_tkg 11 (some 38) (.int .i64 (i : Int)) rfl (by kernel_rfl) rfl rfl HT.out (fun w h0 => by go_simp) ?_
              try simp only [Act.put, List.setIfInBounds_toArray, List.set_cons_zero, List.set_cons_succ]
              refine wa_tkg 12 (some 39) (.pointer (some ⟨ba, oa + i * 3, none⟩)) rfl (by kernel_rfl) rfl rfl HT.out (fun w h0 => by have hia := HIA.out; have hil := HIL.out; go_simp) ?_
              try simp only [Act.put, List.setIfInBounds_toArray, List.set_cons_zero, List.set_cons_succ]
              refine wa_tkg 13 (some 40) (KV (x0, x1, x2)) rfl (by kernel_rfl) rfl rfl HT.out (fun w h0 => by obtain ⟨c0, c1, c2⟩ := HAX.out _ h0; go_simp) ?_
              try simp only [Act.put, List.setIfInBounds_toArray, List.set_cons_zero, List.set_cons_succ]
              refine wa_tkg 14 (some 41) (.slice (some ⟨bb, ob, none⟩) nb cb) rfl (by kernel_rfl) rfl rfl HT.out (fun w h0 => by go_simp) ?_
              try simp only [Act.put, List.setIfInBounds_toArray, List.set_cons_zero, List.set_cons_succ]
              refine wa_tkg 15 (some 42) (.int .i64 (k : Int)) rfl (by kernel_rfl) rfl rfl HT.out (fun w h0 => by go_simp) ?_
              try simp only [Act.put, List.setIfInBounds_toArray, List.set_cons_zero, List.set_cons_succ]
              refine wa_tkg 16 (some 43) (.pointer (some ⟨bb, ob + k * 3, none⟩)) rfl (by kernel_rfl) rfl rfl HT.out (fun w h0 => by have hkl := HKL.out; go_simp) ?_
              try simp only [Act.put, List.setIfInBounds_toArray, List.set_cons_zero, List.set_cons_succ]
              refine wa_tkg 17 (some 44) (KV (y0, y1, y2)) rfl (by kernel_rfl) rfl rfl HT.out (fun w h0 => by obtain ⟨c0, c1, c2⟩ := HAY.out _ h0; go_simp) ?_
              try simp only [Act.put, List.setIfInBounds_toArray, List.set_cons_zero, List.set_cons_succ]
              refine wa_branch [18] (by decide +kernel) rfl ?_
              refine ar_opg 18 rfl rfl (fun K hK => ?_) ar_nil
              unfold Oper.wp
              go_simp
              go_at_call 18
              refine (CC.out _).mono ?_
              rintro e wz ⟨rfl, hbz⟩
              have HT := hid (below_t HT.out hbz)
              clear hbz
              go_simp
              refine hK.out _ _ HT.out ?_
              clear hK K
              try simp only [Act.put, List.setIfInBounds_toArray, List.set_cons_zero, List.set_cons_succ]
              refine wa_tkg 19 (some 46) (.bool true) rfl (by kernel_rfl) rfl rfl HT.out (fun w h0 => by go_simp) ?_
              try simp only [Act.put, List.setIfInBounds_toArray, List.set_cons_zero, List.set_cons_succ]
              refine wa_tkg 20 (some 47) (.bool true) rfl (by kernel_rfl) rfl rfl HT.out (fun w h0 => by go_simp) ?_
              try simp only [Act.put, List.setIfInBounds_toArray, List.set_cons_zero, List.set_cons_succ]
              refine wa_tk 21 (some 48) (.bool true) rfl (by kernel_rfl) rfl rfl HT.out (fun w h0 => by go_simp) ?_
              try simp only [Act.put, List.setIfInBounds_toArray, List.set_cons_zero, List.set_cons_succ]
              refine wa_done (by decide +kernel) ?_
              go_upto_region 7 with fail
              have HT := hid HT.out.drew
              refine wa_start (S := fun W => Below wr.heap.size wr W) (by kernel_rfl) HT.out ?_
              refine wa_tk 0 (some 49) (.int .i64 (k : Int)) rfl (by kernel_rfl) rfl rfl HT.out (fun w h0 => by go_simp) ?_
              try simp only [Act.put, List.setIfInBounds_toArray, List.set_cons_zero, List.set_cons_succ]
              refine wa_tk 1 (some 50) (.slice (some ⟨bb, ob, none⟩) nb cb) rfl (by kernel_rfl) rfl rfl HT.out (fun w h0 => by go_simp) ?_
              try simp only [Act.put, List.setIfInBounds_toArray, List.set_cons_zero, List.set_cons_succ]
              refine wa_tk 2 (some 51) (.int .i64 (nb : Int)) rfl (by kernel_rfl) rfl rfl HT.out (fun w h0 => by go_simp) ?_
              try simp only [Act.put, List.setIfInBounds_toArray, List.set_cons_zero, List.set_cons_succ]
              refine wa_tk 3 (some 52) (.bool true) rfl (by kernel_rfl) rfl rfl HT.out (fun w h0 => by have hkb := HKB.out; (go_simp) <;> omega) ?_
              try simp only [Act.put, List.setIfInBounds_toArray, List.set_cons_zero, List.set_cons_succ]
              refine wa_tk 4 (some 53) (.bool true) rfl (by kernel_rfl) rfl rfl HT.out (fun w h0 => by go_simp) ?_
              try simp only [Act.put, List.setIfInBounds_toArray, List.set_cons_zero, List.set_cons_succ]
              refine wa_tkg 5 (some 54) (.slice (some ⟨ba, oa, none⟩) na ca) rfl (by kernel_rfl) rfl rfl HT.out (fun w h0 => by go_simp) ?_
              try simp only [Act.put, List.setIfInBounds_toArray, List.set_cons_zero, List.set_cons_succ]
              refine wa_tkg 6 (some 55) (.int .i64 (i : Int)) rfl (by kernel_rfl) rfl rfl HT.out (fun w h0 => by go_simp) ?_
              try simp only [Act.put, List.setIfInBounds_toArray, List.set_cons_zero, List.set_cons_succ]
              refine wa_tkg 7 (some 56) (.pointer (some ⟨ba, oa + i * 3, none⟩)) rfl (by kernel_rfl) rfl rfl HT.out (fun w h0 => by have hil := HIL.out; go_simp) ?_
              try simp only [Act.put, List.setIfInBounds_toArray, List.set_cons_zero, List.set_cons_succ]
              refine wa_tkg 8 (some 57) (KV (x0, x1, x2)) rfl (by kernel_rfl) rfl rfl HT.out (fun w h0 => by obtain ⟨c0, c1, c2⟩ := HAX.out _ h0; go_simp) ?_
              try simp only [Act.put, List.setIfInBounds_toArray, List.set_cons_zero, List.set_cons_succ]
              refine wa_tkg 9 (some 58) (.slice (some ⟨bb, ob, none⟩) nb cb) rfl (by kernel_rfl) rfl rfl HT.out (fun w h0 => by go_simp) ?_
              try simp only [Act.put, List.setIfInBounds_toArray, List.set_cons_zero, List.set_cons_succ]
              refine wa_tkg 10 (some 59) (.int .i64 (k : Int)) rfl (by kernel_rfl) rfl rfl HT.out (fun w h0 => by go_simp) ?_
              try simp only [Act.put, List.setIfInBounds_toArray, List.set_cons_zero, List.set_cons_succ]
              refine wa_tkg 11 (some 60) (.pointer (some ⟨bb, ob + k * 3, none⟩)) rfl (by kernel_rfl) rfl rfl HT.out (fun w h0 => by have hkl := HKL.out; go_simp) ?_
              try simp only [Act.put, List.setIfInBounds_toArray, List.set_cons_zero, List.set_cons_succ]
              refine wa_tkg 12 (some 61) (KV (y0, y1, y2)) rfl (by kernel_rfl) rfl rfl HT.out (fun w h0 => by obtain ⟨c0, c1, c2⟩ := HAY.out _ h0; go_simp) ?_
              try simp only [Act.put, List.setIfInBounds_toArray, List.set_cons_zero, List.set_cons_succ]
              refine wa_tkg 13 (some 62) (.bool false) rfl (by kernel_rfl) rfl rfl HT.out (fun w h0 => by have hpe := HPE.out; have hg60 := HG.out; go_simp) ?_
              try simp only [Act.put, List.setIfInBounds_toArray, List.set_cons_zero, List.set_cons_succ]
              refine wa_tk 14 (some 63) (.bool false) rfl (by kernel_rfl) rfl rfl HT.out (fun w h0 => by go_simp) ?_
              try simp only [Act.put, List.setIfInBounds_toArray, List.set_cons_zero, List.set_cons_succ]
              refine wa_done (by decide +kernel) ?_
              obtain ⟨g, cap, w9, happ, hko, hb9⟩ := app_key' (HKO.out.ups HT.out) (x0, x1, x2) (by have := HPL.out; omega) (Nat.le_trans HB.out.size HT.out.size)
              obtain ⟨c0, c1, c2⟩ := HAX.out _ HT.out
              have HAPP := hid happ; have HKO9 := hid hko; have HB9 := hid ((HB.out.trans (HT.out.mono HB.out.size)).trans hb9)
              clear happ hko hb9
              skip
              go_wp2_with (at_builtin; refine wpList_append_run rfl (.tmp 66) (.tmp 71) 33 33 ?_ _ _ _ ?_ ?_ HAPP.out ?_; exact rfl; exact rfl; exact rfl)
              go_roundw
              case rel => exact ⟨i + 1, k, _, by omega, by omega, by go_num, by go_num, HKO9.out, HB9.out, HPR⟩
              case measure => simp [intOf]; omega
            · have HPR := hid (show (pre ++ [(x0, x1, x2)]) ++ S8.mrg (a.drop (i + 1)) (b.drop (k + 1)) = S8.mrg a b by rw [← hpre.out, HDA.out, HDB.out, hl, S8.mrg_eq, List.append_assoc]; rfl)
              rw [S8.cp_zero_iff.2 hl] at CC
              have HPE := hid (fun w => show _ = _ from st_eq (x0, x1, x2) (y0, y1, y2) w)
              rw [show decide ((x0, x1, x2) = (y0, y1, y2)) = true from decide_eq_true hl] at HPE
              clear hl
              clear hpre
              go_upto_region 6 with fail
              have HT := hid HT.out.drew
              refine wa_start (S := fun W => Below wr.heap.size wr W) (by kernel_rfl) HT.out ?_
              refine wa_tk 0 (some 27) (.int .i64 (k : Int)) rfl (by kernel_rfl) rfl rfl HT.out (fun w h0 => by go_simp) ?_
              try simp only [Act.put, List.setIfInBounds_toArray, List.set_cons_zero, List.set_cons_succ]
              refine wa_tk 1 (some 28) (.slice (some ⟨bb, ob, none⟩) nb cb) rfl (by kernel_rfl) rfl rfl HT.out (fun w h0 => by go_simp) ?_
              try simp only [Act.put, List.setIfInBounds_toArray, List.set_cons_zero, List.set_cons_succ]
              refine wa_tk 2 (some 29) (.int .i64 (nb : Int)) rfl (by kernel_rfl) rfl rfl HT.out (fun w h0 => by go_simp) ?_
              try simp only [Act.put, List.setIfInBounds_toArray, List.set_cons_zero, List.set_cons_succ]
              refine wa_tk 3 (some 30) (.bool false) rfl (by kernel_rfl) rfl rfl HT.out (fun w h0 => by have hkb := HKB.out; (go_simp) <;> omega) ?_
              try simp only [Act.put, List.setIfInBounds_toArray, List.set_cons_zero, List.set_cons_succ]
              refine wa_tk 4 (some 31) (.bool false) rfl (by kernel_rfl) rfl rfl HT.out (fun w h0 => by go_simp) ?_
              try simp only [Act.put, List.setIfInBounds_toArray, List.set_cons_zero, List.set_cons_succ]
              refine wa_tkg 5 (some 32) (.int .i64 (i : Int)) rfl (by kernel_rfl) rfl rfl HT.out (fun w h0 => by go_simp) ?_
              try simp only [Act.put, List.setIfInBounds_toArray, List.set_cons_zero, List.set_cons_succ]
              refine wa_tkg 6 (some 33) (.slice (some ⟨ba, oa, none⟩) na ca) rfl (by kernel_rfl) rfl rfl HT.out (fun w h0 => by go_simp) ?_
              try simp only [Act.put, List.setIfInBounds_toArray, List.set_cons_zero, List.set_cons_succ]
              refine wa_tkg 7 (some 34) (.int .i64 (na : Int)) rfl (by kernel_rfl) rfl rfl HT.out (fun w h0 => by go_simp) ?_
              try simp only [Act.put, List.setIfInBounds_toArray, List.set_cons_zero, List.set_cons_succ]
              refine wa_tkg 8 (some 35) (.bool true) rfl (by kernel_rfl) rfl rfl HT.out (fun w h0 => by have hia := HIA.out; (go_simp) <;> omega) ?_
              try simp only [Act.put, List.setIfInBounds_toArray, List.set_cons_zero, List.set_cons_succ]
              refine wa_tkg 9 (some 36) (.bool true) rfl (by kernel_rfl) rfl rfl HT.out (fun w h0 => by go_simp) ?_
              try simp only [Act.put, List.setIfInBounds_toArray, List.set_cons_zero, List.set_cons_succ]
              refine wa_tkg 10 (some 37) (.slice (some ⟨ba, oa, none⟩) na ca) rfl (by kernel_rfl) rfl rfl HT.out (fun w h0 => by go_simp) ?_
              try simp only [Act.put, List.setIfInBounds_toArray, List.set_cons_zero, List.set_cons_succ]
              refine wa_tkg 11 (some 38) (.int .i64 (i : Int)) rfl (by kernel_rfl) rfl rfl HT.out (fun w h0 => by go_simp) ?_
              try simp only [Act.put, List.setIfInBounds_toArray, List.set_cons_zero, List.set_cons_succ]
              refine wa_tkg 12 (some 39) (.pointer (some ⟨ba, oa + i * 3, none⟩)) rfl (by kernel_rfl) rfl rfl HT.out (fun w h0 => by have hia := HIA.out; have hil := HIL.out; go_simp) ?_
              try simp only [Act.put, List.setIfInBounds_toArray, List.set_cons_zero, List.set_cons_succ]
              refine wa_tkg 13 (some 40) (KV (x0, x1, x2)) rfl (by kernel_rfl) rfl rfl HT.out (fun w h0 => by obtain ⟨c0, c1, c2⟩ := HAX.out _ h0; go_simp) ?_
              try simp only [Act.put, List.setIfInBounds_toArray, List.set_cons_zero, List.set_cons_succ]
              refine wa_tkg 14 (some 41) (.slice (some ⟨bb, ob, none⟩) nb cb) rfl (by kernel_rfl) rfl rfl HT.out (fun w h0 => by go_simp) ?_
              try simp only [Act.put, List.setIfInBounds_toArray, List.set_cons_zero, List.set_cons_succ]
              refine wa_tkg 15 (some 42) (.int .i64 (k : Int)) rfl (by kernel_rfl) rfl rfl HT.out (fun w h0 => by go_simp) ?_
              try simp only [Act.put, List.setIfInBounds_toArray, List.set_cons_zero, List.set_cons_succ]
              refine wa_tkg 16 (some 43) (.pointer (some ⟨bb, ob + k * 3, none⟩)) rfl (by kernel_rfl) rfl rfl HT.out (fun w h0 => by have hkl := HKL.out; go_simp) ?_
              try simp only [Act.put, List.setIfInBounds_toArray, List.set_cons_zero, List.set_cons_succ]
              refine wa_tkg 17 (some 44) (KV (y0, y1, y2)) rfl (by kernel_rfl) rfl rfl HT.out (fun w h0 => by obtain ⟨c0, c1, c2⟩ := HAY.out _ h0; go_simp) ?_
              try simp only [Act.put, List.setIfInBounds_toArray, List.set_cons_zero, List.set_cons_succ]
              refine wa_branch [18] (by decide +kernel) rfl ?_
              refine ar_opg 18 rfl rfl (fun K hK => ?_) ar_nil
              unfold Oper.wp
              go_simp
              go_at_call 18
              refine (CC.out _).mono ?_
              rintro e wz ⟨rfl, hbz⟩
              have HT := hid (below_t HT.out hbz)
              clear hbz
              go_simp
              refine hK.out _ _ HT.out ?_
              clear hK K
              try simp only [Act.put, List.setIfInBounds_toArray, List.set_cons_zero, List.set_cons_succ]
              refine wa_tkg 19 (some 46) (.bool true) rfl (by kernel_rfl) rfl rfl HT.out (fun w h0 => by go_simp) ?_
              try simp only [Act.put, List.setIfInBounds_toArray, List.set_cons_zero, List.set_cons_succ]
              refine wa_tkg 20 (some 47) (.bool true) rfl (by kernel_rfl) rfl rfl HT.out (fun w h0 => by go_simp) ?_
              try simp only [Act.put, List.setIfInBounds_toArray, List.set_cons_zero, List.set_cons_succ]
              refine wa_tk 21 (some 48) (.bool true) rfl (by kernel_rfl) rfl rfl HT.out (fun w h0 => by go_simp) ?_
              try simp only [Act.put, List.setIfInBounds_toArray, List.set_cons_zero, List.set_cons_succ]
              refine wa_done (by decide +kernel) ?_
              go_upto_region 7 with fail
              have HT := hid HT.out.drew
              refine wa_start (S := fun W => Below wr.heap.size wr W) (by kernel_rfl) HT.out ?_
              refine wa_tk 0 (some 49) (.int .i64 (k : Int)) rfl (by kernel_rfl) rfl rfl HT.out (fun w h0 => by go_simp) ?_
              try simp only [Act.put, List.setIfInBounds_toArray, List.set_cons_zero, List.set_cons_succ]
              refine wa_tk 1 (some 50) (.slice (some ⟨bb, ob, none⟩) nb cb) rfl (by kernel_rfl) rfl rfl HT.out (fun w h0 => by go_simp) ?_
              try simp only [Act.put, List.setIfInBounds_toArray, List.set_cons_zero, List.set_cons_succ]
              refine wa_tk 2 (some 51) (.int .i64 (nb : Int)) rfl (by kernel_rfl) rfl rfl HT.out (fun w h0 => by go_simp) ?_
              try simp only [Act.put, List.setIfInBounds_toArray, List.set_cons_zero, List.set_cons_succ]
              refine wa_tk 3 (some 52) (.bool true) rfl (by kernel_rfl) rfl rfl HT.out (fun w h0 => by have hkb := HKB.out; (go_simp) <;> omega) ?_
              try simp only [Act.put, List.setIfInBounds_toArray, List.set_cons_zero, List.set_cons_succ]
              refine wa_tk 4 (some 53) (.bool true) rfl (by kernel_rfl) rfl rfl HT.out (fun w h0 => by go_simp) ?_
              try simp only [Act.put, List.setIfInBounds_toArray, List.set_cons_zero, List.set_cons_succ]
              refine wa_tkg 5 (some 54) (.slice (some ⟨ba, oa, none⟩) na ca) rfl (by kernel_rfl) rfl rfl HT.out (fun w h0 => by go_simp) ?_
              try simp only [Act.put, List.setIfInBounds_toArray, List.set_cons_zero, List.set_cons_succ]
              refine wa_tkg 6 (some 55) (.int .i64 (i : Int)) rfl (by kernel_rfl) rfl rfl HT.out (fun w h0 => by go_simp) ?_
              try simp only [Act.put, List.setIfInBounds_toArray, List.set_cons_zero, List.set_cons_succ]
              refine wa_tkg 7 (some 56) (.pointer (some ⟨ba, oa + i * 3, none⟩)) rfl (by kernel_rfl) rfl rfl HT.out (fun w h0 => by have hil := HIL.out; go_simp) ?_
              try simp only [Act.put, List.setIfInBounds_toArray, List.set_cons_zero, List.set_cons_succ]
              refine wa_tkg 8 (some 57) (KV (x0, x1, x2)) rfl (by kernel_rfl) rfl rfl HT.out (fun w h0 => by obtain ⟨c0, c1, c2⟩ := HAX.out _ h0; go_simp) ?_
              try simp only [Act.put, List.setIfInBounds_toArray, List.set_cons_zero, List.set_cons_succ]
              refine wa_tkg 9 (some 58) (.slice (some ⟨bb, ob, none⟩) nb cb) rfl (by kernel_rfl) rfl rfl HT.out (fun w h0 => by go_simp) ?_
              try simp only [Act.put, List.setIfInBounds_toArray, List.set_cons_zero, List.set_cons_succ]
              refine wa_tkg 10 (some 59) (.int .i64 (k : Int)) rfl (by kernel_rfl) rfl rfl HT.out (fun w h0 => by go_simp) ?_
              try simp only [Act.put, List.setIfInBounds_toArray, List.set_cons_zero, List.set_cons_succ]
              refine wa_tkg 11 (some 60) (.pointer (some ⟨bb, ob + k * 3, none⟩)) rfl (by kernel_rfl) rfl rfl HT.out (fun w h0 => by have hkl := HKL.out; go_simp) ?_
              try simp only [Act.put, List.setIfInBounds_toArray, List.set_cons_zero, List.set_cons_succ]
              refine wa_tkg 12 (some 61) (KV (y0, y1, y2)) rfl (by kernel_rfl) rfl rfl HT.out (fun w h0 => by obtain ⟨c0, c1, c2⟩ := HAY.out _ h0; go_simp) ?_
              try simp only [Act.put, List.setIfInBounds_toArray, List.set_cons_zero, List.set_cons_succ]
              refine wa_tkg 13 (some 62) (.bool true) rfl (by kernel_rfl) rfl rfl HT.out (fun w h0 => by have hpe := HPE.out; have hg60 := HG.out; go_simp) ?_
              try simp only [Act.put, List.setIfInBounds_toArray, List.set_cons_zero, List.set_cons_succ]
              refine wa_tk 14 (some 63) (.bool true) rfl (by kernel_rfl) rfl rfl HT.out (fun w h0 => by go_simp) ?_
              try simp only [Act.put, List.setIfInBounds_toArray, List.set_cons_zero, List.set_cons_succ]
              refine wa_done (by decide +kernel) ?_
              obtain ⟨g, cap, w9, happ, hko, hb9⟩ := app_key' (HKO.out.ups HT.out) (x0, x1, x2) (by have := HPL.out; omega) (Nat.le_trans HB.out.size HT.out.size)
              obtain ⟨c0, c1, c2⟩ := HAX.out _ HT.out
              have HAPP := hid happ; have HKO9 := hid hko; have HB9 := hid ((HB.out.trans (HT.out.mono HB.out.size)).trans hb9)
              clear happ hko hb9
              skip
              go_wp2_with (at_builtin; refine wpList_append_run rfl (.tmp 66) (.tmp 71) 33 33 ?_ _ _ _ ?_ ?_ HAPP.out ?_; exact rfl; exact rfl; exact rfl)
              go_roundw
              case rel => exact ⟨i + 1, k + 1, _, by omega, by omega, by go_num, by go_num, HKO9.out, HB9.out, HPR⟩
              case measure => simp [intOf]; omega
            · have HPR := hid (show (pre ++ [(y0, y1, y2)]) ++ S8.mrg (a.drop i) (b.drop (k + 1)) = S8.mrg a b by rw [← hpre.out, HDA.out, HDB.out, S8.mrg_lt hl, List.append_assoc]; rfl)
              rw [S8.cp_gt hl] at CC
              clear hl
              clear hpre
              go_upto_region 6 with fail
              have HT := hid HT.out.drew
              refine wa_start (S := fun W => Below wr.heap.size wr W) (by kernel_rfl) HT.out ?_
              refine wa_tk 0 (some 27) (.int .i64 (k : Int)) rfl (by kernel_rfl) rfl rfl HT.out (fun w h0 => by go_simp) ?_
              try simp only [Act.put, List.setIfInBounds_toArray, List.set_cons_zero, List.set_cons_succ]
              refine wa_tk 1 (some 28) (.slice (some ⟨bb, ob, none⟩) nb cb) rfl (by kernel_rfl) rfl rfl HT.out (fun w h0 => by go_simp) ?_
              try simp only [Act.put, List.setIfInBounds_toArray, List.set_cons_zero, List.set_cons_succ]
              refine wa_tk 2 (some 29) (.int .i64 (nb : Int)) rfl (by kernel_rfl) rfl rfl HT.out (fun w h0 => by go_simp) ?_
              try simp only [Act.put, List.setIfInBounds_toArray, List.set_cons_zero, List.set_cons_succ]
              refine wa_tk 3 (some 30) (.bool false) rfl (by kernel_rfl) rfl rfl HT.out (fun w h0 => by have hkb := HKB.out; (go_simp) <;> omega) ?_
              try simp only [Act.put, List.setIfInBounds_toArray, List.set_cons_zero, List.set_cons_succ]
              refine wa_tk 4 (some 31) (.bool false) rfl (by kernel_rfl) rfl rfl HT.out (fun w h0 => by go_simp) ?_
              try simp only [Act.put, List.setIfInBounds_toArray, List.set_cons_zero, List.set_cons_succ]
              refine wa_tkg 5 (some 32) (.int .i64 (i : Int)) rfl (by kernel_rfl) rfl rfl HT.out (fun w h0 => by go_simp) ?_
              try simp only [Act.put, List.setIfInBounds_toArray, List.set_cons_zero, List.set_cons_succ]
              refine wa_tkg 6 (some 33) (.slice (some ⟨ba, oa, none⟩) na ca) rfl (by kernel_rfl) rfl rfl HT.out (fun w h0 => by go_simp) ?_
              try simp only [Act.put, List.setIfInBounds_toArray, List.set_cons_zero, List.set_cons_succ]
              refine wa_tkg 7 (some 34) (.int .i64 (na : Int)) rfl (by kernel_rfl) rfl rfl HT.out (fun w h0 => by go_simp) ?_
              try simp only [Act.put, List.setIfInBounds_toArray, List.set_cons_zero, List.set_cons_succ]
              refine wa_tkg 8 (some 35) (.bool true) rfl (by kernel_rfl) rfl rfl HT.out (fun w h0 => by have hia := HIA.out; (go_simp) <;> omega) ?_
              try simp only [Act.put, List.setIfInBounds_toArray, List.set_cons_zero, List.set_cons_succ]
              refine wa_tkg 9 (some 36) (.bool true) rfl (by kernel_rfl) rfl rfl HT.out (fun w h0 => by go_simp) ?_
              try simp only [Act.put, List.setIfInBounds_toArray, List.set_cons_zero, List.set_cons_succ]
              refine wa_tkg 10 (some 37) (.slice (some ⟨ba, oa, none⟩) na ca) rfl (by kernel_rfl) rfl rfl HT.out (fun w h0 => by go_simp) ?_
              try simp only [Act.put, List.setIfInBounds_toArray, List.set_cons_zero, List.set_cons_succ]
              refine wa_tkg 11 (some 38) (.int .i64 (i : Int)) rfl (by kernel_rfl) rfl rfl HT.out (fun w h0 => by go_simp) ?_
              try simp only [Act.put, List.setIfInBounds_toArray, List.set_cons_zero, List.set_cons_succ]
              refine wa_tkg 12 (some 39) (.pointer (some ⟨ba, oa + i * 3, none⟩)) rfl (by kernel_rfl) rfl rfl HT.out (fun w h0 => by have hia := HIA.out; have hil := HIL.out; go_simp) ?_
              try simp only [Act.put, List.setIfInBounds_toArray, List.set_cons_zero, List.set_cons_succ]
              refine wa_tkg 13 (some 40) (KV (x0, x1, x2)) rfl (by kernel_rfl) rfl rfl HT.out (fun w h0 => by obtain ⟨c0, c1, c2⟩ := HAX.out _ h0; go_simp) ?_
              try simp only [Act.put, List.setIfInBounds_toArray, List.set_cons_zero, List.set_cons_succ]
              refine wa_tkg 14 (some 41) (.slice (some ⟨bb, ob, none⟩) nb cb) rfl (by kernel_rfl) rfl rfl HT.out (fun w h0 => by go_simp) ?_
              try simp only [Act.put, List.setIfInBounds_toArray, List.set_cons_zero, List.set_cons_succ]
              refine wa_tkg 15 (some 42) (.int .i64 (k : Int)) rfl (by kernel_rfl) rfl rfl HT.out (fun w h0 => by go_simp) ?_
              try simp only [Act.put, List.setIfInBounds_toArray, List.set_cons_zero, List.set_cons_succ]
              refine wa_tkg 16 (some 43) (.pointer (some ⟨bb, ob + k * 3, none⟩)) rfl (by kernel_rfl) rfl rfl HT.out (fun w h0 => by have hkl := HKL.out; go_simp) ?_
              try simp only [Act.put, List.setIfInBounds_toArray, List.set_cons_zero, List.set_cons_succ]
              refine wa_tkg 17 (some 44) (KV (y0, y1, y2)) rfl (by kernel_rfl) rfl rfl HT.out (fun w h0 => by obtain ⟨c0, c1, c2⟩ := HAY.out _ h0; go_simp) ?_
              try simp only [Act.put, List.setIfInBounds_toArray, List.set_cons_zero, List.set_cons_succ]
              refine wa_branch [18] (by decide +kernel) rfl ?_
              refine ar_opg 18 rfl rfl (fun K hK => ?_) ar_nil
              unfold Oper.wp
              go_simp
              go_at_call 18
              refine (CC.out _).mono ?_
              rintro e wz ⟨rfl, hbz⟩
              have HT := hid (below_t HT.out hbz)
              clear hbz
              go_simp
              refine hK.out _ _ HT.out ?_
              clear hK K
              try simp only [Act.put, List.setIfInBounds_toArray, List.set_cons_zero, List.set_cons_succ]
              refine wa_tkg 19 (some 46) (.bool false) rfl (by kernel_rfl) rfl rfl HT.out (fun w h0 => by go_simp) ?_
              try simp only [Act.put, List.setIfInBounds_toArray, List.set_cons_zero, List.set_cons_succ]
              refine wa_tkg 20 (some 47) (.bool false) rfl (by kernel_rfl) rfl rfl HT.out (fun w h0 => by go_simp) ?_
              try simp only [Act.put, List.setIfInBounds_toArray, List.set_cons_zero, List.set_cons_succ]
              refine wa_tk 21 (some 48) (.bool false) rfl (by kernel_rfl) rfl rfl HT.out (fun w h0 => by go_simp) ?_
              try simp only [Act.put, List.setIfInBounds_toArray, List.set_cons_zero, List.set_cons_succ]
              refine wa_done (by decide +kernel) ?_
              obtain ⟨g, cap, w9, happ, hko, hb9⟩ := app_key' (HKO.out.ups HT.out) (y0, y1, y2) (by have := HPL.out; omega) (Nat.le_trans HB.out.size HT.out.size)
              obtain ⟨c0, c1, c2⟩ := HAY.out _ HT.out
              have HAPP := hid happ; have HKO9 := hid hko; have HB9 := hid ((HB.out.trans (HT.out.mono HB.out.size)).trans hb9)
              clear happ hko hb9
              skip
              go_wp2_with (at_builtin; refine wpList_append_run rfl (.tmp 75) (.tmp 80) 33 33 ?_ _ _ _ ?_ ?_ HAPP.out ?_; exact rfl; exact rfl; exact rfl)
              go_roundw
              case rel => exact ⟨i, k + 1, _, by omega, by omega, by go_num, by go_num, HKO9.out, HB9.out, HPR⟩
              case measure => simp [intOf]; omega
          · have hkn : k = nb := by omega
            have HKB := hid hkn
            have HDB0 := hid (show b.drop k = [] by rw [List.drop_eq_nil_iff]; have := HNB.out; omega)
            clear FA FB
            have HPR := hid (show (pre ++ [(x0, x1, x2)]) ++ S8.mrg (a.drop (i + 1)) (b.drop k) = S8.mrg a b by rw [← hpre.out, HDA.out, HDB0.out, S8.mrg_nil_r, S8.mrg_nil_r, List.append_assoc]; rfl)
            clear hpre
            go_upto_region 6 with fail
            have HT := hid HT.out.drew
            refine wa_start (S := fun W => Below wr.heap.size wr W) (by kernel_rfl) HT.out ?_
            refine wa_tk 0 (some 27) (.int .i64 (k : Int)) rfl (by kernel_rfl) rfl rfl HT.out (fun w h0 => by go_simp) ?_
            try simp only [Act.put, List.setIfInBounds_toArray, List.set_cons_zero, List.set_cons_succ]
            refine wa_tk 1 (some 28) (.slice pb nb cb) rfl (by kernel_rfl) rfl rfl HT.out (fun w h0 => by go_simp) ?_
            try simp only [Act.put, List.setIfInBounds_toArray, List.set_cons_zero, List.set_cons_succ]
            refine wa_tk 2 (some 29) (.int .i64 (nb : Int)) rfl (by kernel_rfl) rfl rfl HT.out (fun w h0 => by go_simp) ?_
            try simp only [Act.put, List.setIfInBounds_toArray, List.set_cons_zero, List.set_cons_succ]
            refine wa_tk 3 (some 30) (.bool true) rfl (by kernel_rfl) rfl rfl HT.out (fun w h0 => by have hkb := HKB.out; (go_simp) <;> omega) ?_
            try simp only [Act.put, List.setIfInBounds_toArray, List.set_cons_zero, List.set_cons_succ]
            refine wa_tk 4 (some 31) (.bool true) rfl (by kernel_rfl) rfl rfl HT.out (fun w h0 => by go_simp) ?_
            try simp only [Act.put, List.setIfInBounds_toArray, List.set_cons_zero, List.set_cons_succ]
            refine wa_skg 5 (some 32) rfl (by kernel_rfl) rfl rfl HT.out ?_
            try simp only [Act.put, List.setIfInBounds_toArray, List.set_cons_zero, List.set_cons_succ]
            refine wa_skg 6 (some 33) rfl (by kernel_rfl) rfl rfl HT.out ?_
            try simp only [Act.put, List.setIfInBounds_toArray, List.set_cons_zero, List.set_cons_succ]
            refine wa_skg 7 (some 34) rfl (by kernel_rfl) rfl rfl HT.out ?_
            try simp only [Act.put, List.setIfInBounds_toArray, List.set_cons_zero, List.set_cons_succ]
            refine wa_skg 8 (some 35) rfl (by kernel_rfl) rfl rfl HT.out ?_
            try simp only [Act.put, List.setIfInBounds_toArray, List.set_cons_zero, List.set_cons_succ]
            refine wa_skg 9 (some 36) rfl (by kernel_rfl) rfl rfl HT.out ?_
            try simp only [Act.put, List.setIfInBounds_toArray, List.set_cons_zero, List.set_cons_succ]
            refine wa_skg 10 (some 37) rfl (by kernel_rfl) rfl rfl HT.out ?_
            try simp only [Act.put, List.setIfInBounds_toArray, List.set_cons_zero, List.set_cons_succ]
            refine wa_skg 11 (some 38) rfl (by kernel_rfl) rfl rfl HT.out ?_
            try simp only [Act.put, List.setIfInBounds_toArray, List.set_cons_zero, List.set_cons_succ]
            refine wa_skg 12 (some 39) rfl (by kernel_rfl) rfl rfl HT.out ?_
            try simp only [Act.put, List.setIfInBounds_toArray, List.set_cons_zero, List.set_cons_succ]
            refine wa_skg 13 (some 40) rfl (by kernel_rfl) rfl rfl HT.out ?_
            try simp only [Act.put, List.setIfInBounds_toArray, List.set_cons_zero, List.set_cons_succ]
            refine wa_skg 14 (some 41) rfl (by kernel_rfl) rfl rfl HT.out ?_
            try simp only [Act.put, List.setIfInBounds_toArray, List.set_cons_zero, List.set_cons_succ]
            refine wa_skg 15 (some 42) rfl (by kernel_rfl) rfl rfl HT.out ?_
            try simp only [Act.put, List.setIfInBounds_toArray, List.set_cons_zero, List.set_cons_succ]
            refine wa_skg 16 (some 43) rfl (by kernel_rfl) rfl rfl HT.out ?_
            try simp only [Act.put, List.setIfInBounds_toArray, List.set_cons_zero, List.set_cons_succ]
            refine wa_skg 17 (some 44) rfl (by kernel_rfl) rfl rfl HT.out ?_
            try simp only [Act.put, List.setIfInBounds_toArray, List.set_cons_zero, List.set_cons_succ]
            refine wa_skg 18 (some 45) rfl (by kernel_rfl) rfl rfl HT.out ?_
            try simp only [Act.put, List.setIfInBounds_toArray, List.set_cons_zero, List.set_cons_succ]
            refine wa_skg 19 (some 46) rfl (by kernel_rfl) rfl rfl HT.out ?_
            try simp only [Act.put, List.setIfInBounds_toArray, List.set_cons_zero, List.set_cons_succ]
            refine wa_skg 20 (some 47) rfl (by kernel_rfl) rfl rfl HT.out ?_
            try simp only [Act.put, List.setIfInBounds_toArray, List.set_cons_zero, List.set_cons_succ]
            refine wa_tk 21 (some 48) (.bool true) rfl (by kernel_rfl) rfl rfl HT.out (fun w h0 => by go_simp) ?_
            try simp only [Act.put, List.setIfInBounds_toArray, List.set_cons_zero, List.set_cons_succ]
            refine wa_done (by decide +kernel) ?_
            go_upto_region 7 with fail
            have HT := hid HT.out.drew
            refine wa_start (S := fun W => Below wr.heap.size wr W) (by kernel_rfl) HT.out ?_
            refine wa_tk 0 (some 49) (.int .i64 (k : Int)) rfl (by kernel_rfl) rfl rfl HT.out (fun w h0 => by go_simp) ?_
            try simp only [Act.put, List.setIfInBounds_toArray, List.set_cons_zero, List.set_cons_succ]
            refine wa_tk 1 (some 50) (.slice pb nb cb) rfl (by kernel_rfl) rfl rfl HT.out (fun w h0 => by go_simp) ?_
            try simp only [Act.put, List.setIfInBounds_toArray, List.set_cons_zero, List.set_cons_succ]
            refine wa_tk 2 (some 51) (.int .i64 (nb : Int)) rfl (by kernel_rfl) rfl rfl HT.out (fun w h0 => by go_simp) ?_
            try simp only [Act.put, List.setIfInBounds_toArray, List.set_cons_zero, List.set_cons_succ]
            refine wa_tk 3 (some 52) (.bool false) rfl (by kernel_rfl) rfl rfl HT.out (fun w h0 => by have hkb := HKB.out; (go_simp) <;> omega) ?_
            try simp only [Act.put, List.setIfInBounds_toArray, List.set_cons_zero, List.set_cons_succ]
            refine wa_tk 4 (some 53) (.bool false) rfl (by kernel_rfl) rfl rfl HT.out (fun w h0 => by go_simp) ?_
            try simp only [Act.put, List.setIfInBounds_toArray, List.set_cons_zero, List.set_cons_succ]
            refine wa_skg 5 (some 54) rfl (by kernel_rfl) rfl rfl HT.out ?_
            try simp only [Act.put, List.setIfInBounds_toArray, List.set_cons_zero, List.set_cons_succ]
            refine wa_skg 6 (some 55) rfl (by kernel_rfl) rfl rfl HT.out ?_
            try simp only [Act.put, List.setIfInBounds_toArray, List.set_cons_zero, List.set_cons_succ]
            refine wa_skg 7 (some 56) rfl (by kernel_rfl) rfl rfl HT.out ?_
            try simp only [Act.put, List.setIfInBounds_toArray, List.set_cons_zero, List.set_cons_succ]
            refine wa_skg 8 (some 57) rfl (by kernel_rfl) rfl rfl HT.out ?_
            try simp only [Act.put, List.setIfInBounds_toArray, List.set_cons_zero, List.set_cons_succ]
            refine wa_skg 9 (some 58) rfl (by kernel_rfl) rfl rfl HT.out ?_
            try simp only [Act.put, List.setIfInBounds_toArray, List.set_cons_zero, List.set_cons_succ]
            refine wa_skg 10 (some 59) rfl (by kernel_rfl) rfl rfl HT.out ?_
            try simp only [Act.put, List.setIfInBounds_toArray, List.set_cons_zero, List.set_cons_succ]
            refine wa_skg 11 (some 60) rfl (by kernel_rfl) rfl rfl HT.out ?_
            try simp only [Act.put, List.setIfInBounds_toArray, List.set_cons_zero, List.set_cons_succ]
            refine wa_skg 12 (some 61) rfl (by kernel_rfl) rfl rfl HT.out ?_
            try simp only [Act.put, List.setIfInBounds_toArray, List.set_cons_zero, List.set_cons_succ]
            refine wa_skg 13 (some 62) rfl (by kernel_rfl) rfl rfl HT.out ?_
            try simp only [Act.put, List.setIfInBounds_toArray, List.set_cons_zero, List.set_cons_succ]
            refine wa_tk 14 (some 63) (.bool false) rfl (by kernel_rfl) rfl rfl HT.out (fun w h0 => by go_simp) ?_
            try simp only [Act.put, List.setIfInBounds_toArray, List.set_cons_zero, List.set_cons_succ]
            refine wa_done (by decide +kernel) ?_
            obtain ⟨g, cap, w9, happ, hko, hb9⟩ := app_key' (HKO.out.ups HT.out) (x0, x1, x2) (by have := HPL.out; omega) (Nat.le_trans HB.out.size HT.out.size)
            obtain ⟨c0, c1, c2⟩ := HAX.out _ HT.out
            have HAPP := hid happ; have HKO9 := hid hko; have HB9 := hid ((HB.out.trans (HT.out.mono HB.out.size)).trans hb9)
            clear happ hko hb9
            skip
            go_wp2_with (at_builtin; refine wpList_append_run rfl (.tmp 66) (.tmp 71) 33 33 ?_ _ _ _ ?_ ?_ HAPP.out ?_; exact rfl; exact rfl; exact rfl)
            go_roundw
            case rel => exact ⟨i + 1, k, _, by omega, by omega, by go_num, by go_num, HKO9.out, HB9.out, HPR⟩
            case measure => simp [intOf]; omega
        · by_cases hkb : k < nb
          · obtain ⟨y, hy⟩ := get_lt (l := b) (i := k) (by rw [← HNB.out]; exact hkb)
            obtain ⟨bb, ob, rfl, hay⟩ := FB.out y hy
            have HDB := hid (show b.drop k = y :: b.drop (k + 1) by
              obtain ⟨h1, h2⟩ := List.getElem?_eq_some_iff.1 hy
              rw [List.drop_eq_getElem_cons h1, h2])
            have HDA0 := hid (show a.drop i = [] by rw [List.drop_eq_nil_iff]; have := HNA.out; omega)
            obtain ⟨y0, y1, y2⟩ := y
            have HAY := hid hay
            have HKB := hid hkb; have HKL := hid hkb
            have HIA := hid (show i = na by omega)
            clear hay hy FA FB
            have HPR := hid (show (pre ++ [(y0, y1, y2)]) ++ S8.mrg (a.drop i) (b.drop (k + 1)) = S8.mrg a b by rw [← hpre.out, HDB.out, HDA0.out, S8.mrg_nil_l, S8.mrg_nil_l, List.append_assoc]; rfl)
            clear hpre
            go_upto_region 6 with fail
            have HT := hid HT.out.drew
            refine wa_start (S := fun W => Below wr.heap.size wr W) (by kernel_rfl) HT.out ?_
            refine wa_tk 0 (some 27) (.int .i64 (k : Int)) rfl (by kernel_rfl) rfl rfl HT.out (fun w h0 => by go_simp) ?_
            try simp only [Act.put, List.setIfInBounds_toArray, List.set_cons_zero, List.set_cons_succ]
            refine wa_tk 1 (some 28) (.slice (some ⟨bb, ob, none⟩) nb cb) rfl (by kernel_rfl) rfl rfl HT.out (fun w h0 => by go_simp) ?_
            try simp only [Act.put, List.setIfInBounds_toArray, List.set_cons_zero, List.set_cons_succ]
            refine wa_tk 2 (some 29) (.int .i64 (nb : Int)) rfl (by kernel_rfl) rfl rfl HT.out (fun w h0 => by go_simp) ?_
            try simp only [Act.put, List.setIfInBounds_toArray, List.set_cons_zero, List.set_cons_succ]
            refine wa_tk 3 (some 30) (.bool false) rfl (by kernel_rfl) rfl rfl HT.out (fun w h0 => by have hkb := HKB.out; (go_simp) <;> omega) ?_
            try simp only [Act.put, List.setIfInBounds_toArray, List.set_cons_zero, List.set_cons_succ]
            refine wa_tk 4 (some 31) (.bool false) rfl (by kernel_rfl) rfl rfl HT.out (fun w h0 => by go_simp) ?_
            try simp only [Act.put, List.setIfInBounds_toArray, List.set_cons_zero, List.set_cons_succ]
            refine wa_tkg 5 (some 32) (.int .i64 (i : Int)) rfl (by kernel_rfl) rfl rfl HT.out (fun w h0 => by go_simp) ?_
            try simp only [Act.put, List.setIfInBounds_toArray, List.set_cons_zero, List.set_cons_succ]
            refine wa_tkg 6 (some 33) (.slice pa na ca) rfl (by kernel_rfl) rfl rfl HT.out (fun w h0 => by go_simp) ?_
            try simp only [Act.put, List.setIfInBounds_toArray, List.set_cons_zero, List.set_cons_succ]
            refine wa_tkg 7 (some 34) (.int .i64 (na : Int)) rfl (by kernel_rfl) rfl rfl HT.out (fun w h0 => by go_simp) ?_
            try simp only [Act.put, List.setIfInBounds_toArray, List.set_cons_zero, List.set_cons_succ]
            refine wa_tkg 8 (some 35) (.bool false) rfl (by kernel_rfl) rfl rfl HT.out (fun w h0 => by have hia := HIA.out; (go_simp) <;> omega) ?_
            try simp only [Act.put, List.setIfInBounds_toArray, List.set_cons_zero, List.set_cons_succ]
            refine wa_tkg 9 (some 36) (.bool false) rfl (by kernel_rfl) rfl rfl HT.out (fun w h0 => by go_simp) ?_
            try simp only [Act.put, List.setIfInBounds_toArray, List.set_cons_zero, List.set_cons_succ]
            refine wa_skg 10 (some 37) rfl (by kernel_rfl) rfl rfl HT.out ?_
            try simp only [Act.put, List.setIfInBounds_toArray, List.set_cons_zero, List.set_cons_succ]
            refine wa_skg 11 (some 38) rfl (by kernel_rfl) rfl rfl HT.out ?_
            try simp only [Act.put, List.setIfInBounds_toArray, List.set_cons_zero, List.set_cons_succ]
            refine wa_skg 12 (some 39) rfl (by kernel_rfl) rfl rfl HT.out ?_
            try simp only [Act.put, List.setIfInBounds_toArray, List.set_cons_zero, List.set_cons_succ]
            refine wa_skg 13 (some 40) rfl (by kernel_rfl) rfl rfl HT.out ?_
            try simp only [Act.put, List.setIfInBounds_toArray, List.set_cons_zero, List.set_cons_succ]
            refine wa_skg 14 (some 41) rfl (by kernel_rfl) rfl rfl HT.out ?_
            try simp only [Act.put, List.setIfInBounds_toArray, List.set_cons_zero, List.set_cons_succ]
            refine wa_skg 15 (some 42) rfl (by kernel_rfl) rfl rfl HT.out ?_
            try simp only [Act.put, List.setIfInBounds_toArray, List.set_cons_zero, List.set_cons_succ]
            refine wa_skg 16 (some 43) rfl (by kernel_rfl) rfl rfl HT.out ?_
            try simp only [Act.put, List.setIfInBounds_toArray, List.set_cons_zero, List.set_cons_succ]
            refine wa_skg 17 (some 44) rfl (by kernel_rfl) rfl rfl HT.out ?_
            try simp only [Act.put, List.setIfInBounds_toArray, List.set_cons_zero, List.set_cons_succ]
            refine wa_skg 18 (some 45) rfl (by kernel_rfl) rfl rfl HT.out ?_
            try simp only [Act.put, List.setIfInBounds_toArray, List.set_cons_zero, List.set_cons_succ]
            refine wa_skg 19 (some 46) rfl (by kernel_rfl) rfl rfl HT.out ?_
            try simp only [Act.put, List.setIfInBounds_toArray, List.set_cons_zero, List.set_cons_succ]
            refine wa_tkg 20 (some 47) (.bool false) rfl (by kernel_rfl) rfl rfl HT.out (fun w h0 => by go_simp) ?_
            try simp only [Act.put, List.setIfInBounds_toArray, List.set_cons_zero, List.set_cons_succ]
            refine wa_tk 21 (some 48) (.bool false) rfl (by kernel_rfl) rfl rfl HT.out (fun w h0 => by go_simp) ?_
            try simp only [Act.put, List.setIfInBounds_toArray, List.set_cons_zero, List.set_cons_succ]
            refine wa_done (by decide +kernel) ?_
            obtain ⟨g, cap, w9, happ, hko, hb9⟩ := app_key' (HKO.out.ups HT.out) (y0, y1, y2) (by have := HPL.out; omega) (Nat.le_trans HB.out.size HT.out.size)
            obtain ⟨c0, c1, c2⟩ := HAY.out _ HT.out
            have HAPP := hid happ; have HKO9 := hid hko; have HB9 := hid ((HB.out.trans (HT.out.mono HB.out.size)).trans hb9)
            clear happ hko hb9
            skip
            go_wp2_with (at_builtin; refine wpList_append_run rfl (.tmp 75) (.tmp 80) 33 33 ?_ _ _ _ ?_ ?_ HAPP.out ?_; exact rfl; exact rfl; exact rfl)
            go_roundw
            case rel => exact ⟨i, k + 1, _, by omega, by omega, by go_num, by go_num, HKO9.out, HB9.out, HPR⟩
            case measure => simp [intOf]; omega
          · have hpe : pre = S8.mrg a b := by
              have h := hpre.out
              rw [show a.drop i = [] by rw [List.drop_eq_nil_iff]; have := HNA.out; omega, show b.drop k = [] by rw [List.drop_eq_nil_iff]; have := HNB.out; omega, S8.mrg_nil_l, List.append_nil] at h
              exact h
            have HPE := hid hpe
            clear hpe hpre FA FB
            go_wp2
            exact bodyPost_ret (v := .tuple #[.slice ps ns cs, .int .i64 0]) (by simp [results, Try.results23, go_sem]) rfl ⟨⟨_, by rw [HE.out.1], by rw [HE.out.2, ← HPE.out]; exact HKO.out.gs⟩, HB.out⟩
    · rw [show decide (S8.lst b) = false from decide_eq_false hb] at HO2
      obtain ⟨e1, e2⟩ := HE0.out (fun h => hb h.2)
      rw [e1, e2]
      clear HE0 ha hb e1 e2
      go_enter Try.func23, Try.ntmps23
      go_wp2_with fail
      refine (HO1.out _ (Below.refl _ _)).mono ?_
      rintro e w1 ⟨rfl, hb1⟩
      have HB1 := hid hb1
      clear hb1
      go_wp2_with fail
      refine (HO2.out _ HB1.out).mono ?_
      rintro e w2 ⟨rfl, hb2⟩
      have HB2 := hid (HB1.out.trans (hb2.mono HB1.out.size))
      clear hb2
      go_wp2
      exact bodyPost_ret (v := .tuple #[.slice none 0 0, .int .i64 80]) (by simp [results, Try.results23, go_sem]) rfl ⟨⟨_, rfl, .inl ⟨rfl, rfl⟩⟩, HB2.out⟩
  · rw [show decide (S8.lst a) = false from decide_eq_false ha] at HO1
    obtain ⟨e1, e2⟩ := HE0.out (fun h => ha h.1)
    rw [e1, e2]
    clear HE0 ha e1 e2
    go_enter Try.func23, Try.ntmps23
    go_wp2_with fail
    refine (HO1.out _ (Below.refl _ _)).mono ?_
    rintro e w1 ⟨rfl, hb1⟩
    have HB1 := hid hb1
    clear hb1
    go_wp2
    exact bodyPost_ret (v := .tuple #[.slice none 0 0, .int .i64 80]) (by simp [results, Try.results23, go_sem]) rfl ⟨⟨_, rfl, .inl ⟨rfl, rfl⟩⟩, HB1.out⟩
end Go.Proofs.Ytlkcnnamnjnmbaa

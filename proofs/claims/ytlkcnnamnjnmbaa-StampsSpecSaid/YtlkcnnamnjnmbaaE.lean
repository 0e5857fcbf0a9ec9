/- Contract: ordered. -/
import Derived.Test.YtlkcnnamnjnmbaaD4
import Derived.Test.YtlkcnnamnjnmbaaBk
namespace Go.Proofs.Ytlkcnnamnjnmbaa
open Go.RowKit Go
set_option linter.unusedVariables false
set_option linter.unusedSimpArgs false
set_option maxRecDepth 100000 in
set_option maxHeartbeats 8000000 in
theorem ordered_any (v : Value) (l : List St) (w : World) (hv : KS w v l) : Calls Try.prog 29 #[v] w fun e w' => e = .returned (.bool (decide (S8.lst l))) ∧ Below w.heap.size w w' := by
  obtain ⟨p, cap, rfl⟩ := hv.form
  have hr : KR p w.heap.size l w := hv.gr 3 kc_len (by omega)
  obtain ⟨_, hcp1, hcp2⟩ := hv.cap
  unfold maxLen at hcp2
  obtain ⟨n, hn⟩ : ∃ n, n = l.length := ⟨_, rfl⟩
  rw [← hn] at hcp1 ⊢
  have hm : n ≤ 9223372036854775807 := by omega
  have HR := hid hr; have HN := hid hn; have HCP := hid (And.intro hcp1 hcp2)
  clear hr hv hn hcp1 hcp2
  have CA := hid Check_any
  have OA := hid Compare_any
  go_enter Try.func29, Try.ntmps29
  go_wp2
  go_loopw [7] (fun i wr => ∃ k : Nat, k ≤ n ∧ i = .int .i64 k ∧ Below w.heap.size w wr ∧ Hid (S8.lst (l.take k))) (fun i _ => n - (intOf i).toNat)
  case atStart => exact ⟨0, by omega, rfl, Below.refl _ _, hid S8.lst_nil⟩
  case round =>
    obtain ⟨k, hk, rfl, hb, hall⟩ := hrel
    have HB := hid hb
    by_cases hlt : k < n
    · obtain ⟨s, hi⟩ := get_lt (l := l) (i := k) (by rw [← HN.out]; exact hlt)
      obtain ⟨b, o, rfl, hab, c0, c1, c2⟩ := KR.at3 (HR.out.up hb) hi
      have CC := hid (fun W => CA.out s W)
      have HX := hid (chk_eq s)
      have HS := hid (S8.lst_snoc hi)
      have HP0 := hid (show 0 < k → ∃ p, l[k - 1]? = some p from fun h => get_lt (by have := HN.out; omega))
      have HNX := hid (show ¬ S8.lst (l.take (k + 1)) → decide (S8.lst l) = false from fun h => decide_eq_false (fun h2 => h (S8.lst_take h2 _)))
      obtain ⟨s0, s1, s2⟩ := s
      simp only at c0 c1 c2
      obtain ⟨z0, hz0⟩ : ∃ z, z = S8.chk (s0, s1, s2) := ⟨_, rfl⟩
      rw [← hz0] at CC HX
      have OC := hid (fun W p => OA.out p (s0, s1, s2) W)
      clear hz0 hi hb
      go_upto_region 4 with fail
      obtain ⟨Z, hZ⟩ : ∃ Z, Z = wr.alloc (.cells #[.int .i64 s0, .int .i64 s1, .int .i64 s2] 23) := ⟨_, rfl⟩
      rw [← hZ]
      have HWZ := hid (show Below wr.heap.size wr Z from by rw [hZ]; exact (Below.refl _ _).alloc (Nat.le_refl _) _)
      have hzk : Blk Z wr.heap.size 23 (kc (s0, s1, s2)) := by rw [hZ]; exact Blk.new wr 23 (kc (s0, s1, s2))
      have HA := hid (fun (W : World) (hW : Below Z.heap.size Z W) => show At3 W wr.heap.size 0 (s0, s1, s2) from ⟨(hzk.below hW hzk.lt).cell 0 _ rfl, (hzk.below hW hzk.lt).cell 1 _ rfl, (hzk.below hW hzk.lt).cell 2 _ rfl⟩)
      clear hzk
      have HT := hid (Below.refl Z.heap.size Z)
      clear hZ c0 c1 c2
      rcases HX.out with ⟨rfl, ho⟩ | ⟨rfl, ho⟩
      · by_cases hk0 : k = 0
        · have HNW := hid (show S8.lst (l.take (k + 1)) from HS.out.2 ⟨hall.out, ho, fun h => absurd h (by omega)⟩)
          have HK0 := hid (show ¬ (0 : Int) < (k : Int) by omega)
          clear hk0 hall ho OC HP0 HS HNX HX
          have HT := hid HT.out.drew
          refine wa_start (S := fun W => Below Z.heap.size Z W) (by kernel_rfl) HT.out ?_
          refine wa_tk 0 (some 12) (KV (s0, s1, s2)) rfl (by kernel_rfl) rfl rfl HT.out (fun w h0 => by obtain ⟨c0, c1, c2⟩ := HA.out _ h0; go_simp) ?_
          try simp only [Act.put, List.setIfInBounds_toArray, List.set_cons_zero, List.set_cons_succ]
          refine wa_branch [1] (by decide +kernel) rfl ?_
          refine ar_op 1 rfl rfl (fun K hK => ?_) ar_nil
          unfold Oper.wp
          go_simp
          go_at_call 15
          refine (CC.out _).mono ?_
          rintro e wz ⟨rfl, hbz⟩
          have HT := hid (below_t HT.out hbz)
          clear hbz
          go_simp
          refine hK.out _ _ HT.out ?_
          clear hK K
          try simp only [Act.put, List.setIfInBounds_toArray, List.set_cons_zero, List.set_cons_succ]
          refine wa_tk 2 (some 14) (.bool false) rfl (by kernel_rfl) rfl rfl HT.out (fun w h0 => by go_simp) ?_
          try simp only [Act.put, List.setIfInBounds_toArray, List.set_cons_zero, List.set_cons_succ]
          refine wa_tk 3 (some 15) (.bool false) rfl (by kernel_rfl) rfl rfl HT.out (fun w h0 => by go_simp) ?_
          try simp only [Act.put, List.setIfInBounds_toArray, List.set_cons_zero, List.set_cons_succ]
          refine wa_tkg 4 (some 16) (.int .i64 (k : Int)) rfl (by kernel_rfl) rfl rfl HT.out (fun w h0 => by go_simp) ?_
          try simp only [Act.put, List.setIfInBounds_toArray, List.set_cons_zero, List.set_cons_succ]
          refine wa_tkg 5 (some 17) (.bool false) rfl (by kernel_rfl) rfl rfl HT.out (fun w h0 => by have hk0 := HK0.out; go_simp; omega) ?_
          try simp only [Act.put, List.setIfInBounds_toArray, List.set_cons_zero, List.set_cons_succ]
          refine wa_tkg 6 (some 18) (.bool false) rfl (by kernel_rfl) rfl rfl HT.out (fun w h0 => by go_simp) ?_
          try simp only [Act.put, List.setIfInBounds_toArray, List.set_cons_zero, List.set_cons_succ]
          refine wa_skg 7 (some 19) rfl (by kernel_rfl) rfl rfl HT.out ?_
          try simp only [Act.put, List.setIfInBounds_toArray, List.set_cons_zero, List.set_cons_succ]
          refine wa_skg 8 (some 20) rfl (by kernel_rfl) rfl rfl HT.out ?_
          try simp only [Act.put, List.setIfInBounds_toArray, List.set_cons_zero, List.set_cons_succ]
          refine wa_skg 9 (some 21) rfl (by kernel_rfl) rfl rfl HT.out ?_
          try simp only [Act.put, List.setIfInBounds_toArray, List.set_cons_zero, List.set_cons_succ]
          refine wa_skg 10 (some 22) rfl (by kernel_rfl) rfl rfl HT.out ?_
          try simp only [Act.put, List.setIfInBounds_toArray, List.set_cons_zero, List.set_cons_succ]
          refine wa_skg 11 (some 23) rfl (by kernel_rfl) rfl rfl HT.out ?_
          try simp only [Act.put, List.setIfInBounds_toArray, List.set_cons_zero, List.set_cons_succ]
          refine wa_skg 12 (some 24) rfl (by kernel_rfl) rfl rfl HT.out ?_
          try simp only [Act.put, List.setIfInBounds_toArray, List.set_cons_zero, List.set_cons_succ]
          refine wa_skg 13 (some 25) rfl (by kernel_rfl) rfl rfl HT.out ?_
          try simp only [Act.put, List.setIfInBounds_toArray, List.set_cons_zero, List.set_cons_succ]
          refine wa_skg 14 (some 26) rfl (by kernel_rfl) rfl rfl HT.out ?_
          try simp only [Act.put, List.setIfInBounds_toArray, List.set_cons_zero, List.set_cons_succ]
          refine wa_tkg 15 (some 27) (.bool false) rfl (by kernel_rfl) rfl rfl HT.out (fun w h0 => by go_simp) ?_
          try simp only [Act.put, List.setIfInBounds_toArray, List.set_cons_zero, List.set_cons_succ]
          refine wa_tk 16 (some 28) (.bool false) rfl (by kernel_rfl) rfl rfl HT.out (fun w h0 => by go_simp) ?_
          try simp only [Act.put, List.setIfInBounds_toArray, List.set_cons_zero, List.set_cons_succ]
          refine wa_done (by decide +kernel) ?_
          go_wp2
          go_roundw
          case rel => exact ⟨k + 1, by omega, by go_num, below_t HB.out (below_t HWZ.out HT.out), HNW⟩
          case measure => simp [intOf]; omega
        · have hkp : 0 < k := by omega
          obtain ⟨p, hp⟩ := HP0.out hkp
          obtain ⟨b', o', e', hab', d0, d1, d2⟩ := KR.at3 HR.out hp
          injection e' with e'
          injection e' with e1 e2 e3
          subst e1; subst e2
          have OD := hid (fun W => OC.out W p)
          have HC := hid (S8.cp_neg_iff (a := p) (b := (s0, s1, s2)))
          obtain ⟨p0, p1, p2⟩ := p
          simp only at d0 d1 d2
          obtain ⟨z, hz⟩ : ∃ z, z = S8.cp (p0, p1, p2) (s0, s1, s2) := ⟨_, rfl⟩
          rw [← hz] at OD HC
          obtain ⟨m, hm1⟩ : ∃ m, m = k - 1 := ⟨_, rfl⟩
          have HKM := hid (show k = m + 1 by omega)
          have HMM := hid (show ((k : Int) - 1) = (m : Int) by omega)
          have HML := hid (show m < n by omega)
          have HWM := hid (show IntKind.i64.wrap (m : Int) = (m : Int) from IntWalk.i64_in _ (by omega))
          have HK0 := hid (show (0 : Int) < (k : Int) by omega)
          rw [← hm1] at d0 d1 d2
          have HWN := hid (HB.out.trans (HWZ.out.mono HB.out.size))
          have HP := hid (fun (W : World) (hW : Below Z.heap.size Z W) => show At3 W b (o + m * 3) (p0, p1, p2) from by
            have hwW : Below w.heap.size w W := HWN.out.trans (hW.mono HWN.out.size)
            exact ⟨(hwW.cell (p := ⟨b, o + m * 3, none⟩) hab').trans d0, (hwW.cell (p := ⟨b, o + m * 3 + 1, none⟩) hab').trans d1, (hwW.cell (p := ⟨b, o + m * 3 + 2, none⟩) hab').trans d2⟩)
          have HPP := hid (show ∀ q, l[k - 1]? = some q → q = (p0, p1, p2) from fun q hq => by rw [hp] at hq; exact (Option.some.inj hq).symm)
          have HPQ := hid hp
          clear hz d0 d1 d2 hm1 OC HP0 hp
          have OC := OD
          by_cases hzn : z < 0
          · have HNW := hid (show S8.lst (l.take (k + 1)) from HS.out.2 ⟨hall.out, ho, fun _ q hq => by rw [HPP.out q hq]; exact HC.out.1 hzn⟩)
            have HZ0 := hid (show ¬ (0 : Int) ≤ z by omega)
            clear hall ho HS HNX HX HC HPP HPQ hzn OD
            have HT := hid HT.out.drew
            refine wa_start (S := fun W => Below Z.heap.size Z W) (by kernel_rfl) HT.out ?_
            refine wa_tk 0 (some 12) (KV (s0, s1, s2)) rfl (by kernel_rfl) rfl rfl HT.out (fun w h0 => by obtain ⟨c0, c1, c2⟩ := HA.out _ h0; go_simp) ?_
            try simp only [Act.put, List.setIfInBounds_toArray, List.set_cons_zero, List.set_cons_succ]
            refine wa_branch [1] (by decide +kernel) rfl ?_
            refine ar_op 1 rfl rfl (fun K hK => ?_) ar_nil
            unfold Oper.wp
            go_simp
            go_at_call 15
            refine (CC.out _).mono ?_
            rintro e wz ⟨rfl, hbz⟩
            have HT := hid (below_t HT.out hbz)
            clear hbz
            go_simp
            refine hK.out _ _ HT.out ?_
            clear hK K
            try simp only [Act.put, List.setIfInBounds_toArray, List.set_cons_zero, List.set_cons_succ]
            refine wa_tk 2 (some 14) (.bool false) rfl (by kernel_rfl) rfl rfl HT.out (fun w h0 => by go_simp) ?_
            try simp only [Act.put, List.setIfInBounds_toArray, List.set_cons_zero, List.set_cons_succ]
            refine wa_tk 3 (some 15) (.bool false) rfl (by kernel_rfl) rfl rfl HT.out (fun w h0 => by go_simp) ?_
            try simp only [Act.put, List.setIfInBounds_toArray, List.set_cons_zero, List.set_cons_succ]
            refine wa_tkg 4 (some 16) (.int .i64 (k : Int)) rfl (by kernel_rfl) rfl rfl HT.out (fun w h0 => by go_simp) ?_
            try simp only [Act.put, List.setIfInBounds_toArray, List.set_cons_zero, List.set_cons_succ]
            refine wa_tkg 5 (some 17) (.bool true) rfl (by kernel_rfl) rfl rfl HT.out (fun w h0 => by have hk0 := HK0.out; go_simp) ?_
            try simp only [Act.put, List.setIfInBounds_toArray, List.set_cons_zero, List.set_cons_succ]
            refine wa_tkg 6 (some 18) (.bool true) rfl (by kernel_rfl) rfl rfl HT.out (fun w h0 => by go_simp) ?_
            try simp only [Act.put, List.setIfInBounds_toArray, List.set_cons_zero, List.set_cons_succ]
            refine wa_tkg 7 (some 19) (.slice (some ⟨b, o, none⟩) n cap) rfl (by kernel_rfl) rfl rfl HT.out (fun w h0 => by go_simp) ?_
            try simp only [Act.put, List.setIfInBounds_toArray, List.set_cons_zero, List.set_cons_succ]
            refine wa_tkg 8 (some 20) (.int .i64 (k : Int)) rfl (by kernel_rfl) rfl rfl HT.out (fun w h0 => by go_simp) ?_
            try simp only [Act.put, List.setIfInBounds_toArray, List.set_cons_zero, List.set_cons_succ]
            refine wa_tkg 9 (some 21) (.int .i64 (m : Int)) rfl (by kernel_rfl) rfl rfl HT.out (fun w h0 => by have hwm := HWM.out; have hmm := HMM.out; go_simp) ?_
            try simp only [Act.put, List.setIfInBounds_toArray, List.set_cons_zero, List.set_cons_succ]
            refine wa_tkg 10 (some 22) (.pointer (some ⟨b, o + m * 3, none⟩)) rfl (by kernel_rfl) rfl rfl HT.out (fun w h0 => by have hmlt := HML.out; go_simp) ?_
            try simp only [Act.put, List.setIfInBounds_toArray, List.set_cons_zero, List.set_cons_succ]
            refine wa_tkg 11 (some 23) (KV (p0, p1, p2)) rfl (by kernel_rfl) rfl rfl HT.out (fun w h0 => by obtain ⟨c0, c1, c2⟩ := HP.out _ h0; go_simp) ?_
            try simp only [Act.put, List.setIfInBounds_toArray, List.set_cons_zero, List.set_cons_succ]
            refine wa_tkg 12 (some 24) (KV (s0, s1, s2)) rfl (by kernel_rfl) rfl rfl HT.out (fun w h0 => by obtain ⟨c0, c1, c2⟩ := HA.out _ h0; go_simp) ?_
            try simp only [Act.put, List.setIfInBounds_toArray, List.set_cons_zero, List.set_cons_succ]
            refine wa_branch [13] (by decide +kernel) rfl ?_
            refine ar_opg 13 rfl rfl (fun K hK => ?_) ar_nil
            unfold Oper.wp
            go_simp
            go_at_call 17
            refine (OC.out _).mono ?_
            rintro e wz ⟨rfl, hbz⟩
            have HT := hid (below_t HT.out hbz)
            clear hbz
            go_simp
            refine hK.out _ _ HT.out ?_
            clear hK K
            try simp only [Act.put, List.setIfInBounds_toArray, List.set_cons_zero, List.set_cons_succ]
            refine wa_tkg 14 (some 26) (.bool false) rfl (by kernel_rfl) rfl rfl HT.out (fun w h0 => by have hz0 := HZ0.out; go_simp) ?_
            try simp only [Act.put, List.setIfInBounds_toArray, List.set_cons_zero, List.set_cons_succ]
            refine wa_tkg 15 (some 27) (.bool false) rfl (by kernel_rfl) rfl rfl HT.out (fun w h0 => by go_simp) ?_
            try simp only [Act.put, List.setIfInBounds_toArray, List.set_cons_zero, List.set_cons_succ]
            refine wa_tk 16 (some 28) (.bool false) rfl (by kernel_rfl) rfl rfl HT.out (fun w h0 => by go_simp) ?_
            try simp only [Act.put, List.setIfInBounds_toArray, List.set_cons_zero, List.set_cons_succ]
            refine wa_done (by decide +kernel) ?_
            go_wp2
            go_roundw
            case rel => exact ⟨k + 1, by omega, by go_num, below_t HB.out (below_t HWZ.out HT.out), HNW⟩
            case measure => simp [intOf]; omega
          · have HV := hid (HNX.out (fun h => hzn (HC.out.2 ((HS.out.1 h).2.2 hkp _ HPQ.out))))
            have HZ0 := hid (show (0 : Int) ≤ z by omega)
            clear hall ho HS HNX HX HC HPP HPQ hzn OD
            have HT := hid HT.out.drew
            refine wa_start (S := fun W => Below Z.heap.size Z W) (by kernel_rfl) HT.out ?_
            refine wa_tk 0 (some 12) (KV (s0, s1, s2)) rfl (by kernel_rfl) rfl rfl HT.out (fun w h0 => by obtain ⟨c0, c1, c2⟩ := HA.out _ h0; go_simp) ?_
            try simp only [Act.put, List.setIfInBounds_toArray, List.set_cons_zero, List.set_cons_succ]
            refine wa_branch [1] (by decide +kernel) rfl ?_
            refine ar_op 1 rfl rfl (fun K hK => ?_) ar_nil
            unfold Oper.wp
            go_simp
            go_at_call 15
            refine (CC.out _).mono ?_
            rintro e wz ⟨rfl, hbz⟩
            have HT := hid (below_t HT.out hbz)
            clear hbz
            go_simp
            refine hK.out _ _ HT.out ?_
            clear hK K
            try simp only [Act.put, List.setIfInBounds_toArray, List.set_cons_zero, List.set_cons_succ]
            refine wa_tk 2 (some 14) (.bool false) rfl (by kernel_rfl) rfl rfl HT.out (fun w h0 => by go_simp) ?_
            try simp only [Act.put, List.setIfInBounds_toArray, List.set_cons_zero, List.set_cons_succ]
            refine wa_tk 3 (some 15) (.bool false) rfl (by kernel_rfl) rfl rfl HT.out (fun w h0 => by go_simp) ?_
            try simp only [Act.put, List.setIfInBounds_toArray, List.set_cons_zero, List.set_cons_succ]
            refine wa_tkg 4 (some 16) (.int .i64 (k : Int)) rfl (by kernel_rfl) rfl rfl HT.out (fun w h0 => by go_simp) ?_
            try simp only [Act.put, List.setIfInBounds_toArray, List.set_cons_zero, List.set_cons_succ]
            refine wa_tkg 5 (some 17) (.bool true) rfl (by kernel_rfl) rfl rfl HT.out (fun w h0 => by have hk0 := HK0.out; go_simp) ?_
            try simp only [Act.put, List.setIfInBounds_toArray, List.set_cons_zero, List.set_cons_succ]
            refine wa_tkg 6 (some 18) (.bool true) rfl (by kernel_rfl) rfl rfl HT.out (fun w h0 => by go_simp) ?_
            try simp only [Act.put, List.setIfInBounds_toArray, List.set_cons_zero, List.set_cons_succ]
            refine wa_tkg 7 (some 19) (.slice (some ⟨b, o, none⟩) n cap) rfl (by kernel_rfl) rfl rfl HT.out (fun w h0 => by go_simp) ?_
            try simp only [Act.put, List.setIfInBounds_toArray, List.set_cons_zero, List.set_cons_succ]
            refine wa_tkg 8 (some 20) (.int .i64 (k : Int)) rfl (by kernel_rfl) rfl rfl HT.out (fun w h0 => by go_simp) ?_
            try simp only [Act.put, List.setIfInBounds_toArray, List.set_cons_zero, List.set_cons_succ]
            refine wa_tkg 9 (some 21) (.int .i64 (m : Int)) rfl (by kernel_rfl) rfl rfl HT.out (fun w h0 => by have hwm := HWM.out; have hmm := HMM.out; go_simp) ?_
            try simp only [Act.put, List.setIfInBounds_toArray, List.set_cons_zero, List.set_cons_succ]
            refine wa_tkg 10 (some 22) (.pointer (some ⟨b, o + m * 3, none⟩)) rfl (by kernel_rfl) rfl rfl HT.out (fun w h0 => by have hmlt := HML.out; go_simp) ?_
            try simp only [Act.put, List.setIfInBounds_toArray, List.set_cons_zero, List.set_cons_succ]
            refine wa_tkg 11 (some 23) (KV (p0, p1, p2)) rfl (by kernel_rfl) rfl rfl HT.out (fun w h0 => by obtain ⟨c0, c1, c2⟩ := HP.out _ h0; go_simp) ?_
            try simp only [Act.put, List.setIfInBounds_toArray, List.set_cons_zero, List.set_cons_succ]
            refine wa_tkg 12 (some 24) (KV (s0, s1, s2)) rfl (by kernel_rfl) rfl rfl HT.out (fun w h0 => by obtain ⟨c0, c1, c2⟩ := HA.out _ h0; go_simp) ?_
            try simp only [Act.put, List.setIfInBounds_toArray, List.set_cons_zero, List.set_cons_succ]
            refine wa_branch [13] (by decide +kernel) rfl ?_
            refine ar_opg 13 rfl rfl (fun K hK => ?_) ar_nil
            unfold Oper.wp
            go_simp
            go_at_call 17
            refine (OC.out _).mono ?_
            rintro e wz ⟨rfl, hbz⟩
            have HT := hid (below_t HT.out hbz)
            clear hbz
            go_simp
            refine hK.out _ _ HT.out ?_
            clear hK K
            try simp only [Act.put, List.setIfInBounds_toArray, List.set_cons_zero, List.set_cons_succ]
            refine wa_tkg 14 (some 26) (.bool true) rfl (by kernel_rfl) rfl rfl HT.out (fun w h0 => by have hz0 := HZ0.out; go_simp) ?_
            try simp only [Act.put, List.setIfInBounds_toArray, List.set_cons_zero, List.set_cons_succ]
            refine wa_tkg 15 (some 27) (.bool true) rfl (by kernel_rfl) rfl rfl HT.out (fun w h0 => by go_simp) ?_
            try simp only [Act.put, List.setIfInBounds_toArray, List.set_cons_zero, List.set_cons_succ]
            refine wa_tk 16 (some 28) (.bool true) rfl (by kernel_rfl) rfl rfl HT.out (fun w h0 => by go_simp) ?_
            try simp only [Act.put, List.setIfInBounds_toArray, List.set_cons_zero, List.set_cons_succ]
            refine wa_done (by decide +kernel) ?_
            go_wp2
            go_ret
            exact ⟨by rw [HV.out]; rfl, below_t HB.out (below_t HWZ.out HT.out)⟩
      · have HV := hid (HNX.out (fun h => ho (HS.out.1 h).2.1))
        clear hall ho HS HNX HX OC HP0
        have HT := hid HT.out.drew
        refine wa_start (S := fun W => Below Z.heap.size Z W) (by kernel_rfl) HT.out ?_
        refine wa_tk 0 (some 12) (KV (s0, s1, s2)) rfl (by kernel_rfl) rfl rfl HT.out (fun w h0 => by obtain ⟨c0, c1, c2⟩ := HA.out _ h0; go_simp) ?_
        try simp only [Act.put, List.setIfInBounds_toArray, List.set_cons_zero, List.set_cons_succ]
        refine wa_branch [1] (by decide +kernel) rfl ?_
        refine ar_op 1 rfl rfl (fun K hK => ?_) ar_nil
        unfold Oper.wp
        go_simp
        go_at_call 15
        refine (CC.out _).mono ?_
        rintro e wz ⟨rfl, hbz⟩
        have HT := hid (below_t HT.out hbz)
        clear hbz
        go_simp
        refine hK.out _ _ HT.out ?_
        clear hK K
        try simp only [Act.put, List.setIfInBounds_toArray, List.set_cons_zero, List.set_cons_succ]
        refine wa_tk 2 (some 14) (.bool true) rfl (by kernel_rfl) rfl rfl HT.out (fun w h0 => by go_simp) ?_
        try simp only [Act.put, List.setIfInBounds_toArray, List.set_cons_zero, List.set_cons_succ]
        refine wa_tk 3 (some 15) (.bool true) rfl (by kernel_rfl) rfl rfl HT.out (fun w h0 => by go_simp) ?_
        try simp only [Act.put, List.setIfInBounds_toArray, List.set_cons_zero, List.set_cons_succ]
        refine wa_skg 4 (some 16) rfl (by kernel_rfl) rfl rfl HT.out ?_
        try simp only [Act.put, List.setIfInBounds_toArray, List.set_cons_zero, List.set_cons_succ]
        refine wa_skg 5 (some 17) rfl (by kernel_rfl) rfl rfl HT.out ?_
        try simp only [Act.put, List.setIfInBounds_toArray, List.set_cons_zero, List.set_cons_succ]
        refine wa_skg 6 (some 18) rfl (by kernel_rfl) rfl rfl HT.out ?_
        try simp only [Act.put, List.setIfInBounds_toArray, List.set_cons_zero, List.set_cons_succ]
        refine wa_skg 7 (some 19) rfl (by kernel_rfl) rfl rfl HT.out ?_
        try simp only [Act.put, List.setIfInBounds_toArray, List.set_cons_zero, List.set_cons_succ]
        refine wa_skg 8 (some 20) rfl (by kernel_rfl) rfl rfl HT.out ?_
        try simp only [Act.put, List.setIfInBounds_toArray, List.set_cons_zero, List.set_cons_succ]
        refine wa_skg 9 (some 21) rfl (by kernel_rfl) rfl rfl HT.out ?_
        try simp only [Act.put, List.setIfInBounds_toArray, List.set_cons_zero, List.set_cons_succ]
        refine wa_skg 10 (some 22) rfl (by kernel_rfl) rfl rfl HT.out ?_
        try simp only [Act.put, List.setIfInBounds_toArray, List.set_cons_zero, List.set_cons_succ]
        refine wa_skg 11 (some 23) rfl (by kernel_rfl) rfl rfl HT.out ?_
        try simp only [Act.put, List.setIfInBounds_toArray, List.set_cons_zero, List.set_cons_succ]
        refine wa_skg 12 (some 24) rfl (by kernel_rfl) rfl rfl HT.out ?_
        try simp only [Act.put, List.setIfInBounds_toArray, List.set_cons_zero, List.set_cons_succ]
        refine wa_skg 13 (some 25) rfl (by kernel_rfl) rfl rfl HT.out ?_
        try simp only [Act.put, List.setIfInBounds_toArray, List.set_cons_zero, List.set_cons_succ]
        refine wa_skg 14 (some 26) rfl (by kernel_rfl) rfl rfl HT.out ?_
        try simp only [Act.put, List.setIfInBounds_toArray, List.set_cons_zero, List.set_cons_succ]
        refine wa_skg 15 (some 27) rfl (by kernel_rfl) rfl rfl HT.out ?_
        try simp only [Act.put, List.setIfInBounds_toArray, List.set_cons_zero, List.set_cons_succ]
        refine wa_tk 16 (some 28) (.bool true) rfl (by kernel_rfl) rfl rfl HT.out (fun w h0 => by go_simp) ?_
        try simp only [Act.put, List.setIfInBounds_toArray, List.set_cons_zero, List.set_cons_succ]
        refine wa_done (by decide +kernel) ?_
        go_wp2
        go_ret
        exact ⟨by rw [HV.out]; rfl, below_t HB.out (below_t HWZ.out HT.out)⟩
    · have hal : S8.lst l := by
        have h := hall.out
        rwa [show k = l.length by have := HN.out; omega, List.take_length] at h
      have HV := hid (show decide (S8.lst l) = true from decide_eq_true hal)
      clear hal hall hb
      go_wp2
      go_ret
      exact ⟨by rw [HV.out]; rfl, HB.out⟩
end Go.Proofs.Ytlkcnnamnjnmbaa

/- Contract: Alike of the reference. -/
import Derived.Test.YtbejjindkcjecaaRefP
import Derived.Test.YtbejjindkcjecaaU
namespace Go.Proofs.Ytbejjindkcjecaa
open Go.RowKit Go
set_option linter.unusedVariables false
set_option linter.unusedSimpArgs false
set_option maxRecDepth 100000 in
set_option maxHeartbeats 8000000 in
theorem refAlike_any (v vr : Value) (L : List FA) (rs : List RD) (q q' : Int) (w : World) (hv : FS w v L) (hr : RS w vr rs) (hL : L.length ≤ 1000000) :
    Calls Try.prog 27 #[v, vr, .int .i64 q, .int .i64 q'] w fun e w' => e = .returned (.bool (alk q q' L rs)) ∧ Below w.heap.size w w' := by
  have PT := hid (fun (r : RD) (x : Int) W (h : Below w.heap.size w W) => refPoints_any v L r.1 r.2.1 r.2.2 x W (hv.ups h) hL)
  obtain ⟨p, c, hvf⟩ := hv.form
  obtain ⟨n, hn⟩ : ∃ m, m = L.length := ⟨_, rfl⟩
  rw [← hn] at hvf
  subst hvf
  obtain ⟨pr, cr, hvr⟩ := hr.form
  have hm := hr.len
  obtain ⟨m, hmm⟩ : ∃ m, m = rs.length := ⟨_, rfl⟩
  rw [← hmm] at hvr hm
  subst hvr
  have HRR := hid (show GR rc 5 pr w.heap.size rs w from hr.gr 5 rc_len (by omega))
  have hcr := hr.cap.2.1
  unfold maxLen at hm
  have HMM := hid hmm
  clear hv hL hn hr hmm
  go_enter Try.func27, Try.ntmps27
  go_wp2
  go_loopw [9] (fun ii wr => ∃ i : Nat, i ≤ m ∧ ii = .int .i64 i ∧ Hid (alk q q' L (rs.take i) = true) ∧ Below w.heap.size w wr) (fun ii _ => m - (intOf ii).toNat)
  case atStart => exact ⟨0, by omega, rfl, hid (by simp [alk]), Below.refl _ _⟩
  case round =>
    obtain ⟨i, hi, rfl, hall, hbw⟩ := hrel
    have HBW := hid hbw
    clear hbw
    by_cases hlt : i < m
    · obtain ⟨r, hr⟩ := get_lt (l := rs) (i := i) (by rw [← HMM.out]; exact hlt)
      obtain ⟨bb, o, rfl, hbb, x0, x1, x2, x3, x4⟩ := (HRR.out.up HBW.out).at5 hr
      have HTS := hid (take_snoc hr)
      have HAL := hid (show alk q q' L (rs.take (i + 1)) = (alk q q' L (rs.take i) && alk1 q q' L r) by unfold alk; rw [HTS.out, List.all_append]; simp)
      have HNO := hid (show alk1 q q' L r = false → alk q q' L rs = false from fun h => by
        unfold alk
        rw [List.all_eq_false]
        exact ⟨r, List.mem_of_getElem? hr, by rw [h]; simp⟩)
      have P1 := hid (fun W h => PT.out r q W h)
      have P2 := hid (fun W h => PT.out r q' W h)
      clear hr
      go_upto_region 5 with fail
      obtain ⟨Z, hZ⟩ : ∃ Z, Z = wr.alloc (.cells #[.int .i64 r.1.1, .int .i64 r.1.2.1, .int .i64 r.1.2.2, .int .i64 r.2.1, .int .i64 r.2.2] 54) := ⟨_, rfl⟩
      have hzb : Below wr.heap.size wr Z := by rw [hZ]; exact (Below.refl _ wr).alloc (Nat.le_refl _) _
      have hzk : Blk Z wr.heap.size 54 (rc r) := by rw [hZ]; exact Blk.new wr 54 (rc r)
      have HZW := hid (below_t HBW.out hzb)
      have HRC := hid (fun (W : World) (hW : Below Z.heap.size Z W) => show W.cell? ⟨wr.heap.size, 0, none⟩ = some (.int .i64 r.1.1) ∧ W.cell? ⟨wr.heap.size, 1, none⟩ = some (.int .i64 r.1.2.1) ∧ W.cell? ⟨wr.heap.size, 2, none⟩ = some (.int .i64 r.1.2.2) ∧ W.cell? ⟨wr.heap.size, 3, none⟩ = some (.int .i64 r.2.1) ∧ W.cell? ⟨wr.heap.size, 4, none⟩ = some (.int .i64 r.2.2) from
        ⟨(hzk.below hW hzk.lt).cell 0 _ rfl, (hzk.below hW hzk.lt).cell 1 _ rfl, (hzk.below hW hzk.lt).cell 2 _ rfl, (hzk.below hW hzk.lt).cell 3 _ rfl, (hzk.below hW hzk.lt).cell 4 _ rfl⟩)
      obtain ⟨Bx, hBx⟩ : ∃ x, x = wr.heap.size := ⟨_, rfl⟩
      rw [← hBx] at HRC
      rw [← hZ, ← hBx]
      have HT := hid (Below.refl Z.heap.size Z)
      clear hZ hBx hzb hzk x0 x1 x2 x3 x4 hbb
      cases hs1 : alk1 q q' L r with
      | true =>
        have hsame : decide (F7.points r.1 r.2.1 r.2.2 q L = F7.points r.1 r.2.1 r.2.2 q' L) = true := hs1
        have HNX := hid (show alk q q' L (rs.take (i + 1)) = true by rw [HAL.out, hall.out, hs1]; rfl)
        clear hs1 hall
        have HT := hid HT.out.drew
        refine wa_start (S := fun W => Below Z.heap.size Z W) (by kernel_rfl) HT.out ?_
        refine wa_tk 0 (some 21) (.slice p n c) rfl (by kernel_rfl) rfl rfl HT.out (fun w h0 => by go_simp) ?_
        try simp only [Act.put, List.setIfInBounds_toArray, List.set_cons_zero, List.set_cons_succ]
        refine wa_tk 1 (some 22) (.pointer (some ⟨Bx, 0, none⟩)) rfl (by kernel_rfl) rfl rfl HT.out (fun w h0 => by go_simp) ?_
        try simp only [Act.put, List.setIfInBounds_toArray, List.set_cons_zero, List.set_cons_succ]
        refine wa_tk 2 (some 23) (.agg #[.int .i64 r.1.1, .int .i64 r.1.2.1, .int .i64 r.1.2.2]) rfl (by kernel_rfl) rfl rfl HT.out (fun w h0 => by obtain ⟨c0, c1, c2, c3, c4⟩ := HRC.out _ h0; go_simp) ?_
        try simp only [Act.put, List.setIfInBounds_toArray, List.set_cons_zero, List.set_cons_succ]
        refine wa_tk 3 (some 24) (.pointer (some ⟨Bx, 3, none⟩)) rfl (by kernel_rfl) rfl rfl HT.out (fun w h0 => by go_simp) ?_
        try simp only [Act.put, List.setIfInBounds_toArray, List.set_cons_zero, List.set_cons_succ]
        refine wa_tk 4 (some 25) (.int .i64 r.2.1) rfl (by kernel_rfl) rfl rfl HT.out (fun w h0 => by obtain ⟨c0, c1, c2, c3, c4⟩ := HRC.out _ h0; go_simp) ?_
        try simp only [Act.put, List.setIfInBounds_toArray, List.set_cons_zero, List.set_cons_succ]
        refine wa_tk 5 (some 26) (.pointer (some ⟨Bx, 4, none⟩)) rfl (by kernel_rfl) rfl rfl HT.out (fun w h0 => by go_simp) ?_
        try simp only [Act.put, List.setIfInBounds_toArray, List.set_cons_zero, List.set_cons_succ]
        refine wa_tk 6 (some 27) (.int .i64 r.2.2) rfl (by kernel_rfl) rfl rfl HT.out (fun w h0 => by obtain ⟨c0, c1, c2, c3, c4⟩ := HRC.out _ h0; go_simp) ?_
        try simp only [Act.put, List.setIfInBounds_toArray, List.set_cons_zero, List.set_cons_succ]
        refine wa_tk 7 (some 28) (.int .i64 q) rfl (by kernel_rfl) rfl rfl HT.out (fun w h0 => by go_simp) ?_
        try simp only [Act.put, List.setIfInBounds_toArray, List.set_cons_zero, List.set_cons_succ]
        refine wa_tk 9 (some 30) (.slice p n c) rfl (by kernel_rfl) rfl rfl HT.out (fun w h0 => by go_simp) ?_
        try simp only [Act.put, List.setIfInBounds_toArray, List.set_cons_zero, List.set_cons_succ]
        refine wa_tk 10 (some 31) (.pointer (some ⟨Bx, 0, none⟩)) rfl (by kernel_rfl) rfl rfl HT.out (fun w h0 => by go_simp) ?_
        try simp only [Act.put, List.setIfInBounds_toArray, List.set_cons_zero, List.set_cons_succ]
        refine wa_tk 11 (some 32) (.agg #[.int .i64 r.1.1, .int .i64 r.1.2.1, .int .i64 r.1.2.2]) rfl (by kernel_rfl) rfl rfl HT.out (fun w h0 => by obtain ⟨c0, c1, c2, c3, c4⟩ := HRC.out _ h0; go_simp) ?_
        try simp only [Act.put, List.setIfInBounds_toArray, List.set_cons_zero, List.set_cons_succ]
        refine wa_tk 12 (some 33) (.pointer (some ⟨Bx, 3, none⟩)) rfl (by kernel_rfl) rfl rfl HT.out (fun w h0 => by go_simp) ?_
        try simp only [Act.put, List.setIfInBounds_toArray, List.set_cons_zero, List.set_cons_succ]
        refine wa_tk 13 (some 34) (.int .i64 r.2.1) rfl (by kernel_rfl) rfl rfl HT.out (fun w h0 => by obtain ⟨c0, c1, c2, c3, c4⟩ := HRC.out _ h0; go_simp) ?_
        try simp only [Act.put, List.setIfInBounds_toArray, List.set_cons_zero, List.set_cons_succ]
        refine wa_tk 14 (some 35) (.pointer (some ⟨Bx, 4, none⟩)) rfl (by kernel_rfl) rfl rfl HT.out (fun w h0 => by go_simp) ?_
        try simp only [Act.put, List.setIfInBounds_toArray, List.set_cons_zero, List.set_cons_succ]
        refine wa_tk 15 (some 36) (.int .i64 r.2.2) rfl (by kernel_rfl) rfl rfl HT.out (fun w h0 => by obtain ⟨c0, c1, c2, c3, c4⟩ := HRC.out _ h0; go_simp) ?_
        try simp only [Act.put, List.setIfInBounds_toArray, List.set_cons_zero, List.set_cons_succ]
        refine wa_tk 16 (some 37) ((.int .i64 q')) rfl (by kernel_rfl) rfl rfl HT.out (fun w h0 => by go_simp) ?_
        try simp only [Act.put, List.setIfInBounds_toArray, List.set_cons_zero, List.set_cons_succ]
        refine wa_branch [8] (by decide +kernel) rfl ?_
        refine ar_op 8 rfl rfl (fun K hK => ?_) ar_nil
        unfold Oper.wp
        go_simp
        go_at_call 22
        refine (P1.out _ (HZW.out.trans (HT.out.mono HZW.out.size))).mono ?_
        rintro e wz ⟨u1, rfl, hps, hbz⟩
        obtain ⟨pu1, cu1, hfu1⟩ := hps.form
        obtain ⟨nu1, hnu1⟩ : ∃ x, x = (F7.points r.1 r.2.1 r.2.2 q L).length := ⟨_, rfl⟩
        rw [← hnu1] at hfu1
        subst hfu1
        have Hu1 := hid hps
        have HT := hid (below_t HT.out hbz)
        clear hbz hps hnu1
        go_simp
        refine hK.out _ _ HT.out ?_
        clear hK K
        try simp only [Act.put, List.setIfInBounds_toArray, List.set_cons_zero, List.set_cons_succ]
        refine wa_branch [17] (by decide +kernel) rfl ?_
        refine ar_op 17 rfl rfl (fun K hK => ?_) ar_nil
        unfold Oper.wp
        go_simp
        go_at_call 22
        refine (P2.out _ (HZW.out.trans (HT.out.mono HZW.out.size))).mono ?_
        rintro e wz ⟨u2, rfl, hps, hbz⟩
        obtain ⟨pu2, cu2, hfu2⟩ := hps.form
        obtain ⟨nu2, hnu2⟩ : ∃ x, x = (F7.points r.1 r.2.1 r.2.2 q' L).length := ⟨_, rfl⟩
        rw [← hnu2] at hfu2
        subst hfu2
        have Hu2 := hid hps
        have Hu1 := hid (Hu1.out.ups hbz)
        have HT := hid (below_t HT.out hbz)
        clear hbz hps hnu2
        go_simp
        refine hK.out _ _ HT.out ?_
        clear hK K
        try simp only [Act.put, List.setIfInBounds_toArray, List.set_cons_zero, List.set_cons_succ]
        refine wa_branch [18] (by decide +kernel) rfl ?_
        refine ar_op 18 rfl rfl (fun K hK => ?_) ar_nil
        unfold Oper.wp
        go_simp
        go_at_call 20
        refine (samePoints_any _ _ _ _ _ Hu1.out Hu2.out).mono ?_
        rw [hsame]
        rintro e wz ⟨rfl, hbz⟩
        have HT := hid (below_t HT.out hbz)
        clear hbz hsame
        go_simp
        refine hK.out _ _ HT.out ?_
        clear hK K
        try simp only [Act.put, List.setIfInBounds_toArray, List.set_cons_zero, List.set_cons_succ]
        refine wa_tk 19 (some 40) (.bool false) rfl (by kernel_rfl) rfl rfl HT.out (fun w h0 => by go_simp) ?_
        try simp only [Act.put, List.setIfInBounds_toArray, List.set_cons_zero, List.set_cons_succ]
        refine wa_done (by decide +kernel) ?_
        go_wp2
        go_roundw
        case rel => exact ⟨i + 1, by omega, by go_num, HNX, HZW.out.trans (HT.out.mono HZW.out.size)⟩
        case measure => simp [intOf]; omega
      | false =>
        have hsame : decide (F7.points r.1 r.2.1 r.2.2 q L = F7.points r.1 r.2.1 r.2.2 q' L) = false := hs1
        have HNX := hid (HNO.out hs1)
        clear hs1 hall
        have HT := hid HT.out.drew
        refine wa_start (S := fun W => Below Z.heap.size Z W) (by kernel_rfl) HT.out ?_
        refine wa_tk 0 (some 21) (.slice p n c) rfl (by kernel_rfl) rfl rfl HT.out (fun w h0 => by go_simp) ?_
        try simp only [Act.put, List.setIfInBounds_toArray, List.set_cons_zero, List.set_cons_succ]
        refine wa_tk 1 (some 22) (.pointer (some ⟨Bx, 0, none⟩)) rfl (by kernel_rfl) rfl rfl HT.out (fun w h0 => by go_simp) ?_
        try simp only [Act.put, List.setIfInBounds_toArray, List.set_cons_zero, List.set_cons_succ]
        refine wa_tk 2 (some 23) (.agg #[.int .i64 r.1.1, .int .i64 r.1.2.1, .int .i64 r.1.2.2]) rfl (by kernel_rfl) rfl rfl HT.out (fun w h0 => by obtain ⟨c0, c1, c2, c3, c4⟩ := HRC.out _ h0; go_simp) ?_
        try simp only [Act.put, List.setIfInBounds_toArray, List.set_cons_zero, List.set_cons_succ]
        refine wa_tk 3 (some 24) (.pointer (some ⟨Bx, 3, none⟩)) rfl (by kernel_rfl) rfl rfl HT.out (fun w h0 => by go_simp) ?_
        try simp only [Act.put, List.setIfInBounds_toArray, List.set_cons_zero, List.set_cons_succ]
        refine wa_tk 4 (some 25) (.int .i64 r.2.1) rfl (by kernel_rfl) rfl rfl HT.out (fun w h0 => by obtain ⟨c0, c1, c2, c3, c4⟩ := HRC.out _ h0; go_simp) ?_
        try simp only [Act.put, List.setIfInBounds_toArray, List.set_cons_zero, List.set_cons_succ]
        refine wa_tk 5 (some 26) (.pointer (some ⟨Bx, 4, none⟩)) rfl (by kernel_rfl) rfl rfl HT.out (fun w h0 => by go_simp) ?_
        try simp only [Act.put, List.setIfInBounds_toArray, List.set_cons_zero, List.set_cons_succ]
        refine wa_tk 6 (some 27) (.int .i64 r.2.2) rfl (by kernel_rfl) rfl rfl HT.out (fun w h0 => by obtain ⟨c0, c1, c2, c3, c4⟩ := HRC.out _ h0; go_simp) ?_
        try simp only [Act.put, List.setIfInBounds_toArray, List.set_cons_zero, List.set_cons_succ]
        refine wa_tk 7 (some 28) (.int .i64 q) rfl (by kernel_rfl) rfl rfl HT.out (fun w h0 => by go_simp) ?_
        try simp only [Act.put, List.setIfInBounds_toArray, List.set_cons_zero, List.set_cons_succ]
        refine wa_tk 9 (some 30) (.slice p n c) rfl (by kernel_rfl) rfl rfl HT.out (fun w h0 => by go_simp) ?_
        try simp only [Act.put, List.setIfInBounds_toArray, List.set_cons_zero, List.set_cons_succ]
        refine wa_tk 10 (some 31) (.pointer (some ⟨Bx, 0, none⟩)) rfl (by kernel_rfl) rfl rfl HT.out (fun w h0 => by go_simp) ?_
        try simp only [Act.put, List.setIfInBounds_toArray, List.set_cons_zero, List.set_cons_succ]
        refine wa_tk 11 (some 32) (.agg #[.int .i64 r.1.1, .int .i64 r.1.2.1, .int .i64 r.1.2.2]) rfl (by kernel_rfl) rfl rfl HT.out (fun w h0 => by obtain ⟨c0, c1, c2, c3, c4⟩ := HRC.out _ h0; go_simp) ?_
        try simp only [Act.put, List.setIfInBounds_toArray, List.set_cons_zero, List.set_cons_succ]
        refine wa_tk 12 (some 33) (.pointer (some ⟨Bx, 3, none⟩)) rfl (by kernel_rfl) rfl rfl HT.out (fun w h0 => by go_simp) ?_
        try simp only [Act.put, List.setIfInBounds_toArray, List.set_cons_zero, List.set_cons_succ]
        refine wa_tk 13 (some 34) (.int .i64 r.2.1) rfl (by kernel_rfl) rfl rfl HT.out (fun w h0 => by obtain ⟨c0, c1, c2, c3, c4⟩ := HRC.out _ h0; go_simp) ?_
        try simp only [Act.put, List.setIfInBounds_toArray, List.set_cons_zero, List.set_cons_succ]
        refine wa_tk 14 (some 35) (.pointer (some ⟨Bx, 4, none⟩)) rfl (by kernel_rfl) rfl rfl HT.out (fun w h0 => by go_simp) ?_
        try simp only [Act.put, List.setIfInBounds_toArray, List.set_cons_zero, List.set_cons_succ]
        refine wa_tk 15 (some 36) (.int .i64 r.2.2) rfl (by kernel_rfl) rfl rfl HT.out (fun w h0 => by obtain ⟨c0, c1, c2, c3, c4⟩ := HRC.out _ h0; go_simp) ?_
        try simp only [Act.put, List.setIfInBounds_toArray, List.set_cons_zero, List.set_cons_succ]
        refine wa_tk 16 (some 37) ((.int .i64 q')) rfl (by kernel_rfl) rfl rfl HT.out (fun w h0 => by go_simp) ?_
        try simp only [Act.put, List.setIfInBounds_toArray, List.set_cons_zero, List.set_cons_succ]
        refine wa_branch [8] (by decide +kernel) rfl ?_
        refine ar_op 8 rfl rfl (fun K hK => ?_) ar_nil
        unfold Oper.wp
        go_simp
        go_at_call 22
        refine (P1.out _ (HZW.out.trans (HT.out.mono HZW.out.size))).mono ?_
        rintro e wz ⟨u1, rfl, hps, hbz⟩
        obtain ⟨pu1, cu1, hfu1⟩ := hps.form
        obtain ⟨nu1, hnu1⟩ : ∃ x, x = (F7.points r.1 r.2.1 r.2.2 q L).length := ⟨_, rfl⟩
        rw [← hnu1] at hfu1
        subst hfu1
        have Hu1 := hid hps
        have HT := hid (below_t HT.out hbz)
        clear hbz hps hnu1
        go_simp
        refine hK.out _ _ HT.out ?_
        clear hK K
        try simp only [Act.put, List.setIfInBounds_toArray, List.set_cons_zero, List.set_cons_succ]
        refine wa_branch [17] (by decide +kernel) rfl ?_
        refine ar_op 17 rfl rfl (fun K hK => ?_) ar_nil
        unfold Oper.wp
        go_simp
        go_at_call 22
        refine (P2.out _ (HZW.out.trans (HT.out.mono HZW.out.size))).mono ?_
        rintro e wz ⟨u2, rfl, hps, hbz⟩
        obtain ⟨pu2, cu2, hfu2⟩ := hps.form
        obtain ⟨nu2, hnu2⟩ : ∃ x, x = (F7.points r.1 r.2.1 r.2.2 q' L).length := ⟨_, rfl⟩
        rw [← hnu2] at hfu2
        subst hfu2
        have Hu2 := hid hps
        have Hu1 := hid (Hu1.out.ups hbz)
        have HT := hid (below_t HT.out hbz)
        clear hbz hps hnu2
        go_simp
        refine hK.out _ _ HT.out ?_
        clear hK K
        try simp only [Act.put, List.setIfInBounds_toArray, List.set_cons_zero, List.set_cons_succ]
        refine wa_branch [18] (by decide +kernel) rfl ?_
        refine ar_op 18 rfl rfl (fun K hK => ?_) ar_nil
        unfold Oper.wp
        go_simp
        go_at_call 20
        refine (samePoints_any _ _ _ _ _ Hu1.out Hu2.out).mono ?_
        rw [hsame]
        rintro e wz ⟨rfl, hbz⟩
        have HT := hid (below_t HT.out hbz)
        clear hbz hsame
        go_simp
        refine hK.out _ _ HT.out ?_
        clear hK K
        try simp only [Act.put, List.setIfInBounds_toArray, List.set_cons_zero, List.set_cons_succ]
        refine wa_tk 19 (some 40) (.bool true) rfl (by kernel_rfl) rfl rfl HT.out (fun w h0 => by go_simp) ?_
        try simp only [Act.put, List.setIfInBounds_toArray, List.set_cons_zero, List.set_cons_succ]
        refine wa_done (by decide +kernel) ?_
        go_wp2
        go_ret
        exact ⟨by rw [HNX.out]; rfl, HZW.out.trans (HT.out.mono HZW.out.size)⟩
    · have HNX := hid (show alk q q' L rs = true by have h := hall.out; rwa [List.take_of_length_le (by have := HMM.out; omega)] at h)
      clear hall
      go_wp2
      go_ret
      exact ⟨by rw [HNX.out]; rfl, HBW.out⟩
end Go.Proofs.Ytbejjindkcjecaa

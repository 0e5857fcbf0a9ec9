/- The law of the next element: a list whose length is a power of 2, and one more. -/
import Derived.Test.YtilnecckgjjcgaaDoorRL
import Derived.Deep.CutRange
namespace Go.Proofs.YtilnecckgjjcgaaDoor.Dg
open Go.RowKit Go
set_option linter.unusedVariables false
set_option linter.unusedSimpArgs false
theorem fp_next (j m : Nat) (hm : m = 2 ^ j) : fp (m + 1) = m := by
  have := Nat.two_pow_pos j
  rw [fp_eq (m + 1) j (by omega) (by omega), hm]
theorem tree_next (l : List (List UInt8)) (d : List UInt8) (j m : Nat) (hm : m = 2 ^ j) (hl : m ≤ l.length) : tree (l.take m ++ [d]) = tagd nodeS (tree (l.take m) ++ tagd leafS d) := by
  have h0 := Nat.two_pow_pos j
  have e : (l.take m ++ [d]).length = m + 1 := by rw [List.length_append, List.length_take]; simp; omega
  rw [tree_two _ (by omega), e, fp_next j m hm, List.take_append_of_le_length (by rw [List.length_take]; omega), List.drop_append_of_le_length (by rw [List.length_take]; omega), List.take_take, Nat.min_self, List.drop_take, Nat.sub_self]
  simp [tree_one]
theorem path_next (l : List (List UInt8)) (d : List UInt8) (j m : Nat) (hm : m = 2 ^ j) (hl : m ≤ l.length) : pathOf (l.take m ++ [d]) m = [tree (l.take m)] := by
  have h0 := Nat.two_pow_pos j
  have e : (l.take m ++ [d]).length = m + 1 := by rw [List.length_append, List.length_take]; simp; omega
  rw [pathOf_hi _ _ (by omega) (by rw [e, fp_next j m hm]; omega), e, fp_next j m hm, Nat.sub_self, List.take_append_of_le_length (by rw [List.length_take]; omega), List.drop_append_of_le_length (by rw [List.length_take]; omega), List.take_take, Nat.min_self, List.drop_take, Nat.sub_self, pathOf_one _ _ (by simp)]
  rfl
theorem da_ds {w : World} {g : Nat} {d : List UInt8} (h : DA w (.slice (some ⟨g, 0, none⟩) 1 1) [d]) : DS w (.slice (some ⟨g, 0, none⟩) 1 1) [d] := by
  rcases h with ⟨h, _⟩ | ⟨a, c, h1, h2, h3⟩
  · cases h
  · simp only [Value.slice.injEq, Option.some.injEq] at h1
    obtain ⟨rfl, _, rfl⟩ := h1
    have hl := h2 d (by simp)
    exact ⟨h2, .inr ⟨g, 0, 1, rfl, by simp, by omega, h3, h3.lt (by intro h; have := congrArg List.length h; simp [hl] at this)⟩⟩
theorem tree_l (l : List (List UInt8)) : (tree l).length = 32 := tree_length l
theorem leaf_l (d : List UInt8) : (tagd leafS d).length = 32 := by rw [← tree_one]; exact tree_length _
set_option maxRecDepth 100000 in
set_option maxHeartbeats 8000000 in
theorem next_any (v : Value) (b ld : List UInt8) (ud : List Value) (w : World) (hv : BS w v b) (hd : IsD ld ud) (hk : Konst w) : Calls Tryd.prog 5 #[v, .agg ud.toArray] w fun e w' => e = .returned (.bool true) ∧ Below w.heap.size w w' := by
  have HV := hid hv; have HK := hid hk; have HD := hid hd
  clear hv hk hd
  go_enter Tryd.func5, Tryd.ntmps5
  go_upto_region 1 with (fail)
  refine code_alloc ?_
  intro W hc hf hb hs
  obtain ⟨gb, hgb⟩ : ∃ gb, gb = w.heap.size := ⟨_, rfl⟩
  rw [← hgb] at hc ⊢
  have HC := hid hc; have HB := hid hb
  clear hc hf hs hgb hb
  go_wp2_with fail
  refine (sane_any _ (HK.out.ups HB.out)).mono ?_
  rintro e w1 ⟨rfl, hb1⟩
  have HB1 := hid (below_tr HB.out hb1); have HC1 := hid (HC.out.ups hb1)
  clear hb1 HC HB
  go_wp2_with fail
  refine (digestsOf_any v b _ (HV.out.ups HB1.out)).mono ?_
  rintro e wB ⟨vl, rfl, hoe, hb2⟩
  have HBB := hid (below_tr HB1.out hb2); have HKB := hid (HK.out.ups HBB.out); have HL := hid hoe.ds; have HCB := hid (HC1.out.ups hb2)
  clear hb2 hoe HB1 HC1
  have hlen := digs_len b
  obtain ⟨p, cap, rfl, hcap, hcap2⟩ := HL.out.form
  obtain ⟨len, hln⟩ : ∃ len, len = (digs b).length := ⟨_, rfl⟩
  rw [← hln] at hlen HL hcap ⊢
  have HLN := hid hln
  clear hln
  have hu := Tryd.underlying26
  have hi0 := info26 HD.out.len'
  go_wp2
  go_loopw [6] (fun t wr => ∃ j m : Nat, t = .int .i64 m ∧ Hid (m = 2 ^ j) ∧ m ≤ 48 ∧ 0 < m ∧ Hid (Below wB.heap.size wB wr)) (fun t _ => len + 1 - (intOf t).toNat)
  case atStart => exact ⟨0, 1, rfl, hid rfl, by omega, by omega, hid (Below.refl _ _)⟩
  case round =>
    obtain ⟨j, m, rfl, HM, hm48, hm0, HBR⟩ := hrel
    by_cases h3 : m ≤ len
    · obtain ⟨gl, o, cap', hpv, _, _, hlc, hgl, h32⟩ := HL.out.pos (by rw [← HLN.out]; omega)
      simp only [Value.slice.injEq] at hpv
      obtain ⟨rfl, hpx, rfl⟩ := hpv
      have HTB := hid (DS.take hlc hgl h32 m (by rw [← HLN.out]; exact h3) (by omega) hcap2)
      have HT := hid (HTB.out.ups HBR.out); have HC := hid (HCB.out.ups HBR.out); have HKR := hid (HKB.out.ups HBR.out)
      clear hpx hlc hgl h32 HTB
      have e1 : m ≤ cap := by omega
      have hml : m ≤ (digs b).length := by rw [← HLN.out]; exact h3
      have HTL := hid (show ((digs b).take m).length = m by rw [List.length_take]; omega)
      have HML := hid hml
      clear hml
      go_upto_region 7 with (fail)
      go_cut [7, 8] from 22 to 28 (fun s7 s8 wx => ∃ (g7 g8 : Nat) (ua ub : List Value), s7 = .pointer (some ⟨g7, 0, none⟩) ∧ s8 = .pointer (some ⟨g8, 0, none⟩) ∧ Hid (IsD (tree ((digs b).take m)) ua) ∧ Hid (IsD (tagd leafS ld) ub) ∧ Hid (Cells wx ⟨g7, 0, none⟩ ua) ∧ Hid (Cells wx ⟨g8, 0, none⟩ ub) ∧ Hid (Below wr.heap.size wr wx))
      case first =>
        have HS := hid ((Below.refl wr.heap.size wr).drew)
        refine wa_start (S := fun W => Below wr.heap.size wr W) (by kernel_rfl) HS.out ?_
        refine wa_move 0 (some 22) (.tmp 5) (.slice (some ⟨gl, o, none⟩) len cap) rfl rfl rfl (by kernel_rfl) rfl rfl HS.out ?_
        simp only [Act.put, List.setIfInBounds_toArray, List.set_cons_zero, List.set_cons_succ]
        refine wa_move 1 (some 23) (.tmp 6) (.int .i64 m) rfl rfl rfl (by kernel_rfl) rfl rfl HS.out ?_
        simp only [Act.put, List.setIfInBounds_toArray, List.set_cons_zero, List.set_cons_succ]
        refine wa_tk 2 (some 24) (.slice (some ⟨gl, o, none⟩) m cap) rfl (by kernel_rfl) rfl rfl HS.out (fun w h0 => by go_simp) ?_
        simp only [Act.put, List.setIfInBounds_toArray, List.set_cons_zero, List.set_cons_succ]
        refine wa_load 4 (some 26) 26 (.tmp 3) rfl rfl gb 0 rfl ud _ (fun w h => (HC.out.ups h).range) hu rfl hi0 (by kernel_rfl) rfl rfl HS.out ?_
        simp only [Act.put, List.setIfInBounds_toArray, List.set_cons_zero, List.set_cons_succ]
        repeat' (first
        | exact ar_nil
        | (refine ar_op 3 rfl rfl (fun K hK => ?_) ?_; go_simp; go_at_call 15; refine (tree_any len _ _ _ (by rw [HTL.out]; omega) (HT.out.ups HS.out) (HKR.out.ups HS.out)).mono ?_; rintro e W3 ⟨ua, hda, rfl, hb⟩; have HS := hid (HS.out.trans (hb.mono HS.out.size)); (first | (have HR7 := hid (HR7.out.ups hb)) | skip); (first | (have HR8 := hid (HR8.out.ups hb)) | skip); (first | (have HO5 := hid (HO5.out.ups hb)) | skip); refine hK.out _ _ HS.out ?_; clear hK K; clear hb; try simp only [Act.put, List.setIfInBounds_toArray, List.set_cons_zero, List.set_cons_succ])
        | (refine ar_op 5 rfl rfl (fun K hK => ?_) ?_; refine st_one (some 27) rfl (.tmp 26) rfl ud ld rfl HD.out ?_; intro W5 g5 hda5 hb; have HS := hid (HS.out.trans (hb.mono HS.out.size)); (first | (have HR7 := hid (HR7.out.ups hb)) | skip); (first | (have HR8 := hid (HR8.out.ups hb)) | skip); have HO5 := hid (da_ds hda5); clear hda5; refine hK.out _ _ HS.out ?_; clear hK K; clear hb; try simp only [Act.put, List.setIfInBounds_toArray, List.set_cons_zero, List.set_cons_succ])
        | (refine ar_op 6 rfl rfl (fun K hK => ?_) ?_; go_simp; go_at_call 15; refine (tree_any 1 [ld] _ _ (by simp) HO5.out (HKR.out.ups HS.out)).mono ?_; rintro e W6 ⟨ub, hdb0, rfl, hb⟩; have HS := hid (HS.out.trans (hb.mono HS.out.size)); have hdb := hdb0; rw [tree_one] at hdb; clear hdb0; (first | (have HR7 := hid (HR7.out.ups hb)) | skip); (first | (have HR8 := hid (HR8.out.ups hb)) | skip); (first | (have HO5 := hid (HO5.out.ups hb)) | skip); refine hK.out _ _ HS.out ?_; clear hK K; clear hb; try simp only [Act.put, List.setIfInBounds_toArray, List.set_cons_zero, List.set_cons_succ])
        | (refine ar_op 7 rfl rfl (fun K hK => ?_) ?_; refine st_alloc (some 7) rfl rfl ?_; intro W7 g7 hg hr hb hs7; have HG7 := hid (show wr.heap.size ≤ g7 by rw [hg]; exact HS.out.size); (first | (have HNE := hid (show g7 ≠ g8 by have := HR8.out.2.2; omega)) | skip); have HS := hid (HS.out.trans (hb.mono HS.out.size)); (first | (have HR8 := hid (HR8.out.ups hb)) | skip); (first | (have HO5 := hid (HO5.out.ups hb)) | skip); have HR7 := hid hr; clear hg hr hs7; refine hK.out _ _ HS.out ?_; clear hK K; clear hb; try simp only [Act.put, List.setIfInBounds_toArray, List.set_cons_zero, List.set_cons_succ])
        | (refine ar_op 8 rfl rfl (fun K hK => ?_) ?_; refine st_alloc (some 8) rfl rfl ?_; intro W8 g8 hg hr hb hs8; have HG8 := hid (show wr.heap.size ≤ g8 by rw [hg]; exact HS.out.size); (first | (have HNE := hid (show g7 ≠ g8 by have := HR7.out.2.2; omega)) | skip); have HS := hid (HS.out.trans (hb.mono HS.out.size)); (first | (have HR7 := hid (HR7.out.ups hb)) | skip); (first | (have HO5 := hid (HO5.out.ups hb)) | skip); have HR8 := hid hr; clear hg hr hs8; refine hK.out _ _ HS.out ?_; clear hK K; clear hb; try simp only [Act.put, List.setIfInBounds_toArray, List.set_cons_zero, List.set_cons_succ])
        | (refine ar_op 9 rfl rfl (fun K hK => ?_) ?_; refine st_put none rfl (.tmp 7) (.tmp 25) rfl g7 ua _ rfl rfl HR7.out hda ?_; intro W9 hc9 hr9 ho9; have HS := hid (ho9.below HS.out HS.out.size HG7.out); have HR8 := hid (ho9.room HR8.out (Ne.symm HNE.out)); have HC7 := hid hc9; clear hc9 hr9 ho9; refine hK.out _ _ HS.out ?_; clear hK K; try simp only [Act.put, List.setIfInBounds_toArray, List.set_cons_zero, List.set_cons_succ])
        | (refine ar_op 10 rfl rfl (fun K hK => ?_) ?_; refine st_put none rfl (.tmp 8) (.tmp 28) rfl g8 ub _ rfl rfl HR8.out hdb ?_; intro wC hc10 hr10 ho10; have HS := hid (ho10.below HS.out HS.out.size HG8.out); have HC7 := hid (ho10.cells HC7.out HNE.out); have HC8 := hid hc10; clear hc10 hr10 ho10; refine hK.out _ _ HS.out ?_; clear hK K; try simp only [Act.put, List.setIfInBounds_toArray, List.set_cons_zero, List.set_cons_succ])
        | (refine wa_branch [3, 5, 7, 8] (by decide +kernel) rfl ?_)
        | (refine wa_branch [5, 7, 8] (by decide +kernel) rfl ?_)
        | (refine wa_branch [6, 7, 8] (by decide +kernel) rfl ?_)
        | (refine wa_branch [7, 8] (by decide +kernel) rfl ?_)
        | (refine wa_branch [8] (by decide +kernel) rfl ?_)
        | (refine wa_branch [9] (by decide +kernel) rfl ?_)
        | (refine wa_branch [10] (by decide +kernel) rfl ?_)
        | (refine wa_branch [7] (by decide +kernel) rfl ?_)
        | (refine wa_branch [6, 8] (by decide +kernel) rfl ?_)
        | (refine wa_branch [6] (by decide +kernel) rfl ?_)
        | (refine wa_branch [6, 7] (by decide +kernel) rfl ?_)
        | (refine wa_branch [5, 8] (by decide +kernel) rfl ?_)
        | (refine wa_branch [5] (by decide +kernel) rfl ?_)
        | (refine wa_branch [5, 7] (by decide +kernel) rfl ?_)
        | (refine wa_branch [3, 7, 8] (by decide +kernel) rfl ?_)
        | (refine wa_branch [3, 8] (by decide +kernel) rfl ?_)
        | (refine wa_branch [3] (by decide +kernel) rfl ?_)
        | (refine wa_branch [3, 7] (by decide +kernel) rfl ?_)
        | (refine wa_branch [3, 5, 8] (by decide +kernel) rfl ?_)
        | (refine wa_branch [3, 5] (by decide +kernel) rfl ?_)
        | (refine wa_branch [3, 5, 7] (by decide +kernel) rfl ?_)
        )
        all_goals
          refine wa_done (by kernel_rfl) ?_
          go_wp2_with fail
          go_meet
          case rel => exact ⟨g7, g8, ua, ub, rfl, rfl, hda, hdb, HC7, HC8, HS⟩
      case rest =>
        obtain ⟨g7, g8, ua, ub, rfl, rfl, HDA, HDB, HC7, HC8, HBC⟩ := hcut
        have HC := hid (HC.out.ups HBC.out); have HT := hid (HT.out.ups HBC.out); have HBR2 := hid (HBR.out.trans (HBC.out.mono HBR.out.size)); have HKC := hid (HKR.out.ups HBC.out)
        clear HBC HBR HKR
        go_upto_region 8 with (fail)
        go_cut [9] from 29 to 36 (fun s9 wx => Hid (DS wx s9 ((digs b).take m ++ [ld])) ∧ Hid (Cells wx ⟨g7, 0, none⟩ ua) ∧ Hid (Cells wx ⟨g8, 0, none⟩ ub) ∧ Hid (Below wc.heap.size wc wx))
        case first =>
          have HS := hid ((Below.refl wc.heap.size wc).drew)
          refine wa_start (S := fun W => Below wc.heap.size wc W) (by kernel_rfl) HS.out ?_
          refine wa_move 1 (some 30) (.tmp 5) (.slice (some ⟨gl, o, none⟩) len cap) rfl rfl rfl (by kernel_rfl) rfl rfl HS.out ?_
          simp only [Act.put, List.setIfInBounds_toArray, List.set_cons_zero, List.set_cons_succ]
          refine wa_move 2 (some 31) (.tmp 6) (.int .i64 m) rfl rfl rfl (by kernel_rfl) rfl rfl HS.out ?_
          simp only [Act.put, List.setIfInBounds_toArray, List.set_cons_zero, List.set_cons_succ]
          refine wa_tk 3 (some 32) (.slice (some ⟨gl, o, none⟩) m cap) rfl (by kernel_rfl) rfl rfl HS.out (fun w h0 => by go_simp) ?_
          simp only [Act.put, List.setIfInBounds_toArray, List.set_cons_zero, List.set_cons_succ]
          refine wa_load 5 (some 34) 26 (.tmp 3) rfl rfl gb 0 rfl ud _ (fun w h => (HC.out.ups h).range) hu rfl hi0 (by kernel_rfl) rfl rfl HS.out ?_
          simp only [Act.put, List.setIfInBounds_toArray, List.set_cons_zero, List.set_cons_succ]
          repeat' (first
          | exact ar_nil
          | (refine ar_op 0 rfl rfl (fun K hK => ?_) ?_; refine st_begin (some 29) rfl rfl ?_; intro W0 ad hb; have HS := hid (HS.out.trans (hb.mono HS.out.size)); (first | (have HO6 := hid (HO6.out.ups hb)) | skip); refine hK.out _ _ HS.out ?_; clear hK K; clear hb; try simp only [Act.put, List.setIfInBounds_toArray, List.set_cons_zero, List.set_cons_succ])
          | (refine ar_op 4 rfl rfl (fun K hK => ?_) ?_; refine st_first (some 33) rfl (.tmp 29) (.tmp 32) rfl rfl ad rfl ((digs b).take m) ((HT.out.da (by rw [HTL.out]; exact hm0)).ups HS.out) (by rw [HTL.out]; omega) ?_; intro v4 W4 lo hi hlo hhi hof hb; have HLO := hid (show wc.heap.size ≤ lo ∧ lo ≤ W4.heap.size from ⟨by rw [hlo]; exact HS.out.size, by rw [hlo]; exact hb.size⟩); have HS := hid (HS.out.trans (hb.mono HS.out.size)); (first | (have HO6 := hid (HO6.out.ups hb)) | skip); have HOF := hid hof; clear hlo hhi hof; refine hK.out _ _ HS.out ?_; clear hK K; clear hb; try simp only [Act.put, List.setIfInBounds_toArray, List.set_cons_zero, List.set_cons_succ])
          | (refine ar_op 6 rfl rfl (fun K hK => ?_) ?_; refine st_one (some 35) rfl (.tmp 34) rfl ud ld rfl HD.out ?_; intro W6 g6 hda6 hb; have HS := hid (HS.out.trans (hb.mono HS.out.size)); (first | (have HOF := hid (HOF.out.ups hb)) | skip); (first | (have HLO := hid (show wc.heap.size ≤ lo ∧ lo ≤ W6.heap.size from ⟨HLO.out.1, Nat.le_trans HLO.out.2 hb.size⟩)) | skip); have HO6 := hid hda6; clear hda6; refine hK.out _ _ HS.out ?_; clear hK K; clear hb; try simp only [Act.put, List.setIfInBounds_toArray, List.set_cons_zero, List.set_cons_succ])
          | (refine ar_op 7 rfl rfl (fun K hK => ?_) ?_; refine st_more (some 36) rfl (.tmp 33) (.tmp 35) rfl rfl lo hi ((digs b).take m) [ld] HOF.out HO6.out (by rw [HTL.out]; simp; omega) HLO.out.2 ?_; intro v7 W7 hoe hb _; have HS := hid (HS.out.trans (hb.mono HLO.out.1)); have HOE := hid hoe; clear hoe hb; refine hK.out _ _ HS.out ?_; clear hK K; try simp only [Act.put, List.setIfInBounds_toArray, List.set_cons_zero, List.set_cons_succ])
          | (refine wa_branch [0, 6] (by decide +kernel) rfl ?_)
          | (refine wa_branch [4, 6] (by decide +kernel) rfl ?_)
          | (refine wa_branch [6] (by decide +kernel) rfl ?_)
          | (refine wa_branch [7] (by decide +kernel) rfl ?_)
          | (refine wa_branch [4] (by decide +kernel) rfl ?_)
          | (refine wa_branch [0] (by decide +kernel) rfl ?_)
          | fail
          )
          all_goals
            refine wa_asg 8 (some 9) (.tmp 36) v7 rfl rfl rfl (by kernel_rfl) rfl rfl HS.out ?_
            simp only [Act.put, List.setIfInBounds_toArray, List.set_cons_zero, List.set_cons_succ]
            refine wa_done (by kernel_rfl) ?_
            go_wp2_with fail
            go_meet
            case rel => exact ⟨hid HOE.out.ds, hid (HC7.out.ups HS.out), hid (HC8.out.ups HS.out), HS⟩
        case rest =>
          obtain ⟨HDS, HC7, HC8, HBX⟩ := hcut
          have HBR := hid (HBR2.out.trans (HBX.out.mono HBR2.out.size)); have HKX := hid (HKC.out.ups HBX.out)
          clear HBX HBR2 HT HKC HC
          obtain ⟨p9, cap9, hv9, _, _⟩ := HDS.out.form
          have HXL := hid (show ((digs b).take m ++ [ld]).length = m + 1 by rw [List.length_append, HTL.out]; rfl)
          rw [HXL.out] at hv9
          subst hv9
          go_wp2_with fail
          refine (Path_ok ((digs b).take m ++ [ld]) _ m _ (by rw [HXL.out]; omega) HDS.out HKX.out).mono ?_
          rintro e wP ⟨vp, rfl, hod, hb⟩
          rw [path_next (digs b) ld j m HM.out HML.out] at hod
          obtain ⟨gp, capp, rfl, _, hgp, hcp, hcp2, hcc⟩ := od_pos hod (by simp)
          have hcd := cells_elem hcc hod.1 (k := 0) (d := tree ((digs b).take m)) rfl
          have HPC := hid hcd.1; have HPD := hid hcd.2
          have HC7 := hid (HC7.out.ups hb); have HC8 := hid (HC8.out.ups hb); have HDS := hid (HDS.out.ups hb); have HBR := hid (HBR.out.trans (hb.mono HBR.out.size)); have HKX := hid (HKX.out.ups hb)
          clear hod hgp hcp hcp2 hcc hcd hb
          have HPC2 : Hid (Cells wP ⟨gp, 0, none⟩ ((tree ((digs b).take m)).map vb)) := by have h := HPC.out; simp only [Nat.zero_mul, Nat.add_zero] at h; exact h
          clear HPC
          obtain ⟨upp, hupp⟩ : ∃ u, u = (tree ((digs b).take m)).map vb := ⟨_, rfl⟩
          rw [← hupp] at HPC2 HPD
          clear hupp
          have hl7 := info26 HDA.out.len'
          have hlp := info26 HPD.out.len'
          have HGL := hid (show g7 < wP.heap.size ∧ g8 < wP.heap.size from ⟨HC7.out.lt (by intro h; have := HDA.out.len'; rw [h] at this; simp at this), HC8.out.lt (by intro h; have := HDB.out.len'; rw [h] at this; simp at this)⟩)
          go_upto_region 10 with (fail)
          have HS := hid ((Below.refl wP.heap.size wP).drew)
          refine wa_start (S := fun W => Below wP.heap.size wP W) (by kernel_rfl) HS.out ?_
          refine wa_move 0 (some 43) (.tmp 9) (.slice p9 (m + 1) cap9) rfl rfl rfl (by kernel_rfl) rfl rfl HS.out ?_
          simp only [Act.put, List.setIfInBounds_toArray, List.set_cons_zero, List.set_cons_succ]
          refine wa_tk 3 (some 46) (.slice (some ⟨g7, 0, none⟩) 32 32) rfl (by kernel_rfl) rfl rfl HS.out (fun w _ => by go_simp) ?_
          simp only [Act.put, List.setIfInBounds_toArray, List.set_cons_zero, List.set_cons_succ]
          refine wa_tk 5 (some 48) (.slice (some ⟨g8, 0, none⟩) 32 32) rfl (by kernel_rfl) rfl rfl HS.out (fun w _ => by go_simp) ?_
          simp only [Act.put, List.setIfInBounds_toArray, List.set_cons_zero, List.set_cons_succ]
          repeat' (first
          | exact ar_nil
          | (refine ar_op 1 rfl rfl (fun K hK => ?_) ?_; go_simp; go_at_call 15; refine (tree_any (m + 1) _ _ _ (by rw [HXL.out]; omega) (HDS.out.ups HS.out) (HKX.out.ups HS.out)).mono ?_; rintro e W1 ⟨ue, hde, rfl, hb⟩; have HS := hid (HS.out.trans (hb.mono HS.out.size)); refine hK.out _ _ HS.out ?_; clear hK K; clear hb; try simp only [Act.put, List.setIfInBounds_toArray, List.set_cons_zero, List.set_cons_succ])
          | (refine ar_op 2 rfl rfl (fun K hK => ?_) ?_; refine st_beginb (some 45) rfl rfl ?_; intro W2 ad hb; have HS := hid (HS.out.trans (hb.mono HS.out.size)); refine hK.out _ _ HS.out ?_; clear hK K; clear hb; try simp only [Act.put, List.setIfInBounds_toArray, List.set_cons_zero, List.set_cons_succ])
          | (refine ar_op 4 rfl rfl (fun K hK => ?_) ?_; refine st_ob (some 47) rfl (.tmp 45) (.tmp 46) rfl rfl wP.heap.size [] _ (.inr ⟨rfl, _, rfl⟩) (HDA.out.bs (HC7.out.ups HS.out) (Nat.lt_of_lt_of_le HGL.out.1 HS.out.size)) (by rw [tree_l]; simp) HS.out.size ?_; intro v4 W4 ho hb; have HS := hid (HS.out.trans hb); have HO := hid ho; clear ho hb; refine hK.out _ _ HS.out ?_; clear hK K; try simp only [Act.put, List.setIfInBounds_toArray, List.set_cons_zero, List.set_cons_succ])
          | (refine ar_op 6 rfl rfl (fun K hK => ?_) ?_; refine st_ob (some 49) rfl (.tmp 47) (.tmp 48) rfl rfl wP.heap.size _ _ HO.out (HDB.out.bs (HC8.out.ups HS.out) (Nat.lt_of_lt_of_le HGL.out.2 HS.out.size)) (by rw [List.nil_append, tree_l, leaf_l]; simp) HS.out.size ?_; intro v6 W6 ho hb; have HS := hid (HS.out.trans hb); clear HO; have HO := hid ho; clear ho hb; refine hK.out _ _ HS.out ?_; clear hK K; try simp only [Act.put, List.setIfInBounds_toArray, List.set_cons_zero, List.set_cons_succ])
          | (refine ar_op 7 rfl rfl (fun K hK => ?_) ?_; go_simp; go_at_call 12; refine (Tagged_any ⟨#[110, 111, 100, 101]⟩ _ (tree ((digs b).take m) ++ tagd leafS ld) _ (by have h := HO.out.bs (by rw [List.length_append, List.length_append, tree_l, leaf_l]; simp); rwa [List.nil_append] at h) (HKX.out.ups HS.out) (by decide) (by rw [List.length_append, tree_l, leaf_l]; omega)).mono ?_; rintro e W7 ⟨ux, hdx, rfl, hb⟩; have HS := hid (HS.out.trans (hb.mono HS.out.size)); refine hK.out _ _ HS.out ?_; clear hK K; clear hb; try simp only [Act.put, List.setIfInBounds_toArray, List.set_cons_zero, List.set_cons_succ])
          | (refine wa_branch [1, 2] (by decide +kernel) rfl ?_)
          | (refine wa_branch [1] (by decide +kernel) rfl ?_)
          | (refine wa_branch [2] (by decide +kernel) rfl ?_)
          | (refine wa_branch [4] (by decide +kernel) rfl ?_)
          | (refine wa_branch [6] (by decide +kernel) rfl ?_)
          | (refine wa_branch [7] (by decide +kernel) rfl ?_)
          | fail
          )
          all_goals
            have hq := eqD_true hde hdx (tree_next (digs b) ld j m HM.out HML.out)
            have hq2 := eqD_true HPD.out HDA.out rfl
            refine wa_tk 8 (some 51) (.bool false) rfl (by kernel_rfl) rfl rfl HS.out (fun w _ => by go_simp) ?_
            simp only [Act.put, List.setIfInBounds_toArray, List.set_cons_zero, List.set_cons_succ]
            refine wa_move 9 (some 52) (.tmp 51) (.bool false) rfl rfl rfl (by kernel_rfl) rfl rfl HS.out ?_
            simp only [Act.put, List.setIfInBounds_toArray, List.set_cons_zero, List.set_cons_succ]
            refine wa_tkw 10 (some 53) (.int .i64 0) rfl (by kernel_rfl) rfl rfl HS.out (fun w _ => by go_simp) ?_
            simp only [Act.put, List.setIfInBounds_toArray, List.set_cons_zero, List.set_cons_succ]
            refine wa_tkw 11 (some 54) (.bool false) rfl (by kernel_rfl) rfl rfl HS.out (fun w _ => by go_simp) ?_
            simp only [Act.put, List.setIfInBounds_toArray, List.set_cons_zero, List.set_cons_succ]
            refine wa_tk 12 (some 55) (.bool false) rfl (by kernel_rfl) rfl rfl HS.out (fun w _ => by go_simp) ?_
            simp only [Act.put, List.setIfInBounds_toArray, List.set_cons_zero, List.set_cons_succ]
            refine wa_move 13 (some 56) (.tmp 55) (.bool false) rfl rfl rfl (by kernel_rfl) rfl rfl HS.out ?_
            simp only [Act.put, List.setIfInBounds_toArray, List.set_cons_zero, List.set_cons_succ]
            refine wa_tkw 14 (some 57) (.slice (some ⟨gp, 0, none⟩) 1 capp) rfl (by kernel_rfl) rfl rfl HS.out (fun w _ => by go_simp) ?_
            simp only [Act.put, List.setIfInBounds_toArray, List.set_cons_zero, List.set_cons_succ]
            refine wa_tkw 15 (some 58) (.int .i64 1) rfl (by kernel_rfl) rfl rfl HS.out (fun w _ => by go_simp) ?_
            simp only [Act.put, List.setIfInBounds_toArray, List.set_cons_zero, List.set_cons_succ]
            refine wa_tkw 16 (some 59) (.bool false) rfl (by kernel_rfl) rfl rfl HS.out (fun w _ => by go_simp) ?_
            simp only [Act.put, List.setIfInBounds_toArray, List.set_cons_zero, List.set_cons_succ]
            refine wa_tk 17 (some 60) (.bool false) rfl (by kernel_rfl) rfl rfl HS.out (fun w _ => by go_simp) ?_
            simp only [Act.put, List.setIfInBounds_toArray, List.set_cons_zero, List.set_cons_succ]
            refine wa_move 18 (some 61) (.tmp 60) (.bool false) rfl rfl rfl (by kernel_rfl) rfl rfl HS.out ?_
            simp only [Act.put, List.setIfInBounds_toArray, List.set_cons_zero, List.set_cons_succ]
            refine wa_tkw 19 (some 62) (.slice (some ⟨gp, 0, none⟩) 1 capp) rfl (by kernel_rfl) rfl rfl HS.out (fun w _ => by go_simp) ?_
            simp only [Act.put, List.setIfInBounds_toArray, List.set_cons_zero, List.set_cons_succ]
            refine wa_tkw 20 (some 63) (.pointer (some ⟨gp, 0, none⟩)) rfl (by kernel_rfl) rfl rfl HS.out (fun w _ => by go_simp) ?_
            simp only [Act.put, List.setIfInBounds_toArray, List.set_cons_zero, List.set_cons_succ]
            refine wa_loadw 21 (some 64) 26 (.tmp 63) rfl rfl gp 0 rfl upp _ (fun w h => (HPC2.out.ups h).range) hu rfl hlp (by kernel_rfl) rfl rfl HS.out ?_
            simp only [Act.put, List.setIfInBounds_toArray, List.set_cons_zero, List.set_cons_succ]
            refine wa_loadw 22 (some 65) 26 (.tmp 7) rfl rfl g7 0 rfl ua _ (fun w h => (HC7.out.ups h).range) hu rfl hl7 (by kernel_rfl) rfl rfl HS.out ?_
            simp only [Act.put, List.setIfInBounds_toArray, List.set_cons_zero, List.set_cons_succ]
            refine wa_tkw 23 (some 66) (.bool false) rfl (by kernel_rfl) rfl rfl HS.out (fun w _ => by go_simp) ?_
            simp only [Act.put, List.setIfInBounds_toArray, List.set_cons_zero, List.set_cons_succ]
            refine wa_tk 24 (some 67) (.bool false) rfl (by kernel_rfl) rfl rfl HS.out (fun w _ => by go_simp) ?_
            simp only [Act.put, List.setIfInBounds_toArray, List.set_cons_zero, List.set_cons_succ]
            refine wa_done (by kernel_rfl) ?_
            clear hq hq2
            go_wp2
            go_roundw
            case rel => exact ⟨j + 1, 2 * m, by go_num, hid (by rw [HM.out, Nat.pow_succ]; omega), by omega, by omega, hid (HBR.out.trans (HS.out.mono HBR.out.size))⟩
            case measure => simp [intOf]; omega
    · go_wp2
      go_ret
      exact ⟨rfl, HBB.out.trans (HBR.out.mono HBB.out.size)⟩
end Go.Proofs.YtilnecckgjjcgaaDoor.Dg

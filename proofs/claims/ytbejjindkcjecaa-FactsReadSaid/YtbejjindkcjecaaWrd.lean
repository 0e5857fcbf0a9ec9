/- The law Read, walked. -/
import Derived.Test.YtbejjindkcjecaaRd7
namespace Go.Proofs.Ytbejjindkcjecaa
open Go.RowKit Go
set_option linter.unusedVariables false
set_option linter.unusedSimpArgs false
set_option maxRecDepth 20000
abbrev RV (r : RD) : Value := .agg #[.int .i64 r.1.1, .int .i64 r.1.2.1, .int .i64 r.1.2.2, .int .i64 r.2.1, .int .i64 r.2.2]
set_option maxRecDepth 100000 in
set_option maxHeartbeats 8000000 in
theorem read_law (v : Value) (L : List FA) (r : RD) (q q' : Int) (w : World) (hv : FS w v L) (hf : ∀ f ∈ L, fwf f) (hr : kwf r.1) :
    Calls Try.prog 9 #[v, RV r, .int .i64 q, .int .i64 q'] w fun e w' => e = .returned (.bool true) ∧ Below w.heap.size w w' := by
  obtain ⟨Z, hZ⟩ : ∃ Z, Z = w.alloc (.cells #[.int .i64 r.1.1, .int .i64 r.1.2.1, .int .i64 r.1.2.2, .int .i64 r.2.1, .int .i64 r.2.2] 54) := ⟨_, rfl⟩
  have hzb : Below w.heap.size w Z := by rw [hZ]; exact (Below.refl _ w).alloc (Nat.le_refl _) _
  have hzk : Blk Z w.heap.size 54 (rc r) := by rw [hZ]; exact Blk.new w 54 (rc r)
  obtain ⟨B1, hB1⟩ : ∃ B1, B1 = w.heap.size := ⟨_, rfl⟩
  have hfz := hv.ups hzb
  obtain ⟨pv, cv, hpv⟩ := hv.form
  obtain ⟨n, hn⟩ : ∃ n, n = L.length := ⟨_, rfl⟩
  rw [← hn] at hpv
  subst hpv
  have HFS := hid (fun (W : World) (hW : Below Z.heap.size Z W) => hfz.ups hW)
  have HKB := hid (fun (W : World) (hW : Below Z.heap.size Z W) => show Blk W B1 54 (rc r) by rw [hB1]; exact hzk.below hW hzk.lt)
  have HZB := hid hzb; have HN := hid hn; have HWF := hid hf; have HWR := hid hr
  have hm := hv.len
  rw [← hn] at hm
  unfold maxLen at hm
  have HT := hid (Below.refl Z.heap.size Z)
  clear hv hzb hzk hfz hn hf hr
  go_enter Try.func9, Try.ntmps9
  go_upto_region 1 with fail
  rw [← hB1, ← hZ]
  clear hZ hB1
  go_wp2_with fail
  refine (sane_any Z).mono ?_
  rintro e wn ⟨rfl, hb⟩
  have HT := hid (below_t HT.out hb)
  clear hb
  have HB := hid (below_t HZB.out HT.out)
  by_cases h10 : 10 < n
  · have h10' : (10 : Int) < (n : Int) := by omega
    go_wp2_with fail
    go_ret
    exact ⟨rfl, HB.out⟩
  have h10' : ¬ ((10 : Int) < (n : Int)) := by omega
  have HN10 := hid (show L.length ≤ 10 by have := HN.out; omega)
  go_wp2_with fail
  refine (changed_any _ L q q' _ (HFS.out _ HT.out) (by have := HN10.out; omega) (fwf_wk HWF.out)).mono ?_
  rintro e wn ⟨u9, rfl, hcs, hb⟩
  have HT := hid (below_t HT.out hb)
  obtain ⟨c1, g1, e1, s1⟩ := hcs.cg
  obtain ⟨cs, hcs1⟩ : ∃ cs, cs = F7.changes q q' L := ⟨_, rfl⟩
  rw [← hcs1] at e1 s1
  have HCS := hid hcs1
  obtain ⟨p1, cc1, rfl⟩ := g1.form
  have hr1 : GR cc 4 p1 wn.heap.size c1 wn := g1.gr 4 cc_len (by omega)
  have hm1 := g1.len
  unfold maxLen at hm1
  rw [e1] at hm1 ⊢
  obtain ⟨nc, hnc⟩ : ∃ n, n = cs.length := ⟨_, rfl⟩
  rw [← hnc] at hm1 ⊢
  have HNC := hid hnc
  obtain ⟨Wl, hWl⟩ : ∃ x, x = wn := ⟨_, rfl⟩
  rw [← hWl] at HT hr1 s1 ⊢
  have HR1 := hid (fun (W : World) (hW : Below Wl.heap.size Wl W) => hr1.up hW)
  have HE1 := hid e1; have HS1 := hid s1
  clear hcs hb g1 hr1 hnc e1 s1 HB h10 h10' hcs1 hWl
  go_wp2_with fail
  go_loopw [11, 10] (fun i u wr => ∃ n : Nat, n ≤ nc ∧ i = .int .i64 n ∧ u = .bool (hits r (cs.take n)) ∧ Hid (Below Wl.heap.size Wl wr)) (fun i _ _ => nc - (intOf i).toNat)
  case atStart => exact ⟨0, by omega, rfl, rfl, hid (Below.refl _ _)⟩
  case round =>
    obtain ⟨i, hi, rfl, rfl, hbl⟩ := hrel
    by_cases hlt : i < nc
    · obtain ⟨y1, hy1⟩ := get_lt (l := cs) (i := i) (by rw [← HNC.out]; exact hlt)
      obtain ⟨x1, hx1⟩ := get_lt (l := c1) (i := i) (by rw [HE1.out, ← HNC.out]; exact hlt)
      obtain ⟨hk1, hp1⟩ := HS1.out i x1 y1 hx1 hy1
      obtain ⟨⟨ka, kb, kc1⟩, a1, m1, b1⟩ := x1
      obtain ⟨kk, ss⟩ := y1
      simp only at hk1 hp1
      subst hk1
      have hmem : ((ka, kb, kc1), ss) ∈ F7.changes q q' L := by rw [← HCS.out]; exact List.mem_of_getElem? hy1
      have HDF := hid (fun j s (hj : ss[j]? = some s) => dif_at hmem hj)
      have HTS := hid (take_snoc hy1)
      have hpc1 := hp1.cap
      have hpl1 := hp1.len
      unfold maxLen at hpl1
      rw [← hpc1.1] at hpl1
      have hp0 : PR a1 Wl.heap.size ss Wl := hp1.gr 2 pc_len (by omega)
      have HP1 := hid (fun (W : World) (hW : Below Wl.heap.size Wl W) => hp0.up hW)
      have HM1 := hid hpc1.1
      have HC1 := hid (fun (W : World) (hW : Below Wl.heap.size Wl W) => (HR1.out W hW).at4 hx1)
      obtain ⟨bb, o, rfl, hb, x0, x1, x2, x3⟩ := HC1.out wr hbl.out
      obtain ⟨hc, hhc⟩ : ∃ hc, hc = hits r (cs.take i) := ⟨_, rfl⟩
      rw [← hhc]
      have HHC := hid hhc
      clear hx1 hp1 hp0 hpc1 hb hy1 hmem hhc
      have HLT := hid (show ¬ ((nc : Int) ≤ (i : Int)) by omega)
      obtain ⟨Wo, hWo⟩ : ∃ x, x = wr := ⟨_, rfl⟩
      rw [← hWo] at hbl x0 x1 x2 x3 ⊢
      clear hWo x0 x1 x2 x3
      go_wp2_with fail
      go_loopw [12, 10] (fun j u wr => ∃ n : Nat, n ≤ m1 ∧ j = .int .i64 n ∧ u = .bool (hc || (ss.take n).any (hitS r (ka, kb, kc1))) ∧ Hid (Below Wl.heap.size Wl wr)) (fun j _ _ => m1 - (intOf j).toNat)
      case atStart => exact ⟨0, by omega, rfl, by simp, hbl⟩
      case round =>
        obtain ⟨j, hj, rfl, rfl, hbl2⟩ := hrel
        obtain ⟨_, _, hbe, hb, x0, x1, x2, x3⟩ := HC1.out wr hbl2.out
        cases hbe
        clear hb
        by_cases hlt2 : j < m1
        · obtain ⟨s, hs⟩ := get_lt (l := ss) (i := j) (by rw [← HM1.out]; exact hlt2)
          obtain ⟨b, o2, rfl, hb, f0, f1⟩ := (HP1.out wr hbl2.out).at2 hs
          obtain ⟨d0, d1, d2, d3, d4⟩ := HDF.out j s hs
          clear hb
          obtain ⟨t1, ht1⟩ : ∃ x, x = F7.val (ka, kb, kc1) s.1 q L := ⟨_, rfl⟩
          obtain ⟨t2, ht2⟩ : ∃ x, x = F7.val (ka, kb, kc1) s.1 q' L := ⟨_, rfl⟩
          have V1 := hid (fun (W : World) (hW : Below Wl.heap.size Wl W) => at_any (.slice pv n cv) L (ka, kb, kc1) s.1 q W (HFS.out W (below_t HT.out hW)) (fwf_wf HWF.out))
          have V2 := hid (fun (W : World) (hW : Below Wl.heap.size Wl W) => at_any (.slice pv n cv) L (ka, kb, kc1) s.1 q' W (HFS.out W (below_t HT.out hW)) (fwf_wf HWF.out))
          rw [← ht1] at V1 d3
          rw [← ht2] at V2 d3
          have D0 := hid (show ¬ (s.1 < 0) by omega); have D1 := hid (show ¬ (s.2 ≤ s.1) by omega); have D2 := hid (show ¬ (1024 < s.2) by omega)
          have D3 := hid (show ((t1.2 == t2.2) && (t1.1 == t2.1)) = false by
            cases e : ((t1.2 == t2.2) && (t1.1 == t2.1)) with
            | false => rfl
            | true => simp at e; exact absurd (Prod.ext e.2 e.1) d3)
          have HTK := hid (take_snoc hs)
          have D3N := hid d3
          have HS3 := hid (show Below Wl.heap.size Wl (wr.alloc (.cells #[.int .i64 s.1, .int .i64 s.2] 26)) ∧ Blk (wr.alloc (.cells #[.int .i64 s.1, .int .i64 s.2] 26)) wr.heap.size 26 (pc s) from ⟨hbl2.out.alloc hbl2.out.size _, Blk.new wr 26 (pc s)⟩)
          obtain ⟨hh, hhh⟩ : ∃ x, x = (hc || (ss.take j).any (hitS r (ka, kb, kc1))) := ⟨_, rfl⟩
          rw [← hhh]
          have HHH := hid hhh
          obtain ⟨B13, hB13⟩ : ∃ x, x = wr.heap.size := ⟨_, rfl⟩
          obtain ⟨wx, hwx⟩ : ∃ x, x = wr.alloc (.cells #[.int .i64 s.1, .int .i64 s.2] 26) := ⟨_, rfl⟩
          clear ht1 ht2 d0 d1 d2 d3 hhh
          by_cases hj0 : j = 0
          · have HJN := hid hj0
            have HJ1 := hid (show j + 1 ≤ m1 by omega)
            clear hj0
            go_upto_region 14 with fail
            rw [← hwx, ← hB13] at HS3 ⊢
            clear hwx hB13 x0 x1 x2 x3 f0 f1 d4 hs hlt2 hbl2
            have HS3 := hid (show Below Wl.heap.size Wl wx.drew ∧ Blk wx.drew B13 26 (pc s) from ⟨HS3.out.1.drew, HS3.out.2.below (show Below wx.heap.size wx wx.drew from (Below.refl _ wx).drew) HS3.out.2.lt⟩)
            refine wa_start (S := fun W => Below Wl.heap.size Wl W ∧ Blk W B13 26 (pc s)) (by kernel_rfl) HS3.out ?_
            obtain ⟨wy, hwy⟩ : ∃ x, x = wx.drew := ⟨_, rfl⟩
            rw [← hwy] at HS3 ⊢
            clear hwy
            refine wa_tk 0 (some 51) (.pointer (some ⟨B13, 0, none⟩)) rfl (by kernel_rfl) rfl rfl HS3.out (fun w h0 => by go_simp) ?_
            try simp only [Act.put, List.setIfInBounds_toArray, List.set_cons_zero, List.set_cons_succ]
            refine wa_tk 1 (some 52) (.int .i64 s.1) rfl (by kernel_rfl) rfl rfl HS3.out (fun w h0 => by have c0 : w.cell? ⟨B13, 0, none⟩ = some (.int .i64 s.1) := h0.2.cell 0 _ rfl; go_simp) ?_
            try simp only [Act.put, List.setIfInBounds_toArray, List.set_cons_zero, List.set_cons_succ]
            refine wa_tk 2 (some 53) (.pointer (some ⟨B13, 1, none⟩)) rfl (by kernel_rfl) rfl rfl HS3.out (fun w h0 => by go_simp) ?_
            try simp only [Act.put, List.setIfInBounds_toArray, List.set_cons_zero, List.set_cons_succ]
            refine wa_tk 3 (some 54) (.int .i64 s.2) rfl (by kernel_rfl) rfl rfl HS3.out (fun w h0 => by have c1 : w.cell? ⟨B13, 1, none⟩ = some (.int .i64 s.2) := h0.2.cell 1 _ rfl; go_simp) ?_
            try simp only [Act.put, List.setIfInBounds_toArray, List.set_cons_zero, List.set_cons_succ]
            refine wa_tk 4 (some 55) (.bool false) rfl (by kernel_rfl) rfl rfl HS3.out (fun w h0 => by have d1 := D1.out; go_simp) ?_
            try simp only [Act.put, List.setIfInBounds_toArray, List.set_cons_zero, List.set_cons_succ]
            refine wa_tk 5 (some 56) (.bool false) rfl (by kernel_rfl) rfl rfl HS3.out (fun w h0 => by go_simp) ?_
            try simp only [Act.put, List.setIfInBounds_toArray, List.set_cons_zero, List.set_cons_succ]
            refine wa_tkg 6 (some 57) (.pointer (some ⟨B13, 0, none⟩)) rfl (by kernel_rfl) rfl rfl HS3.out (fun w h0 => by go_simp) ?_
            try simp only [Act.put, List.setIfInBounds_toArray, List.set_cons_zero, List.set_cons_succ]
            refine wa_tkg 7 (some 58) (.int .i64 s.1) rfl (by kernel_rfl) rfl rfl HS3.out (fun w h0 => by have c0 : w.cell? ⟨B13, 0, none⟩ = some (.int .i64 s.1) := h0.2.cell 0 _ rfl; go_simp) ?_
            try simp only [Act.put, List.setIfInBounds_toArray, List.set_cons_zero, List.set_cons_succ]
            refine wa_tkg 8 (some 59) (.bool false) rfl (by kernel_rfl) rfl rfl HS3.out (fun w h0 => by have d0 := D0.out; go_simp) ?_
            try simp only [Act.put, List.setIfInBounds_toArray, List.set_cons_zero, List.set_cons_succ]
            refine wa_tk 9 (some 60) (.bool false) rfl (by kernel_rfl) rfl rfl HS3.out (fun w h0 => by go_simp) ?_
            try simp only [Act.put, List.setIfInBounds_toArray, List.set_cons_zero, List.set_cons_succ]
            refine wa_tk 10 (some 61) (.bool false) rfl (by kernel_rfl) rfl rfl HS3.out (fun w h0 => by go_simp) ?_
            try simp only [Act.put, List.setIfInBounds_toArray, List.set_cons_zero, List.set_cons_succ]
            refine wa_tkg 11 (some 62) (.pointer (some ⟨B13, 1, none⟩)) rfl (by kernel_rfl) rfl rfl HS3.out (fun w h0 => by go_simp) ?_
            try simp only [Act.put, List.setIfInBounds_toArray, List.set_cons_zero, List.set_cons_succ]
            refine wa_tkg 12 (some 63) (.int .i64 s.2) rfl (by kernel_rfl) rfl rfl HS3.out (fun w h0 => by have c1 : w.cell? ⟨B13, 1, none⟩ = some (.int .i64 s.2) := h0.2.cell 1 _ rfl; go_simp) ?_
            try simp only [Act.put, List.setIfInBounds_toArray, List.set_cons_zero, List.set_cons_succ]
            refine wa_tkg 13 (some 64) (.bool false) rfl (by kernel_rfl) rfl rfl HS3.out (fun w h0 => by have d2 := D2.out; go_simp) ?_
            try simp only [Act.put, List.setIfInBounds_toArray, List.set_cons_zero, List.set_cons_succ]
            refine wa_tk 14 (some 65) (.bool false) rfl (by kernel_rfl) rfl rfl HS3.out (fun w h0 => by go_simp) ?_
            try simp only [Act.put, List.setIfInBounds_toArray, List.set_cons_zero, List.set_cons_succ]
            refine wa_tk 15 (some 66) (.bool false) rfl (by kernel_rfl) rfl rfl HS3.out (fun w h0 => by go_simp) ?_
            try simp only [Act.put, List.setIfInBounds_toArray, List.set_cons_zero, List.set_cons_succ]
            refine wa_tkg 16 (some 67) (.int .i64 (j : Int)) rfl (by kernel_rfl) rfl rfl HS3.out (fun w h0 => by go_simp) ?_
            try simp only [Act.put, List.setIfInBounds_toArray, List.set_cons_zero, List.set_cons_succ]
            refine wa_tkg 17 (some 68) (.bool false) rfl (by kernel_rfl) rfl rfl HS3.out (fun w h0 => by have hjn := HJN.out; go_simp) ?_
            try simp only [Act.put, List.setIfInBounds_toArray, List.set_cons_zero, List.set_cons_succ]
            refine wa_tkg 18 (some 69) (.bool false) rfl (by kernel_rfl) rfl rfl HS3.out (fun w h0 => by go_simp) ?_
            try simp only [Act.put, List.setIfInBounds_toArray, List.set_cons_zero, List.set_cons_succ]
            refine wa_skg 19 (some 70) rfl (by kernel_rfl) rfl rfl HS3.out ?_
            try simp only [Act.put, List.setIfInBounds_toArray, List.set_cons_zero, List.set_cons_succ]
            refine wa_skg 20 (some 71) rfl (by kernel_rfl) rfl rfl HS3.out ?_
            try simp only [Act.put, List.setIfInBounds_toArray, List.set_cons_zero, List.set_cons_succ]
            refine wa_skg 21 (some 72) rfl (by kernel_rfl) rfl rfl HS3.out ?_
            try simp only [Act.put, List.setIfInBounds_toArray, List.set_cons_zero, List.set_cons_succ]
            refine wa_skg 22 (some 73) rfl (by kernel_rfl) rfl rfl HS3.out ?_
            try simp only [Act.put, List.setIfInBounds_toArray, List.set_cons_zero, List.set_cons_succ]
            refine wa_skg 23 (some 74) rfl (by kernel_rfl) rfl rfl HS3.out ?_
            try simp only [Act.put, List.setIfInBounds_toArray, List.set_cons_zero, List.set_cons_succ]
            refine wa_skg 24 (some 75) rfl (by kernel_rfl) rfl rfl HS3.out ?_
            try simp only [Act.put, List.setIfInBounds_toArray, List.set_cons_zero, List.set_cons_succ]
            refine wa_skg 25 (some 76) rfl (by kernel_rfl) rfl rfl HS3.out ?_
            try simp only [Act.put, List.setIfInBounds_toArray, List.set_cons_zero, List.set_cons_succ]
            refine wa_skg 26 (some 77) rfl (by kernel_rfl) rfl rfl HS3.out ?_
            try simp only [Act.put, List.setIfInBounds_toArray, List.set_cons_zero, List.set_cons_succ]
            refine wa_skg 27 (some 78) rfl (by kernel_rfl) rfl rfl HS3.out ?_
            try simp only [Act.put, List.setIfInBounds_toArray, List.set_cons_zero, List.set_cons_succ]
            refine wa_skg 28 (some 79) rfl (by kernel_rfl) rfl rfl HS3.out ?_
            try simp only [Act.put, List.setIfInBounds_toArray, List.set_cons_zero, List.set_cons_succ]
            refine wa_skg 29 (some 80) rfl (by kernel_rfl) rfl rfl HS3.out ?_
            try simp only [Act.put, List.setIfInBounds_toArray, List.set_cons_zero, List.set_cons_succ]
            refine wa_skg 30 (some 81) rfl (by kernel_rfl) rfl rfl HS3.out ?_
            try simp only [Act.put, List.setIfInBounds_toArray, List.set_cons_zero, List.set_cons_succ]
            refine wa_skg 31 (some 82) rfl (by kernel_rfl) rfl rfl HS3.out ?_
            try simp only [Act.put, List.setIfInBounds_toArray, List.set_cons_zero, List.set_cons_succ]
            refine wa_tkg 32 (some 83) (.bool false) rfl (by kernel_rfl) rfl rfl HS3.out (fun w h0 => by go_simp) ?_
            try simp only [Act.put, List.setIfInBounds_toArray, List.set_cons_zero, List.set_cons_succ]
            refine wa_tk 33 (some 84) (.bool false) rfl (by kernel_rfl) rfl rfl HS3.out (fun w h0 => by go_simp) ?_
            try simp only [Act.put, List.setIfInBounds_toArray, List.set_cons_zero, List.set_cons_succ]
            refine wa_done (by decide +kernel) ?_
            obtain ⟨wx, hwx⟩ : ∃ x, x = wy := ⟨_, rfl⟩
            rw [← hwx] at HS3 ⊢
            clear hwx
            go_upto_region 16 with fail
            have HS3 := hid (show Below Wl.heap.size Wl wx.drew ∧ Blk wx.drew B13 26 (pc s) from ⟨HS3.out.1.drew, HS3.out.2.below (show Below wx.heap.size wx wx.drew from (Below.refl _ wx).drew) HS3.out.2.lt⟩)
            refine wa_start (S := fun W => Below Wl.heap.size Wl W ∧ Blk W B13 26 (pc s)) (by kernel_rfl) HS3.out ?_
            obtain ⟨wy, hwy⟩ : ∃ x, x = wx.drew := ⟨_, rfl⟩
            rw [← hwy] at HS3 ⊢
            clear hwy
            refine wa_tk 0 (some 86) (.slice pv n cv) rfl (by kernel_rfl) rfl rfl HS3.out (fun w h0 => by go_simp) ?_
            try simp only [Act.put, List.setIfInBounds_toArray, List.set_cons_zero, List.set_cons_succ]
            refine wa_tk 1 (some 87) (.slice (some ⟨bb, o, none⟩) nc cc1) rfl (by kernel_rfl) rfl rfl HS3.out (fun w h0 => by go_simp) ?_
            try simp only [Act.put, List.setIfInBounds_toArray, List.set_cons_zero, List.set_cons_succ]
            refine wa_tk 2 (some 88) (.int .i64 (i : Int)) rfl (by kernel_rfl) rfl rfl HS3.out (fun w h0 => by go_simp) ?_
            try simp only [Act.put, List.setIfInBounds_toArray, List.set_cons_zero, List.set_cons_succ]
            refine wa_tk 3 (some 89) (.pointer (some ⟨bb, o + i * 4, none⟩)) rfl (by kernel_rfl) rfl rfl HS3.out (fun w h0 => by have hlt := HLT.out; go_simp) ?_
            try simp only [Act.put, List.setIfInBounds_toArray, List.set_cons_zero, List.set_cons_succ]
            refine wa_tk 4 (some 90) (.pointer (some ⟨bb, o + i * 4, none⟩)) rfl (by kernel_rfl) rfl rfl HS3.out (fun w h0 => by go_simp) ?_
            try simp only [Act.put, List.setIfInBounds_toArray, List.set_cons_zero, List.set_cons_succ]
            refine wa_tk 5 (some 91) (.agg #[.int .i64 ka, .int .i64 kb, .int .i64 kc1]) rfl (by kernel_rfl) rfl rfl HS3.out (fun w h0 => by obtain ⟨_, _, hbe, hbk, y0, y1, y2, y3⟩ := HC1.out _ h0.1; cases hbe; go_simp) ?_
            try simp only [Act.put, List.setIfInBounds_toArray, List.set_cons_zero, List.set_cons_succ]
            refine wa_tk 6 (some 92) (.pointer (some ⟨B13, 0, none⟩)) rfl (by kernel_rfl) rfl rfl HS3.out (fun w h0 => by go_simp) ?_
            try simp only [Act.put, List.setIfInBounds_toArray, List.set_cons_zero, List.set_cons_succ]
            refine wa_tk 7 (some 93) (.int .i64 s.1) rfl (by kernel_rfl) rfl rfl HS3.out (fun w h0 => by have c0 : w.cell? ⟨B13, 0, none⟩ = some (.int .i64 s.1) := h0.2.cell 0 _ rfl; go_simp) ?_
            try simp only [Act.put, List.setIfInBounds_toArray, List.set_cons_zero, List.set_cons_succ]
            refine wa_tk 8 (some 94) (.int .i64 q) rfl (by kernel_rfl) rfl rfl HS3.out (fun w h0 => by go_simp) ?_
            try simp only [Act.put, List.setIfInBounds_toArray, List.set_cons_zero, List.set_cons_succ]
            refine wa_branch [9] (by decide +kernel) rfl ?_
            refine ar_op 9 rfl rfl (fun K hK => ?_) ar_nil
            unfold Oper.wp
            go_simp
            go_at_call 18
            refine (V1.out _ HS3.out.1).mono ?_
            rintro e wz ⟨rfl, hb⟩
            have HS3 := hid (show Below Wl.heap.size Wl wz ∧ Blk wz B13 26 (pc s) from ⟨below_t HS3.out.1 hb, HS3.out.2.below hb HS3.out.2.lt⟩)
            clear hb
            go_simp
            refine hK.out _ _ HS3.out ?_
            clear hK K
            try simp only [Act.put, List.setIfInBounds_toArray, List.set_cons_zero, List.set_cons_succ]
            refine wa_tk 10 (some 85) (.tuple #[.int .i64 t1.1, .bool t1.2]) rfl (by kernel_rfl) rfl rfl HS3.out (fun w h0 => by go_simp) ?_
            try simp only [Act.put, List.setIfInBounds_toArray, List.set_cons_zero, List.set_cons_succ]
            refine wa_tk 11 (some 96) (.int .i64 t1.1) rfl (by kernel_rfl) rfl rfl HS3.out (fun w h0 => by go_simp) ?_
            try simp only [Act.put, List.setIfInBounds_toArray, List.set_cons_zero, List.set_cons_succ]
            refine wa_tk 12 (some 97) (.bool t1.2) rfl (by kernel_rfl) rfl rfl HS3.out (fun w h0 => by go_simp) ?_
            try simp only [Act.put, List.setIfInBounds_toArray, List.set_cons_zero, List.set_cons_succ]
            refine wa_tk 13 (some 14) (.int .i64 t1.1) rfl (by kernel_rfl) rfl rfl HS3.out (fun w h0 => by go_simp) ?_
            try simp only [Act.put, List.setIfInBounds_toArray, List.set_cons_zero, List.set_cons_succ]
            refine wa_tk 14 (some 15) (.bool t1.2) rfl (by kernel_rfl) rfl rfl HS3.out (fun w h0 => by go_simp) ?_
            try simp only [Act.put, List.setIfInBounds_toArray, List.set_cons_zero, List.set_cons_succ]
            refine wa_done (by decide +kernel) ?_
            obtain ⟨wx, hwx⟩ : ∃ x, x = wz := ⟨_, rfl⟩
            rw [← hwx] at HS3 ⊢
            clear hwx
            go_upto_region 17 with fail
            have HS3 := hid (show Below Wl.heap.size Wl wx.drew ∧ Blk wx.drew B13 26 (pc s) from ⟨HS3.out.1.drew, HS3.out.2.below (show Below wx.heap.size wx wx.drew from (Below.refl _ wx).drew) HS3.out.2.lt⟩)
            refine wa_start (S := fun W => Below Wl.heap.size Wl W ∧ Blk W B13 26 (pc s)) (by kernel_rfl) HS3.out ?_
            obtain ⟨wy, hwy⟩ : ∃ x, x = wx.drew := ⟨_, rfl⟩
            rw [← hwy] at HS3 ⊢
            clear hwy
            refine wa_tk 0 (some 99) (.slice pv n cv) rfl (by kernel_rfl) rfl rfl HS3.out (fun w h0 => by go_simp) ?_
            try simp only [Act.put, List.setIfInBounds_toArray, List.set_cons_zero, List.set_cons_succ]
            refine wa_tk 1 (some 100) (.slice (some ⟨bb, o, none⟩) nc cc1) rfl (by kernel_rfl) rfl rfl HS3.out (fun w h0 => by go_simp) ?_
            try simp only [Act.put, List.setIfInBounds_toArray, List.set_cons_zero, List.set_cons_succ]
            refine wa_tk 2 (some 101) (.int .i64 (i : Int)) rfl (by kernel_rfl) rfl rfl HS3.out (fun w h0 => by go_simp) ?_
            try simp only [Act.put, List.setIfInBounds_toArray, List.set_cons_zero, List.set_cons_succ]
            refine wa_tk 3 (some 102) (.pointer (some ⟨bb, o + i * 4, none⟩)) rfl (by kernel_rfl) rfl rfl HS3.out (fun w h0 => by have hlt := HLT.out; go_simp) ?_
            try simp only [Act.put, List.setIfInBounds_toArray, List.set_cons_zero, List.set_cons_succ]
            refine wa_tk 4 (some 103) (.pointer (some ⟨bb, o + i * 4, none⟩)) rfl (by kernel_rfl) rfl rfl HS3.out (fun w h0 => by go_simp) ?_
            try simp only [Act.put, List.setIfInBounds_toArray, List.set_cons_zero, List.set_cons_succ]
            refine wa_tk 5 (some 104) (.agg #[.int .i64 ka, .int .i64 kb, .int .i64 kc1]) rfl (by kernel_rfl) rfl rfl HS3.out (fun w h0 => by obtain ⟨_, _, hbe, hbk, y0, y1, y2, y3⟩ := HC1.out _ h0.1; cases hbe; go_simp) ?_
            try simp only [Act.put, List.setIfInBounds_toArray, List.set_cons_zero, List.set_cons_succ]
            refine wa_tk 6 (some 105) (.pointer (some ⟨B13, 0, none⟩)) rfl (by kernel_rfl) rfl rfl HS3.out (fun w h0 => by go_simp) ?_
            try simp only [Act.put, List.setIfInBounds_toArray, List.set_cons_zero, List.set_cons_succ]
            refine wa_tk 7 (some 106) (.int .i64 s.1) rfl (by kernel_rfl) rfl rfl HS3.out (fun w h0 => by have c0 : w.cell? ⟨B13, 0, none⟩ = some (.int .i64 s.1) := h0.2.cell 0 _ rfl; go_simp) ?_
            try simp only [Act.put, List.setIfInBounds_toArray, List.set_cons_zero, List.set_cons_succ]
            refine wa_tk 8 (some 107) (.int .i64 q') rfl (by kernel_rfl) rfl rfl HS3.out (fun w h0 => by go_simp) ?_
            try simp only [Act.put, List.setIfInBounds_toArray, List.set_cons_zero, List.set_cons_succ]
            refine wa_branch [9] (by decide +kernel) rfl ?_
            refine ar_op 9 rfl rfl (fun K hK => ?_) ar_nil
            unfold Oper.wp
            go_simp
            go_at_call 18
            refine (V2.out _ HS3.out.1).mono ?_
            rintro e wz ⟨rfl, hb⟩
            have HS3 := hid (show Below Wl.heap.size Wl wz ∧ Blk wz B13 26 (pc s) from ⟨below_t HS3.out.1 hb, HS3.out.2.below hb HS3.out.2.lt⟩)
            clear hb
            go_simp
            refine hK.out _ _ HS3.out ?_
            clear hK K
            try simp only [Act.put, List.setIfInBounds_toArray, List.set_cons_zero, List.set_cons_succ]
            refine wa_tk 10 (some 98) (.tuple #[.int .i64 t2.1, .bool t2.2]) rfl (by kernel_rfl) rfl rfl HS3.out (fun w h0 => by go_simp) ?_
            try simp only [Act.put, List.setIfInBounds_toArray, List.set_cons_zero, List.set_cons_succ]
            refine wa_tk 11 (some 109) (.int .i64 t2.1) rfl (by kernel_rfl) rfl rfl HS3.out (fun w h0 => by go_simp) ?_
            try simp only [Act.put, List.setIfInBounds_toArray, List.set_cons_zero, List.set_cons_succ]
            refine wa_tk 12 (some 110) (.bool t2.2) rfl (by kernel_rfl) rfl rfl HS3.out (fun w h0 => by go_simp) ?_
            try simp only [Act.put, List.setIfInBounds_toArray, List.set_cons_zero, List.set_cons_succ]
            refine wa_tk 13 (some 16) (.int .i64 t2.1) rfl (by kernel_rfl) rfl rfl HS3.out (fun w h0 => by go_simp) ?_
            try simp only [Act.put, List.setIfInBounds_toArray, List.set_cons_zero, List.set_cons_succ]
            refine wa_tk 14 (some 17) (.bool t2.2) rfl (by kernel_rfl) rfl rfl HS3.out (fun w h0 => by go_simp) ?_
            try simp only [Act.put, List.setIfInBounds_toArray, List.set_cons_zero, List.set_cons_succ]
            refine wa_done (by decide +kernel) ?_
            obtain ⟨wx, hwx⟩ : ∃ x, x = wz := ⟨_, rfl⟩
            rw [← hwx] at HS3 ⊢
            clear hwx
            clear V1 V2
            by_cases hbb : t1.2 = t2.2
            · have hxx : ¬ (t1.1 = t2.1) := fun e => D3N.out (Prod.ext e hbb)
              go_upto_region 20 with fail
              clear D0 D1 D2
              have h1 := HKB.out _ (below_t HT.out HS3.out.1)
              have r0 := h1.cell 0 _ rfl; have r1 := h1.cell 1 _ rfl; have r2 := h1.cell 2 _ rfl; have r3 := h1.cell 3 _ rfl; have r4 := h1.cell 4 _ rfl
              obtain ⟨_, _, hbe, hbk, y0, y1, y2, y3⟩ := HC1.out _ HS3.out.1
              cases hbe
              clear hbk y3 h1
              have c0 := HS3.out.2.cell 0 _ rfl; have c1 := HS3.out.2.cell 1 _ rfl
              have hpe := fun w => key_eq (ka, kb, kc1) r.1 w
              have hg24 : Try.prog.eqGuardType Try.prog.depth 24 = false := by kernel_rfl
              have hlt := HLT.out
              by_cases hkk : (ka, kb, kc1) = r.1
              · rw [decide_eq_true hkk] at hpe
                by_cases hmx : max r.2.1 s.1 < min r.2.2 s.2
                · have HV := hid (show Value.bool true = Value.bool (hc || (ss.take (j + 1)).any (hitS r (ka, kb, kc1))) by rw [HTK.out, List.any_append, ← Bool.or_assoc, ← HHH.out]; simp [hitS, hkk, hmx])
                  go_quiet (fail)
                  have HB5 := hid (below_t HS3.out.1 (below_drewN nq))
                  clear r0 r1 r2 r3 r4 y0 y1 y2 c0 c1 hpe hg24 HS3 hlt
                  have hj1 := HJ1.out
                  go_wp2
                  go_roundw
                  case rel => exact ⟨j + 1, HJ1.out, by go_num, HV.out, HB5⟩
                  case measure => simp [intOf]; omega
                · have HV := hid (show Value.bool hh = Value.bool (hc || (ss.take (j + 1)).any (hitS r (ka, kb, kc1))) by rw [HTK.out, List.any_append, ← Bool.or_assoc, ← HHH.out]; simp [hitS, hkk, hmx])
                  go_quiet (fail)
                  have HB5 := hid (below_t HS3.out.1 (below_drewN nq))
                  clear r0 r1 r2 r3 r4 y0 y1 y2 c0 c1 hpe hg24 HS3 hlt
                  have hj1 := HJ1.out
                  go_wp2
                  go_roundw
                  case rel => exact ⟨j + 1, HJ1.out, by go_num, HV.out, HB5⟩
                  case measure => simp [intOf]; omega
              · rw [decide_eq_false hkk] at hpe
                have HV := hid (show Value.bool hh = Value.bool (hc || (ss.take (j + 1)).any (hitS r (ka, kb, kc1))) by rw [HTK.out, List.any_append, ← Bool.or_assoc, ← HHH.out]; simp [hitS, hkk])
                go_quiet (fail)
                have HB5 := hid (below_t HS3.out.1 (below_drewN nq))
                clear r0 r1 r2 r3 r4 y0 y1 y2 c0 c1 hpe hg24 HS3 hlt
                have hj1 := HJ1.out
                go_wp2
                go_roundw
                case rel => exact ⟨j + 1, HJ1.out, by go_num, HV.out, HB5⟩
                case measure => simp [intOf]; omega
            · go_upto_region 20 with fail
              clear D0 D1 D2
              have h1 := HKB.out _ (below_t HT.out HS3.out.1)
              have r0 := h1.cell 0 _ rfl; have r1 := h1.cell 1 _ rfl; have r2 := h1.cell 2 _ rfl; have r3 := h1.cell 3 _ rfl; have r4 := h1.cell 4 _ rfl
              obtain ⟨_, _, hbe, hbk, y0, y1, y2, y3⟩ := HC1.out _ HS3.out.1
              cases hbe
              clear hbk y3 h1
              have c0 := HS3.out.2.cell 0 _ rfl; have c1 := HS3.out.2.cell 1 _ rfl
              have hpe := fun w => key_eq (ka, kb, kc1) r.1 w
              have hg24 : Try.prog.eqGuardType Try.prog.depth 24 = false := by kernel_rfl
              have hlt := HLT.out
              by_cases hkk : (ka, kb, kc1) = r.1
              · rw [decide_eq_true hkk] at hpe
                by_cases hmx : max r.2.1 s.1 < min r.2.2 s.2
                · have HV := hid (show Value.bool true = Value.bool (hc || (ss.take (j + 1)).any (hitS r (ka, kb, kc1))) by rw [HTK.out, List.any_append, ← Bool.or_assoc, ← HHH.out]; simp [hitS, hkk, hmx])
                  go_quiet (fail)
                  have HB5 := hid (below_t HS3.out.1 (below_drewN nq))
                  clear r0 r1 r2 r3 r4 y0 y1 y2 c0 c1 hpe hg24 HS3 hlt
                  have hj1 := HJ1.out
                  go_wp2
                  go_roundw
                  case rel => exact ⟨j + 1, HJ1.out, by go_num, HV.out, HB5⟩
                  case measure => simp [intOf]; omega
                · have HV := hid (show Value.bool hh = Value.bool (hc || (ss.take (j + 1)).any (hitS r (ka, kb, kc1))) by rw [HTK.out, List.any_append, ← Bool.or_assoc, ← HHH.out]; simp [hitS, hkk, hmx])
                  go_quiet (fail)
                  have HB5 := hid (below_t HS3.out.1 (below_drewN nq))
                  clear r0 r1 r2 r3 r4 y0 y1 y2 c0 c1 hpe hg24 HS3 hlt
                  have hj1 := HJ1.out
                  go_wp2
                  go_roundw
                  case rel => exact ⟨j + 1, HJ1.out, by go_num, HV.out, HB5⟩
                  case measure => simp [intOf]; omega
              · rw [decide_eq_false hkk] at hpe
                have HV := hid (show Value.bool hh = Value.bool (hc || (ss.take (j + 1)).any (hitS r (ka, kb, kc1))) by rw [HTK.out, List.any_append, ← Bool.or_assoc, ← HHH.out]; simp [hitS, hkk])
                go_quiet (fail)
                have HB5 := hid (below_t HS3.out.1 (below_drewN nq))
                clear r0 r1 r2 r3 r4 y0 y1 y2 c0 c1 hpe hg24 HS3 hlt
                have hj1 := HJ1.out
                go_wp2
                go_roundw
                case rel => exact ⟨j + 1, HJ1.out, by go_num, HV.out, HB5⟩
                case measure => simp [intOf]; omega
          · obtain ⟨jj, rfl⟩ : ∃ jj, j = jj + 1 := ⟨j - 1, by omega⟩
            obtain ⟨u0, hu0⟩ := get_lt (l := ss) (i := jj) (by rw [← HM1.out]; omega)
            have D4 := hid (show ¬ (s.1 ≤ u0.2) by have := d4 jj u0 rfl hu0; omega)
            have HU0 := hid hu0
            have HJ1 := hid (show (jj + 1) + 1 ≤ m1 by omega)
            have HJP := hid (show (0 : Int) < (jj : Int) + 1 by omega)
            have HJW := hid (show IntKind.i64.wrap (jj : Int) = (jj : Int) from IntWalk.i64_in _ (by omega))
            have HJL := hid (show ¬ ((m1 : Int) ≤ (jj : Int)) ∧ ¬ (m1 ≤ jj) from ⟨by omega, by omega⟩)
            go_upto_region 14 with fail
            rw [← hwx, ← hB13] at HS3 ⊢
            clear hwx hB13 x0 x1 x2 x3 f0 f1 d4 hs hu0 hlt2 hbl2 hj0
            have HS3 := hid (show Below Wl.heap.size Wl wx.drew ∧ Blk wx.drew B13 26 (pc s) from ⟨HS3.out.1.drew, HS3.out.2.below (show Below wx.heap.size wx wx.drew from (Below.refl _ wx).drew) HS3.out.2.lt⟩)
            refine wa_start (S := fun W => Below Wl.heap.size Wl W ∧ Blk W B13 26 (pc s)) (by kernel_rfl) HS3.out ?_
            obtain ⟨wy, hwy⟩ : ∃ x, x = wx.drew := ⟨_, rfl⟩
            rw [← hwy] at HS3 ⊢
            clear hwy
            refine wa_tk 0 (some 51) (.pointer (some ⟨B13, 0, none⟩)) rfl (by kernel_rfl) rfl rfl HS3.out (fun w h0 => by go_simp) ?_
            try simp only [Act.put, List.setIfInBounds_toArray, List.set_cons_zero, List.set_cons_succ]
            refine wa_tk 1 (some 52) (.int .i64 s.1) rfl (by kernel_rfl) rfl rfl HS3.out (fun w h0 => by have c0 : w.cell? ⟨B13, 0, none⟩ = some (.int .i64 s.1) := h0.2.cell 0 _ rfl; go_simp) ?_
            try simp only [Act.put, List.setIfInBounds_toArray, List.set_cons_zero, List.set_cons_succ]
            refine wa_tk 2 (some 53) (.pointer (some ⟨B13, 1, none⟩)) rfl (by kernel_rfl) rfl rfl HS3.out (fun w h0 => by go_simp) ?_
            try simp only [Act.put, List.setIfInBounds_toArray, List.set_cons_zero, List.set_cons_succ]
            refine wa_tk 3 (some 54) (.int .i64 s.2) rfl (by kernel_rfl) rfl rfl HS3.out (fun w h0 => by have c1 : w.cell? ⟨B13, 1, none⟩ = some (.int .i64 s.2) := h0.2.cell 1 _ rfl; go_simp) ?_
            try simp only [Act.put, List.setIfInBounds_toArray, List.set_cons_zero, List.set_cons_succ]
            refine wa_tk 4 (some 55) (.bool false) rfl (by kernel_rfl) rfl rfl HS3.out (fun w h0 => by have d1 := D1.out; go_simp) ?_
            try simp only [Act.put, List.setIfInBounds_toArray, List.set_cons_zero, List.set_cons_succ]
            refine wa_tk 5 (some 56) (.bool false) rfl (by kernel_rfl) rfl rfl HS3.out (fun w h0 => by go_simp) ?_
            try simp only [Act.put, List.setIfInBounds_toArray, List.set_cons_zero, List.set_cons_succ]
            refine wa_tkg 6 (some 57) (.pointer (some ⟨B13, 0, none⟩)) rfl (by kernel_rfl) rfl rfl HS3.out (fun w h0 => by go_simp) ?_
            try simp only [Act.put, List.setIfInBounds_toArray, List.set_cons_zero, List.set_cons_succ]
            refine wa_tkg 7 (some 58) (.int .i64 s.1) rfl (by kernel_rfl) rfl rfl HS3.out (fun w h0 => by have c0 : w.cell? ⟨B13, 0, none⟩ = some (.int .i64 s.1) := h0.2.cell 0 _ rfl; go_simp) ?_
            try simp only [Act.put, List.setIfInBounds_toArray, List.set_cons_zero, List.set_cons_succ]
            refine wa_tkg 8 (some 59) (.bool false) rfl (by kernel_rfl) rfl rfl HS3.out (fun w h0 => by have d0 := D0.out; go_simp) ?_
            try simp only [Act.put, List.setIfInBounds_toArray, List.set_cons_zero, List.set_cons_succ]
            refine wa_tk 9 (some 60) (.bool false) rfl (by kernel_rfl) rfl rfl HS3.out (fun w h0 => by go_simp) ?_
            try simp only [Act.put, List.setIfInBounds_toArray, List.set_cons_zero, List.set_cons_succ]
            refine wa_tk 10 (some 61) (.bool false) rfl (by kernel_rfl) rfl rfl HS3.out (fun w h0 => by go_simp) ?_
            try simp only [Act.put, List.setIfInBounds_toArray, List.set_cons_zero, List.set_cons_succ]
            refine wa_tkg 11 (some 62) (.pointer (some ⟨B13, 1, none⟩)) rfl (by kernel_rfl) rfl rfl HS3.out (fun w h0 => by go_simp) ?_
            try simp only [Act.put, List.setIfInBounds_toArray, List.set_cons_zero, List.set_cons_succ]
            refine wa_tkg 12 (some 63) (.int .i64 s.2) rfl (by kernel_rfl) rfl rfl HS3.out (fun w h0 => by have c1 : w.cell? ⟨B13, 1, none⟩ = some (.int .i64 s.2) := h0.2.cell 1 _ rfl; go_simp) ?_
            try simp only [Act.put, List.setIfInBounds_toArray, List.set_cons_zero, List.set_cons_succ]
            refine wa_tkg 13 (some 64) (.bool false) rfl (by kernel_rfl) rfl rfl HS3.out (fun w h0 => by have d2 := D2.out; go_simp) ?_
            try simp only [Act.put, List.setIfInBounds_toArray, List.set_cons_zero, List.set_cons_succ]
            refine wa_tk 14 (some 65) (.bool false) rfl (by kernel_rfl) rfl rfl HS3.out (fun w h0 => by go_simp) ?_
            try simp only [Act.put, List.setIfInBounds_toArray, List.set_cons_zero, List.set_cons_succ]
            refine wa_tk 15 (some 66) (.bool false) rfl (by kernel_rfl) rfl rfl HS3.out (fun w h0 => by go_simp) ?_
            try simp only [Act.put, List.setIfInBounds_toArray, List.set_cons_zero, List.set_cons_succ]
            refine wa_tkg 16 (some 67) (.int .i64 ((jj : Int) + 1)) rfl (by kernel_rfl) rfl rfl HS3.out (fun w h0 => by go_simp) ?_
            try simp only [Act.put, List.setIfInBounds_toArray, List.set_cons_zero, List.set_cons_succ]
            refine wa_tkg 17 (some 68) (.bool true) rfl (by kernel_rfl) rfl rfl HS3.out (fun w h0 => by have hjp := HJP.out; go_simp) ?_
            try simp only [Act.put, List.setIfInBounds_toArray, List.set_cons_zero, List.set_cons_succ]
            refine wa_tkg 18 (some 69) (.bool true) rfl (by kernel_rfl) rfl rfl HS3.out (fun w h0 => by go_simp) ?_
            try simp only [Act.put, List.setIfInBounds_toArray, List.set_cons_zero, List.set_cons_succ]
            refine wa_tkg 19 (some 70) (.slice (some ⟨bb, o, none⟩) nc cc1) rfl (by kernel_rfl) rfl rfl HS3.out (fun w h0 => by go_simp) ?_
            try simp only [Act.put, List.setIfInBounds_toArray, List.set_cons_zero, List.set_cons_succ]
            refine wa_tkg 20 (some 71) (.int .i64 (i : Int)) rfl (by kernel_rfl) rfl rfl HS3.out (fun w h0 => by go_simp) ?_
            try simp only [Act.put, List.setIfInBounds_toArray, List.set_cons_zero, List.set_cons_succ]
            refine wa_tkg 21 (some 72) (.pointer (some ⟨bb, o + i * 4, none⟩)) rfl (by kernel_rfl) rfl rfl HS3.out (fun w h0 => by have hlt := HLT.out; go_simp) ?_
            try simp only [Act.put, List.setIfInBounds_toArray, List.set_cons_zero, List.set_cons_succ]
            refine wa_tkg 22 (some 73) (.pointer (some ⟨bb, o + i * 4 + 3, none⟩)) rfl (by kernel_rfl) rfl rfl HS3.out (fun w h0 => by go_simp) ?_
            try simp only [Act.put, List.setIfInBounds_toArray, List.set_cons_zero, List.set_cons_succ]
            refine wa_tkg 23 (some 74) (.slice (some ⟨b, o2, none⟩) m1 b1) rfl (by kernel_rfl) rfl rfl HS3.out (fun w h0 => by obtain ⟨_, _, hbe, hbk, y0, y1, y2, y3⟩ := HC1.out _ h0.1; cases hbe; go_simp) ?_
            try simp only [Act.put, List.setIfInBounds_toArray, List.set_cons_zero, List.set_cons_succ]
            refine wa_tkg 24 (some 75) (.int .i64 ((jj : Int) + 1)) rfl (by kernel_rfl) rfl rfl HS3.out (fun w h0 => by go_simp) ?_
            try simp only [Act.put, List.setIfInBounds_toArray, List.set_cons_zero, List.set_cons_succ]
            refine wa_tkg 25 (some 76) (.int .i64 (jj : Int)) rfl (by kernel_rfl) rfl rfl HS3.out (fun w h0 => by have hjw := HJW.out; go_simp) ?_
            try simp only [Act.put, List.setIfInBounds_toArray, List.set_cons_zero, List.set_cons_succ]
            refine wa_tkg 26 (some 77) (.pointer (some ⟨b, o2 + jj * 2, none⟩)) rfl (by kernel_rfl) rfl rfl HS3.out (fun w h0 => by obtain ⟨hjl, hjl2⟩ := HJL.out; go_simp) ?_
            try simp only [Act.put, List.setIfInBounds_toArray, List.set_cons_zero, List.set_cons_succ]
            refine wa_tkg 27 (some 78) (.pointer (some ⟨b, o2 + jj * 2 + 1, none⟩)) rfl (by kernel_rfl) rfl rfl HS3.out (fun w h0 => by go_simp) ?_
            try simp only [Act.put, List.setIfInBounds_toArray, List.set_cons_zero, List.set_cons_succ]
            refine wa_tkg 28 (some 79) (.int .i64 u0.2) rfl (by kernel_rfl) rfl rfl HS3.out (fun w h0 => by obtain ⟨_, _, hbe, hb, g0, g1⟩ := (HP1.out _ h0.1).at2 HU0.out; cases hbe; go_simp) ?_
            try simp only [Act.put, List.setIfInBounds_toArray, List.set_cons_zero, List.set_cons_succ]
            refine wa_tkg 29 (some 80) (.pointer (some ⟨B13, 0, none⟩)) rfl (by kernel_rfl) rfl rfl HS3.out (fun w h0 => by go_simp) ?_
            try simp only [Act.put, List.setIfInBounds_toArray, List.set_cons_zero, List.set_cons_succ]
            refine wa_tkg 30 (some 81) (.int .i64 s.1) rfl (by kernel_rfl) rfl rfl HS3.out (fun w h0 => by have c0 : w.cell? ⟨B13, 0, none⟩ = some (.int .i64 s.1) := h0.2.cell 0 _ rfl; go_simp) ?_
            try simp only [Act.put, List.setIfInBounds_toArray, List.set_cons_zero, List.set_cons_succ]
            refine wa_tkg 31 (some 82) (.bool false) rfl (by kernel_rfl) rfl rfl HS3.out (fun w h0 => by have d4 := D4.out; go_simp) ?_
            try simp only [Act.put, List.setIfInBounds_toArray, List.set_cons_zero, List.set_cons_succ]
            refine wa_tkg 32 (some 83) (.bool false) rfl (by kernel_rfl) rfl rfl HS3.out (fun w h0 => by go_simp) ?_
            try simp only [Act.put, List.setIfInBounds_toArray, List.set_cons_zero, List.set_cons_succ]
            refine wa_tk 33 (some 84) (.bool false) rfl (by kernel_rfl) rfl rfl HS3.out (fun w h0 => by go_simp) ?_
            try simp only [Act.put, List.setIfInBounds_toArray, List.set_cons_zero, List.set_cons_succ]
            refine wa_done (by decide +kernel) ?_
            obtain ⟨wx, hwx⟩ : ∃ x, x = wy := ⟨_, rfl⟩
            rw [← hwx] at HS3 ⊢
            clear hwx
            go_upto_region 16 with fail
            have HS3 := hid (show Below Wl.heap.size Wl wx.drew ∧ Blk wx.drew B13 26 (pc s) from ⟨HS3.out.1.drew, HS3.out.2.below (show Below wx.heap.size wx wx.drew from (Below.refl _ wx).drew) HS3.out.2.lt⟩)
            refine wa_start (S := fun W => Below Wl.heap.size Wl W ∧ Blk W B13 26 (pc s)) (by kernel_rfl) HS3.out ?_
            obtain ⟨wy, hwy⟩ : ∃ x, x = wx.drew := ⟨_, rfl⟩
            rw [← hwy] at HS3 ⊢
            clear hwy
            refine wa_tk 0 (some 86) (.slice pv n cv) rfl (by kernel_rfl) rfl rfl HS3.out (fun w h0 => by go_simp) ?_
            try simp only [Act.put, List.setIfInBounds_toArray, List.set_cons_zero, List.set_cons_succ]
            refine wa_tk 1 (some 87) (.slice (some ⟨bb, o, none⟩) nc cc1) rfl (by kernel_rfl) rfl rfl HS3.out (fun w h0 => by go_simp) ?_
            try simp only [Act.put, List.setIfInBounds_toArray, List.set_cons_zero, List.set_cons_succ]
            refine wa_tk 2 (some 88) (.int .i64 (i : Int)) rfl (by kernel_rfl) rfl rfl HS3.out (fun w h0 => by go_simp) ?_
            try simp only [Act.put, List.setIfInBounds_toArray, List.set_cons_zero, List.set_cons_succ]
            refine wa_tk 3 (some 89) (.pointer (some ⟨bb, o + i * 4, none⟩)) rfl (by kernel_rfl) rfl rfl HS3.out (fun w h0 => by have hlt := HLT.out; go_simp) ?_
            try simp only [Act.put, List.setIfInBounds_toArray, List.set_cons_zero, List.set_cons_succ]
            refine wa_tk 4 (some 90) (.pointer (some ⟨bb, o + i * 4, none⟩)) rfl (by kernel_rfl) rfl rfl HS3.out (fun w h0 => by go_simp) ?_
            try simp only [Act.put, List.setIfInBounds_toArray, List.set_cons_zero, List.set_cons_succ]
            refine wa_tk 5 (some 91) (.agg #[.int .i64 ka, .int .i64 kb, .int .i64 kc1]) rfl (by kernel_rfl) rfl rfl HS3.out (fun w h0 => by obtain ⟨_, _, hbe, hbk, y0, y1, y2, y3⟩ := HC1.out _ h0.1; cases hbe; go_simp) ?_
            try simp only [Act.put, List.setIfInBounds_toArray, List.set_cons_zero, List.set_cons_succ]
            refine wa_tk 6 (some 92) (.pointer (some ⟨B13, 0, none⟩)) rfl (by kernel_rfl) rfl rfl HS3.out (fun w h0 => by go_simp) ?_
            try simp only [Act.put, List.setIfInBounds_toArray, List.set_cons_zero, List.set_cons_succ]
            refine wa_tk 7 (some 93) (.int .i64 s.1) rfl (by kernel_rfl) rfl rfl HS3.out (fun w h0 => by have c0 : w.cell? ⟨B13, 0, none⟩ = some (.int .i64 s.1) := h0.2.cell 0 _ rfl; go_simp) ?_
            try simp only [Act.put, List.setIfInBounds_toArray, List.set_cons_zero, List.set_cons_succ]
            refine wa_tk 8 (some 94) (.int .i64 q) rfl (by kernel_rfl) rfl rfl HS3.out (fun w h0 => by go_simp) ?_
            try simp only [Act.put, List.setIfInBounds_toArray, List.set_cons_zero, List.set_cons_succ]
            refine wa_branch [9] (by decide +kernel) rfl ?_
            refine ar_op 9 rfl rfl (fun K hK => ?_) ar_nil
            unfold Oper.wp
            go_simp
            go_at_call 18
            refine (V1.out _ HS3.out.1).mono ?_
            rintro e wz ⟨rfl, hb⟩
            have HS3 := hid (show Below Wl.heap.size Wl wz ∧ Blk wz B13 26 (pc s) from ⟨below_t HS3.out.1 hb, HS3.out.2.below hb HS3.out.2.lt⟩)
            clear hb
            go_simp
            refine hK.out _ _ HS3.out ?_
            clear hK K
            try simp only [Act.put, List.setIfInBounds_toArray, List.set_cons_zero, List.set_cons_succ]
            refine wa_tk 10 (some 85) (.tuple #[.int .i64 t1.1, .bool t1.2]) rfl (by kernel_rfl) rfl rfl HS3.out (fun w h0 => by go_simp) ?_
            try simp only [Act.put, List.setIfInBounds_toArray, List.set_cons_zero, List.set_cons_succ]
            refine wa_tk 11 (some 96) (.int .i64 t1.1) rfl (by kernel_rfl) rfl rfl HS3.out (fun w h0 => by go_simp) ?_
            try simp only [Act.put, List.setIfInBounds_toArray, List.set_cons_zero, List.set_cons_succ]
            refine wa_tk 12 (some 97) (.bool t1.2) rfl (by kernel_rfl) rfl rfl HS3.out (fun w h0 => by go_simp) ?_
            try simp only [Act.put, List.setIfInBounds_toArray, List.set_cons_zero, List.set_cons_succ]
            refine wa_tk 13 (some 14) (.int .i64 t1.1) rfl (by kernel_rfl) rfl rfl HS3.out (fun w h0 => by go_simp) ?_
            try simp only [Act.put, List.setIfInBounds_toArray, List.set_cons_zero, List.set_cons_succ]
            refine wa_tk 14 (some 15) (.bool t1.2) rfl (by kernel_rfl) rfl rfl HS3.out (fun w h0 => by go_simp) ?_
            try simp only [Act.put, List.setIfInBounds_toArray, List.set_cons_zero, List.set_cons_succ]
            refine wa_done (by decide +kernel) ?_
            obtain ⟨wx, hwx⟩ : ∃ x, x = wz := ⟨_, rfl⟩
            rw [← hwx] at HS3 ⊢
            clear hwx
            go_upto_region 17 with fail
            have HS3 := hid (show Below Wl.heap.size Wl wx.drew ∧ Blk wx.drew B13 26 (pc s) from ⟨HS3.out.1.drew, HS3.out.2.below (show Below wx.heap.size wx wx.drew from (Below.refl _ wx).drew) HS3.out.2.lt⟩)
            refine wa_start (S := fun W => Below Wl.heap.size Wl W ∧ Blk W B13 26 (pc s)) (by kernel_rfl) HS3.out ?_
            obtain ⟨wy, hwy⟩ : ∃ x, x = wx.drew := ⟨_, rfl⟩
            rw [← hwy] at HS3 ⊢
            clear hwy
            refine wa_tk 0 (some 99) (.slice pv n cv) rfl (by kernel_rfl) rfl rfl HS3.out (fun w h0 => by go_simp) ?_
            try simp only [Act.put, List.setIfInBounds_toArray, List.set_cons_zero, List.set_cons_succ]
            refine wa_tk 1 (some 100) (.slice (some ⟨bb, o, none⟩) nc cc1) rfl (by kernel_rfl) rfl rfl HS3.out (fun w h0 => by go_simp) ?_
            try simp only [Act.put, List.setIfInBounds_toArray, List.set_cons_zero, List.set_cons_succ]
            refine wa_tk 2 (some 101) (.int .i64 (i : Int)) rfl (by kernel_rfl) rfl rfl HS3.out (fun w h0 => by go_simp) ?_
            try simp only [Act.put, List.setIfInBounds_toArray, List.set_cons_zero, List.set_cons_succ]
            refine wa_tk 3 (some 102) (.pointer (some ⟨bb, o + i * 4, none⟩)) rfl (by kernel_rfl) rfl rfl HS3.out (fun w h0 => by have hlt := HLT.out; go_simp) ?_
            try simp only [Act.put, List.setIfInBounds_toArray, List.set_cons_zero, List.set_cons_succ]
            refine wa_tk 4 (some 103) (.pointer (some ⟨bb, o + i * 4, none⟩)) rfl (by kernel_rfl) rfl rfl HS3.out (fun w h0 => by go_simp) ?_
            try simp only [Act.put, List.setIfInBounds_toArray, List.set_cons_zero, List.set_cons_succ]
            refine wa_tk 5 (some 104) (.agg #[.int .i64 ka, .int .i64 kb, .int .i64 kc1]) rfl (by kernel_rfl) rfl rfl HS3.out (fun w h0 => by obtain ⟨_, _, hbe, hbk, y0, y1, y2, y3⟩ := HC1.out _ h0.1; cases hbe; go_simp) ?_
            try simp only [Act.put, List.setIfInBounds_toArray, List.set_cons_zero, List.set_cons_succ]
            refine wa_tk 6 (some 105) (.pointer (some ⟨B13, 0, none⟩)) rfl (by kernel_rfl) rfl rfl HS3.out (fun w h0 => by go_simp) ?_
            try simp only [Act.put, List.setIfInBounds_toArray, List.set_cons_zero, List.set_cons_succ]
            refine wa_tk 7 (some 106) (.int .i64 s.1) rfl (by kernel_rfl) rfl rfl HS3.out (fun w h0 => by have c0 : w.cell? ⟨B13, 0, none⟩ = some (.int .i64 s.1) := h0.2.cell 0 _ rfl; go_simp) ?_
            try simp only [Act.put, List.setIfInBounds_toArray, List.set_cons_zero, List.set_cons_succ]
            refine wa_tk 8 (some 107) (.int .i64 q') rfl (by kernel_rfl) rfl rfl HS3.out (fun w h0 => by go_simp) ?_
            try simp only [Act.put, List.setIfInBounds_toArray, List.set_cons_zero, List.set_cons_succ]
            refine wa_branch [9] (by decide +kernel) rfl ?_
            refine ar_op 9 rfl rfl (fun K hK => ?_) ar_nil
            unfold Oper.wp
            go_simp
            go_at_call 18
            refine (V2.out _ HS3.out.1).mono ?_
            rintro e wz ⟨rfl, hb⟩
            have HS3 := hid (show Below Wl.heap.size Wl wz ∧ Blk wz B13 26 (pc s) from ⟨below_t HS3.out.1 hb, HS3.out.2.below hb HS3.out.2.lt⟩)
            clear hb
            go_simp
            refine hK.out _ _ HS3.out ?_
            clear hK K
            try simp only [Act.put, List.setIfInBounds_toArray, List.set_cons_zero, List.set_cons_succ]
            refine wa_tk 10 (some 98) (.tuple #[.int .i64 t2.1, .bool t2.2]) rfl (by kernel_rfl) rfl rfl HS3.out (fun w h0 => by go_simp) ?_
            try simp only [Act.put, List.setIfInBounds_toArray, List.set_cons_zero, List.set_cons_succ]
            refine wa_tk 11 (some 109) (.int .i64 t2.1) rfl (by kernel_rfl) rfl rfl HS3.out (fun w h0 => by go_simp) ?_
            try simp only [Act.put, List.setIfInBounds_toArray, List.set_cons_zero, List.set_cons_succ]
            refine wa_tk 12 (some 110) (.bool t2.2) rfl (by kernel_rfl) rfl rfl HS3.out (fun w h0 => by go_simp) ?_
            try simp only [Act.put, List.setIfInBounds_toArray, List.set_cons_zero, List.set_cons_succ]
            refine wa_tk 13 (some 16) (.int .i64 t2.1) rfl (by kernel_rfl) rfl rfl HS3.out (fun w h0 => by go_simp) ?_
            try simp only [Act.put, List.setIfInBounds_toArray, List.set_cons_zero, List.set_cons_succ]
            refine wa_tk 14 (some 17) (.bool t2.2) rfl (by kernel_rfl) rfl rfl HS3.out (fun w h0 => by go_simp) ?_
            try simp only [Act.put, List.setIfInBounds_toArray, List.set_cons_zero, List.set_cons_succ]
            refine wa_done (by decide +kernel) ?_
            obtain ⟨wx, hwx⟩ : ∃ x, x = wz := ⟨_, rfl⟩
            rw [← hwx] at HS3 ⊢
            clear hwx
            clear V1 V2
            by_cases hbb : t1.2 = t2.2
            · have hxx : ¬ (t1.1 = t2.1) := fun e => D3N.out (Prod.ext e hbb)
              go_upto_region 20 with fail
              clear D0 D1 D2
              have h1 := HKB.out _ (below_t HT.out HS3.out.1)
              have r0 := h1.cell 0 _ rfl; have r1 := h1.cell 1 _ rfl; have r2 := h1.cell 2 _ rfl; have r3 := h1.cell 3 _ rfl; have r4 := h1.cell 4 _ rfl
              obtain ⟨_, _, hbe, hbk, y0, y1, y2, y3⟩ := HC1.out _ HS3.out.1
              cases hbe
              clear hbk y3 h1
              have c0 := HS3.out.2.cell 0 _ rfl; have c1 := HS3.out.2.cell 1 _ rfl
              have hpe := fun w => key_eq (ka, kb, kc1) r.1 w
              have hg24 : Try.prog.eqGuardType Try.prog.depth 24 = false := by kernel_rfl
              have hlt := HLT.out
              by_cases hkk : (ka, kb, kc1) = r.1
              · rw [decide_eq_true hkk] at hpe
                by_cases hmx : max r.2.1 s.1 < min r.2.2 s.2
                · have HV := hid (show Value.bool true = Value.bool (hc || (ss.take ((jj + 1) + 1)).any (hitS r (ka, kb, kc1))) by rw [HTK.out, List.any_append, ← Bool.or_assoc, ← HHH.out]; simp [hitS, hkk, hmx])
                  go_quiet (fail)
                  have HB5 := hid (below_t HS3.out.1 (below_drewN nq))
                  clear r0 r1 r2 r3 r4 y0 y1 y2 c0 c1 hpe hg24 HS3 hlt
                  have hj1 := HJ1.out
                  go_wp2
                  go_roundw
                  case rel => exact ⟨(jj + 1) + 1, HJ1.out, by go_num, HV.out, HB5⟩
                  case measure => simp [intOf]; omega
                · have HV := hid (show Value.bool hh = Value.bool (hc || (ss.take ((jj + 1) + 1)).any (hitS r (ka, kb, kc1))) by rw [HTK.out, List.any_append, ← Bool.or_assoc, ← HHH.out]; simp [hitS, hkk, hmx])
                  go_quiet (fail)
                  have HB5 := hid (below_t HS3.out.1 (below_drewN nq))
                  clear r0 r1 r2 r3 r4 y0 y1 y2 c0 c1 hpe hg24 HS3 hlt
                  have hj1 := HJ1.out
                  go_wp2
                  go_roundw
                  case rel => exact ⟨(jj + 1) + 1, HJ1.out, by go_num, HV.out, HB5⟩
                  case measure => simp [intOf]; omega
              · rw [decide_eq_false hkk] at hpe
                have HV := hid (show Value.bool hh = Value.bool (hc || (ss.take ((jj + 1) + 1)).any (hitS r (ka, kb, kc1))) by rw [HTK.out, List.any_append, ← Bool.or_assoc, ← HHH.out]; simp [hitS, hkk])
                go_quiet (fail)
                have HB5 := hid (below_t HS3.out.1 (below_drewN nq))
                clear r0 r1 r2 r3 r4 y0 y1 y2 c0 c1 hpe hg24 HS3 hlt
                have hj1 := HJ1.out
                go_wp2
                go_roundw
                case rel => exact ⟨(jj + 1) + 1, HJ1.out, by go_num, HV.out, HB5⟩
                case measure => simp [intOf]; omega
            · go_upto_region 20 with fail
              clear D0 D1 D2
              have h1 := HKB.out _ (below_t HT.out HS3.out.1)
              have r0 := h1.cell 0 _ rfl; have r1 := h1.cell 1 _ rfl; have r2 := h1.cell 2 _ rfl; have r3 := h1.cell 3 _ rfl; have r4 := h1.cell 4 _ rfl
              obtain ⟨_, _, hbe, hbk, y0, y1, y2, y3⟩ := HC1.out _ HS3.out.1
              cases hbe
              clear hbk y3 h1
              have c0 := HS3.out.2.cell 0 _ rfl; have c1 := HS3.out.2.cell 1 _ rfl
              have hpe := fun w => key_eq (ka, kb, kc1) r.1 w
              have hg24 : Try.prog.eqGuardType Try.prog.depth 24 = false := by kernel_rfl
              have hlt := HLT.out
              by_cases hkk : (ka, kb, kc1) = r.1
              · rw [decide_eq_true hkk] at hpe
                by_cases hmx : max r.2.1 s.1 < min r.2.2 s.2
                · have HV := hid (show Value.bool true = Value.bool (hc || (ss.take ((jj + 1) + 1)).any (hitS r (ka, kb, kc1))) by rw [HTK.out, List.any_append, ← Bool.or_assoc, ← HHH.out]; simp [hitS, hkk, hmx])
                  go_quiet (fail)
                  have HB5 := hid (below_t HS3.out.1 (below_drewN nq))
                  clear r0 r1 r2 r3 r4 y0 y1 y2 c0 c1 hpe hg24 HS3 hlt
                  have hj1 := HJ1.out
                  go_wp2
                  go_roundw
                  case rel => exact ⟨(jj + 1) + 1, HJ1.out, by go_num, HV.out, HB5⟩
                  case measure => simp [intOf]; omega
                · have HV := hid (show Value.bool hh = Value.bool (hc || (ss.take ((jj + 1) + 1)).any (hitS r (ka, kb, kc1))) by rw [HTK.out, List.any_append, ← Bool.or_assoc, ← HHH.out]; simp [hitS, hkk, hmx])
                  go_quiet (fail)
                  have HB5 := hid (below_t HS3.out.1 (below_drewN nq))
                  clear r0 r1 r2 r3 r4 y0 y1 y2 c0 c1 hpe hg24 HS3 hlt
                  have hj1 := HJ1.out
                  go_wp2
                  go_roundw
                  case rel => exact ⟨(jj + 1) + 1, HJ1.out, by go_num, HV.out, HB5⟩
                  case measure => simp [intOf]; omega
              · rw [decide_eq_false hkk] at hpe
                have HV := hid (show Value.bool hh = Value.bool (hc || (ss.take ((jj + 1) + 1)).any (hitS r (ka, kb, kc1))) by rw [HTK.out, List.any_append, ← Bool.or_assoc, ← HHH.out]; simp [hitS, hkk])
                go_quiet (fail)
                have HB5 := hid (below_t HS3.out.1 (below_drewN nq))
                clear r0 r1 r2 r3 r4 y0 y1 y2 c0 c1 hpe hg24 HS3 hlt
                have hj1 := HJ1.out
                go_wp2
                go_roundw
                case rel => exact ⟨(jj + 1) + 1, HJ1.out, by go_num, HV.out, HB5⟩
                case measure => simp [intOf]; omega
        · have hts : hits r (cs.take (i + 1)) = (hc || (ss.take j).any (hitS r (ka, kb, kc1))) := by
            rw [HTS.out, hits, List.any_append, HHC.out, show j = ss.length by have := HM1.out; omega, List.take_length]
            simp [hits, hitC]
          have HV := hid (show Value.bool (hc || (ss.take j).any (hitS r (ka, kb, kc1))) = Value.bool (hits r (cs.take (i + 1))) by rw [hts])
          clear hts
          generalize (hc || (ss.take j).any (hitS r (ka, kb, kc1))) = hz at *
          go_wp2
          go_roundw
          case rel => exact ⟨i + 1, by omega, by go_num, HV.out, hbl2⟩
          case measure => simp [intOf]; omega
    · have hh : hits r (cs.take i) = hits r (F7.changes q q' L) := by
        rw [show i = cs.length by have := HNC.out; omega, List.take_length, HCS.out]
      obtain ⟨z, hz⟩ : ∃ z, z = hits r (F7.changes q q' L) := ⟨_, rfl⟩
      rw [hh, ← hz]
      have hak : alk q q' L [r] = !z := by rw [hz]; exact hits_alk q q' L r
      have HTL := hid (below_t HT.out hbl.out)
      have h1 := HKB.out _ HTL.out
      have r0 := h1.cell 0 _ rfl; have r1 := h1.cell 1 _ rfl; have r2 := h1.cell 2 _ rfl; have r3 := h1.cell 3 _ rfl; have r4 := h1.cell 4 _ rfl
      have hb5 : Below wr.heap.size wr (wr.alloc (.cells (rc r).toArray 54)) := (Below.refl _ wr).alloc (Nat.le_refl _) _
      have HB5 := hid (below_t HTL.out hb5)
      have HAK := hid (show Calls Try.prog 26 #[.slice pv n cv, .slice (some ⟨wr.heap.size, 0, none⟩) 1 1, .int .i64 q, .int .i64 q'] (wr.alloc (.cells (rc r).toArray 54)) fun e w' => e = .returned (.bool (!z)) ∧ Below (wr.alloc (.cells (rc r).toArray 54)).heap.size (wr.alloc (.cells (rc r).toArray 54)) w' from by
        have h := alike_any (.slice pv n cv) (.slice (some ⟨wr.heap.size, 0, none⟩) 1 1) L [r] q q' (wr.alloc (.cells (rc r).toArray 54)) (HFS.out _ HB5.out) (gs_new (l := [r]) (enc := rc) (by simpa using Blk.new wr 54 (rc r)) (by simp [maxLen])) (by have := HN10.out; omega) (fwf_wk HWF.out) (fun x hx => by rw [List.mem_singleton.1 hx]; exact HWR.out)
        rwa [hak] at h)
      clear h1 hh hz hak hb5
      go_wp2_with fail
      refine HAK.out.mono ?_
      rintro e wn ⟨rfl, hb⟩
      have HB := hid (below_t HZB.out (below_t HB5.out hb))
      clear hb HAK r0 r1 r2 r3 r4
      go_wp2_with fail
      go_ret
      exact ⟨by cases z <;> rfl, HB.out⟩
section
open Go.ChangeShapes Go.WideShapes Go.ChangeAt
variable {H : Type} {enc : TypeId × Value → H}
theorem open_r {w : World} {base : Nat} {spare : Nat → Bool} {held : Bool} {fuel : Nat} {cs : List Value} {x : DataW H × List MemPlace} (h : DataW.trod enc Try.prog w base spare held fuel 54 cs = some x) : ∃ f : RD, cs = rc f ∧ kwf f.1 := by
  obtain ⟨xs, n, _, _, hlen, hxl, hf⟩ := DataW.trod_struct Try.underlying54 h
  have hl : cs.length = 5 := hlen.trans (by kernel_rfl)
  have k3 : Try.prog.cellsOf 3 = 1 := by kernel_rfl
  have k24 : Try.prog.cellsOf 24 = 3 := by kernel_rfl
  match cs, hl with
  | [c0, c1, c2, c3, c4], _ =>
    match xs, hxl with
    | [y0, y1, y2], _ =>
      have h0 := hf 0 _ rfl; have h1 := hf 1 _ rfl; have h2 := hf 2 _ rfl
      simp [k3, k24] at h0 h1 h2
      obtain ⟨⟨x0, x1, x2⟩, e0, w0⟩ := open_k h0
      obtain ⟨x3, rfl, w3⟩ := open_i h1
      obtain ⟨x4, rfl, w4⟩ := open_i h2
      simp [kc] at e0
      obtain ⟨rfl, rfl, rfl⟩ := e0
      exact ⟨((x0, x1, x2), (x3, x4)), rfl, w0⟩
theorem open_read {W : World} {base : Nat} {v1 : Value} {d1 : DataW H} {p1 : List MemPlace} (hval : Value.okWide Try.prog W .any base 54 v1) (h1 : DataW.Trod enc Try.prog W 0 (fun _ => true) true 54 v1 d1 p1) : ∃ k : RD, v1 = RV k ∧ kwf k.1 := by
  obtain ⟨cs, rfl, hsz⟩ := okWide_struct Try.underlying54 hval
  obtain ⟨fuel, hf⟩ := h1
  obtain ⟨k, hk, hw⟩ := open_r hf
  refine ⟨k, ?_, hw⟩
  have : cs.toList = rc k := by simpa [Value.cells] using hk
  rw [show cs = (rc k).toArray from by rw [← this]]
  rfl
end
end Go.Proofs.Ytbejjindkcjecaa

/- Contract: the reference's Add. -/
import Derived.Test.YtbejjindkcjecaaRefC
namespace Go.Proofs.Ytbejjindkcjecaa
open Go.RowKit Go
set_option linter.unusedVariables false
set_option linter.unusedSimpArgs false
set_option maxRecDepth 100000 in
set_option maxHeartbeats 4000000 in
theorem refAdd_any (v : Value) (L : List FA) (f : FA) (w : World) (hv : FS w v L) (hL : L.length ≤ 1000000) :
    Calls Try.prog 14 #[v, FV f] w fun e w' => (∃ u, e = .returned (.tuple #[u, .int .i64 (adr L f)]) ∧ FS w' u (adl L f)) ∧ Below w.heap.size w w' := by
  obtain ⟨Z, hZ⟩ : ∃ Z, Z = w.alloc (.cells #[.int .i64 f.kind, .int .i64 f.subj, .int .i64 f.obj, .int .i64 f.val, .int .i64 f.frm, .int .i64 f.to, .int .i64 f.known, .int .i64 f.no] 28) := ⟨_, rfl⟩
  have hzb : Below w.heap.size w Z := by rw [hZ]; exact (Below.refl _ w).alloc (Nat.le_refl _) _
  have hzk : Blk Z w.heap.size 28 (fc f) := by rw [hZ]; exact Blk.new w 28 (fc f)
  obtain ⟨p, cap, hvf⟩ := hv.form
  subst hvf
  have hfz := hv.ups hzb
  have hgr : FR p Z.heap.size L Z := hfz.gr 8 fc_len (by omega)
  have hcm := hv.cap
  have CK := hid (fun (W : World) (hW : Below Z.heap.size Z W) => refCheck_any _ L W (hfz.ups hW))
  have HFS := hid (fun (W : World) (hW : Below Z.heap.size Z W) => hfz.ups hW)
  have HKB := hid (fun (W : World) (hW : Below Z.heap.size Z W) => hzk.below hW hzk.lt)
  have HZB := hid hzb
  have HGR := hid (fun (W : World) (hW : Below Z.heap.size Z W) => hgr.up hW)
  have VA := hid (fun W => refValid_any f W)
  obtain ⟨n, hn⟩ : ∃ n, n = L.length := ⟨_, rfl⟩
  rw [← hn] at HFS CK hcm ⊢
  have HCM := hid (show n ≤ cap ∧ cap ≤ maxLen from hcm.2)
  have HLN := hid hL; have HN := hid hn
  have hk := hid (ckl_ne L)
  obtain ⟨Bk, hBk⟩ : ∃ Bk, Bk = w.heap.size := ⟨_, rfl⟩
  rw [← hBk] at HKB
  have hT := HZB.out
  have HT := hid (Below.refl Z.heap.size Z)
  have hn6 : n ≤ 1000000 := by omega
  clear hv hzb hzk hfz hgr hcm hL hn hT
  have HADR := hid (show adr L f = if ckl L = 0 then (if vld f = true then (if lastB L f = true then 71 else 0) else 70) else ckl L from rfl)
  have HADL := hid (show adl L f = if adr L f = 0 then L ++ [f] else [] from rfl)
  generalize adr L f = r at *
  generalize adl L f = l2 at *
  go_enter Try.func14, Try.ntmps14
  go_upto_region 1 with fail
  rw [← hZ, ← hBk]
  clear hZ hBk
  go_wp2_with fail
  refine (CK.out Z (Below.refl _ Z)).mono ?_
  rintro e w1 ⟨rfl, hb1⟩
  have HT := hid hb1
  clear hb1 CK
  obtain ⟨c, hc⟩ : ∃ c, c = ckl L := ⟨_, rfl⟩
  rw [← hc] at HADR hk ⊢
  clear hc
  by_cases hc0 : c = 0
  · subst hc0
    rw [if_pos rfl] at HADR
    obtain ⟨b, hb⟩ : ∃ b, b = vld f := ⟨_, rfl⟩
    rw [← hb] at HADR VA
    have h1' := HKB.out _ HT.out
    have a0 := h1'.cell 0 _ rfl; have a1 := h1'.cell 1 _ rfl; have a2 := h1'.cell 2 _ rfl; have a3 := h1'.cell 3 _ rfl; have a4 := h1'.cell 4 _ rfl; have a5 := h1'.cell 5 _ rfl; have a6 := h1'.cell 6 _ rfl; have a7 := h1'.cell 7 _ rfl
    clear h1' hb hk
    cases b with
    | false =>
      rw [if_neg (by simp)] at HADR
      go_wp2_with fail
      refine (VA.out _).mono ?_
      rintro e w2 ⟨rfl, hb2⟩
      have HB := hid (below_t HZB.out (below_t HT.out hb2))
      clear hb2 a0 a1 a2 a3 a4 a5 a6 a7
      go_wp2_with fail
      go_ret2
      exact ⟨⟨.slice none 0 0, by rw [HADR.out]; rfl, by rw [HADL.out, HADR.out]; exact .inl ⟨rfl, rfl⟩⟩, HB.out⟩
    | true =>
      rw [if_pos rfl] at HADR
      go_wp2_with fail
      refine (VA.out _).mono ?_
      rintro e w2 ⟨rfl, hb2⟩
      have HT := hid (below_t HT.out hb2)
      clear hb2 a0 a1 a2 a3 a4 a5 a6 a7
      obtain ⟨z, hz⟩ : ∃ z, z = lastB L f := ⟨_, rfl⟩
      rw [← hz] at HADR
      by_cases hn0 : n = 0
      · subst hn0
        have hz' : z = false := by
          rw [hz, show L = [] from List.eq_nil_of_length_eq_zero HN.out.symm]; rfl
        subst hz'
        rw [if_neg (by simp)] at HADR
        clear hz
        go_upto_region 6 with fail
        go_quiet (fail)
        obtain ⟨WQ, hWQ⟩ : ∃ x, x = w2.drewN nq := ⟨_, rfl⟩
        have HT := hid (show Below Z.heap.size Z WQ from by rw [hWQ]; exact below_t HT.out (below_drewN nq))
        rw [← hWQ]
        clear hWQ
        go_upto_region 8 with fail
        have HT := hid (show Below Z.heap.size Z WQ.drew from HT.out.drew)
        refine wa_start (S := fun W => Below Z.heap.size Z W) (by kernel_rfl) HT.out ?_
        obtain ⟨WD, hWD⟩ : ∃ x, x = WQ.drew := ⟨_, rfl⟩
        rw [← hWD] at HT ⊢
        clear hWD
        refine wa_tk 1 (some 30) (.slice p 0 cap) rfl (by kernel_rfl) rfl rfl HT.out (fun w h0 => by go_simp) ?_
        try simp only [Act.put, List.setIfInBounds_toArray, List.set_cons_zero, List.set_cons_succ]
        refine wa_tk 3 (some 32) (FV f) rfl (by kernel_rfl) rfl rfl HT.out (fun w h0 => by have h1' := HKB.out _ h0; have a0 := h1'.cell 0 _ rfl; have a1 := h1'.cell 1 _ rfl; have a2 := h1'.cell 2 _ rfl; have a3 := h1'.cell 3 _ rfl; have a4 := h1'.cell 4 _ rfl; have a5 := h1'.cell 5 _ rfl; have a6 := h1'.cell 6 _ rfl; have a7 := h1'.cell 7 _ rfl; go_simp) ?_
        try simp only [Act.put, List.setIfInBounds_toArray, List.set_cons_zero, List.set_cons_succ]
        refine wa_branch [0, 4] (by decide +kernel) rfl ?_
        refine ar_op 0 rfl rfl (fun K hK => ?_) (ar_op 4 rfl rfl (fun K hK => ?_) ar_nil)
        · unfold Oper.wp
          go_simp
          obtain ⟨WA, hWA⟩ : ∃ x, x = WD.alloc (.cells #[] 28) := ⟨_, rfl⟩
          obtain ⟨BE, hBE⟩ : ∃ x, x = WD.heap.size := ⟨_, rfl⟩
          have hb : Below WD.heap.size WD WA := by rw [hWA]; exact (Below.refl _ _).alloc (Nat.le_refl _) _
          have HE := hid (show Blk WA BE 28 [] by rw [hWA, hBE]; exact Blk.new WD 28 [])
          have HBE := hid (show Z.heap.size ≤ BE by rw [hBE]; exact HT.out.size)
          have HT := hid (below_t HT.out hb)
          rw [← hWA, ← hBE]
          clear hWA hBE hb
          refine hK.out _ _ HT.out ?_
          clear hK K
          try simp only [Act.put, List.setIfInBounds_toArray, List.set_cons_zero, List.set_cons_succ]
          refine wa_branch [2, 4] (by decide +kernel) rfl ?_
          refine ar_op 2 rfl rfl (fun K hK => ?_) (ar_op 4 rfl rfl (fun K hK => ?_) ar_nil)
          · obtain ⟨v1, WB, happ, hfo, hb⟩ := app_lit HE.out HBE.out (HFS.out WA HT.out) HLN.out
            have HT := hid (below_t HT.out hb)
            have HO := hid hfo
            clear HE hfo hb
            refine st_append (some 31) rfl (.tmp 29) (.tmp 30) 22 22 rfl rfl _ _ _ _ rfl rfl happ ?_
            clear happ
            refine hK.out _ _ HT.out ?_
            clear hK K
            try simp only [Act.put, List.setIfInBounds_toArray, List.set_cons_zero, List.set_cons_succ]
            refine wa_branch [4] (by decide +kernel) rfl ?_
            refine ar_op 4 rfl rfl (fun K hK => ?_) ar_nil
            unfold Oper.wp
            go_simp
            obtain ⟨WC, hWC⟩ : ∃ x, x = WB.alloc (.cells #[.int .i64 f.kind, .int .i64 f.subj, .int .i64 f.obj, .int .i64 f.val, .int .i64 f.frm, .int .i64 f.to, .int .i64 f.known, .int .i64 f.no] 28) := ⟨_, rfl⟩
            obtain ⟨BF, hBF⟩ : ∃ x, x = WB.heap.size := ⟨_, rfl⟩
            have hb : Below WB.heap.size WB WC := by rw [hWC]; exact (Below.refl _ _).alloc (Nat.le_refl _) _
            have HF := hid (show Blk WC BF 28 (fc f) by rw [hWC, hBF]; exact Blk.new WB 28 (fc f))
            have HT := hid (below_t HT.out hb)
            have HO := hid (HO.out.ups hb)
            rw [← hWC, ← hBF]
            clear hWC hBF hb
            refine hK.out _ _ HT.out ?_
            clear hK K
            try simp only [Act.put, List.setIfInBounds_toArray, List.set_cons_zero, List.set_cons_succ]
            refine wa_branch [5] (by decide +kernel) rfl ?_
            refine ar_op 5 rfl rfl (fun K hK => ?_) ar_nil
            obtain ⟨v2, WE, happ, hfo, hb⟩ := app_more (x := .slice (some ⟨BF, 0, none⟩) 1 1) (m := [f]) HO.out (fs_new (l := [f]) (HF.out) (by simp [maxLen])) HLN.out (by simp) HT.out.size
            have HT := hid (HT.out.trans hb)
            have HFO := hid hfo.gs
            clear hfo hb HO HF
            refine st_append (some 34) rfl (.tmp 31) (.tmp 33) 22 22 rfl rfl _ _ _ _ rfl rfl happ ?_
            clear happ
            refine hK.out _ _ HT.out ?_
            clear hK K
            try simp only [Act.put, List.setIfInBounds_toArray, List.set_cons_zero, List.set_cons_succ]
            refine wa_tk 6 (some 4) (v2) rfl (by kernel_rfl) rfl rfl HT.out (fun w h0 => by go_simp) ?_
            try simp only [Act.put, List.setIfInBounds_toArray, List.set_cons_zero, List.set_cons_succ]
            refine wa_tk 7 (some 5) (.int .i64 0) rfl (by kernel_rfl) rfl rfl HT.out (fun w h0 => by go_simp) ?_
            try simp only [Act.put, List.setIfInBounds_toArray, List.set_cons_zero, List.set_cons_succ]
            refine wa_done (by decide +kernel) ?_
            go_wp2_with fail
            go_ret2
            exact ⟨⟨v2, by rw [HADR.out]; rfl, by rw [HADL.out, HADR.out, if_pos rfl]; exact HFO.out⟩, below_t HZB.out HT.out⟩
          · unfold Oper.wp
            go_simp
            obtain ⟨WB, hWB⟩ : ∃ x, x = WA.alloc (.cells #[.int .i64 f.kind, .int .i64 f.subj, .int .i64 f.obj, .int .i64 f.val, .int .i64 f.frm, .int .i64 f.to, .int .i64 f.known, .int .i64 f.no] 28) := ⟨_, rfl⟩
            obtain ⟨BF, hBF⟩ : ∃ x, x = WA.heap.size := ⟨_, rfl⟩
            have hb : Below WA.heap.size WA WB := by rw [hWB]; exact (Below.refl _ _).alloc (Nat.le_refl _) _
            have HF := hid (show Blk WB BF 28 (fc f) by rw [hWB, hBF]; exact Blk.new WA 28 (fc f))
            have HT := hid (below_t HT.out hb)
            have HE := hid (HE.out.below hb HE.out.lt)
            rw [← hWB, ← hBF]
            clear hWB hBF hb
            refine hK.out _ _ HT.out ?_
            clear hK K
            try simp only [Act.put, List.setIfInBounds_toArray, List.set_cons_zero, List.set_cons_succ]
            refine wa_branch [2] (by decide +kernel) rfl ?_
            refine ar_op 2 rfl rfl (fun K hK => ?_) ar_nil
            obtain ⟨v1, WC, happ, hfo, hb⟩ := app_lit HE.out HBE.out (HFS.out WB HT.out) HLN.out
            have HT := hid (below_t HT.out hb)
            have HF := hid (HF.out.below hb HF.out.lt)
            have HO := hid hfo
            clear HE hfo hb
            refine st_append (some 31) rfl (.tmp 29) (.tmp 30) 22 22 rfl rfl _ _ _ _ rfl rfl happ ?_
            clear happ
            refine hK.out _ _ HT.out ?_
            clear hK K
            try simp only [Act.put, List.setIfInBounds_toArray, List.set_cons_zero, List.set_cons_succ]
            refine wa_branch [5] (by decide +kernel) rfl ?_
            refine ar_op 5 rfl rfl (fun K hK => ?_) ar_nil
            obtain ⟨v2, WE, happ, hfo, hb⟩ := app_more (x := .slice (some ⟨BF, 0, none⟩) 1 1) (m := [f]) HO.out (fs_new (l := [f]) (HF.out) (by simp [maxLen])) HLN.out (by simp) HT.out.size
            have HT := hid (HT.out.trans hb)
            have HFO := hid hfo.gs
            clear hfo hb HO HF
            refine st_append (some 34) rfl (.tmp 31) (.tmp 33) 22 22 rfl rfl _ _ _ _ rfl rfl happ ?_
            clear happ
            refine hK.out _ _ HT.out ?_
            clear hK K
            try simp only [Act.put, List.setIfInBounds_toArray, List.set_cons_zero, List.set_cons_succ]
            refine wa_tk 6 (some 4) (v2) rfl (by kernel_rfl) rfl rfl HT.out (fun w h0 => by go_simp) ?_
            try simp only [Act.put, List.setIfInBounds_toArray, List.set_cons_zero, List.set_cons_succ]
            refine wa_tk 7 (some 5) (.int .i64 0) rfl (by kernel_rfl) rfl rfl HT.out (fun w h0 => by go_simp) ?_
            try simp only [Act.put, List.setIfInBounds_toArray, List.set_cons_zero, List.set_cons_succ]
            refine wa_done (by decide +kernel) ?_
            go_wp2_with fail
            go_ret2
            exact ⟨⟨v2, by rw [HADR.out]; rfl, by rw [HADL.out, HADR.out, if_pos rfl]; exact HFO.out⟩, below_t HZB.out HT.out⟩
        · unfold Oper.wp
          go_simp
          obtain ⟨WA, hWA⟩ : ∃ x, x = WD.alloc (.cells #[.int .i64 f.kind, .int .i64 f.subj, .int .i64 f.obj, .int .i64 f.val, .int .i64 f.frm, .int .i64 f.to, .int .i64 f.known, .int .i64 f.no] 28) := ⟨_, rfl⟩
          obtain ⟨BF, hBF⟩ : ∃ x, x = WD.heap.size := ⟨_, rfl⟩
          have hb : Below WD.heap.size WD WA := by rw [hWA]; exact (Below.refl _ _).alloc (Nat.le_refl _) _
          have HF := hid (show Blk WA BF 28 (fc f) by rw [hWA, hBF]; exact Blk.new WD 28 (fc f))
          have HT := hid (below_t HT.out hb)
          rw [← hWA, ← hBF]
          clear hWA hBF hb
          refine hK.out _ _ HT.out ?_
          clear hK K
          try simp only [Act.put, List.setIfInBounds_toArray, List.set_cons_zero, List.set_cons_succ]
          refine wa_branch [0] (by decide +kernel) rfl ?_
          refine ar_op 0 rfl rfl (fun K hK => ?_) ar_nil
          unfold Oper.wp
          go_simp
          obtain ⟨WB, hWB⟩ : ∃ x, x = WA.alloc (.cells #[] 28) := ⟨_, rfl⟩
          obtain ⟨BE, hBE⟩ : ∃ x, x = WA.heap.size := ⟨_, rfl⟩
          have hb : Below WA.heap.size WA WB := by rw [hWB]; exact (Below.refl _ _).alloc (Nat.le_refl _) _
          have HE := hid (show Blk WB BE 28 [] by rw [hWB, hBE]; exact Blk.new WA 28 [])
          have HBE := hid (show Z.heap.size ≤ BE by rw [hBE]; exact HT.out.size)
          have HT := hid (below_t HT.out hb)
          have HF := hid (HF.out.below hb HF.out.lt)
          rw [← hWB, ← hBE]
          clear hWB hBE hb
          refine hK.out _ _ HT.out ?_
          clear hK K
          try simp only [Act.put, List.setIfInBounds_toArray, List.set_cons_zero, List.set_cons_succ]
          refine wa_branch [2] (by decide +kernel) rfl ?_
          refine ar_op 2 rfl rfl (fun K hK => ?_) ar_nil
          obtain ⟨v1, WC, happ, hfo, hb⟩ := app_lit HE.out HBE.out (HFS.out WB HT.out) HLN.out
          have HT := hid (below_t HT.out hb)
          have HF := hid (HF.out.below hb HF.out.lt)
          have HO := hid hfo
          clear HE hfo hb
          refine st_append (some 31) rfl (.tmp 29) (.tmp 30) 22 22 rfl rfl _ _ _ _ rfl rfl happ ?_
          clear happ
          refine hK.out _ _ HT.out ?_
          clear hK K
          try simp only [Act.put, List.setIfInBounds_toArray, List.set_cons_zero, List.set_cons_succ]
          refine wa_branch [5] (by decide +kernel) rfl ?_
          refine ar_op 5 rfl rfl (fun K hK => ?_) ar_nil
          obtain ⟨v2, WE, happ, hfo, hb⟩ := app_more (x := .slice (some ⟨BF, 0, none⟩) 1 1) (m := [f]) HO.out (fs_new (l := [f]) (HF.out) (by simp [maxLen])) HLN.out (by simp) HT.out.size
          have HT := hid (HT.out.trans hb)
          have HFO := hid hfo.gs
          clear hfo hb HO HF
          refine st_append (some 34) rfl (.tmp 31) (.tmp 33) 22 22 rfl rfl _ _ _ _ rfl rfl happ ?_
          clear happ
          refine hK.out _ _ HT.out ?_
          clear hK K
          try simp only [Act.put, List.setIfInBounds_toArray, List.set_cons_zero, List.set_cons_succ]
          refine wa_tk 6 (some 4) (v2) rfl (by kernel_rfl) rfl rfl HT.out (fun w h0 => by go_simp) ?_
          try simp only [Act.put, List.setIfInBounds_toArray, List.set_cons_zero, List.set_cons_succ]
          refine wa_tk 7 (some 5) (.int .i64 0) rfl (by kernel_rfl) rfl rfl HT.out (fun w h0 => by go_simp) ?_
          try simp only [Act.put, List.setIfInBounds_toArray, List.set_cons_zero, List.set_cons_succ]
          refine wa_done (by decide +kernel) ?_
          go_wp2_with fail
          go_ret2
          exact ⟨⟨v2, by rw [HADR.out]; rfl, by rw [HADL.out, HADR.out, if_pos rfl]; exact HFO.out⟩, below_t HZB.out HT.out⟩
      · obtain ⟨m, rfl⟩ : ∃ m, n = m + 1 := ⟨n - 1, by omega⟩
        obtain ⟨g, hg⟩ := get_lt (l := L) (i := m) (by rw [← HN.out]; omega)
        obtain ⟨b, o, rfl, hbb, x0, x1, x2, x3, x4, x5, x6, x7⟩ := (HGR.out _ HT.out).at8 hg
        have h1' := HKB.out _ HT.out
        have a0 := h1'.cell 0 _ rfl; have a1 := h1'.cell 1 _ rfl; have a2 := h1'.cell 2 _ rfl; have a3 := h1'.cell 3 _ rfl; have a4 := h1'.cell 4 _ rfl; have a5 := h1'.cell 5 _ rfl; have a6 := h1'.cell 6 _ rfl; have a7 := h1'.cell 7 _ rfl
        have hz2 : z = !(decide (F7.bef g f)) := by
          rw [show (!(decide (F7.bef g f))) = decide (0 ≤ ord g f) by have := @ord_lt g f; by_cases h : F7.bef g f <;> simp [h] at this ⊢ <;> omega]
          rw [hz]; unfold lastB
          rw [List.getLast?_eq_getElem?, ← HN.out, Nat.add_sub_cancel, hg]
        have OA := hid (fun W => before_any g f W)
        obtain ⟨y, hy⟩ : ∃ y, y = decide (F7.bef g f) := ⟨_, rfl⟩
        rw [← hy] at OA hz2
        have hwm : IntKind.i64.wrap (m : Int) = (m : Int) := IntWalk.i64_in _ (by omega)
        clear hz hy hg
        have HZ2 := hid hz2
        have HBB := hid (show b < w2.drew.heap.size from Nat.lt_of_lt_of_le hbb HT.out.size)
        clear hbb
        cases y with
        | false =>
          have HZ3 := hid (show z = true by rw [HZ2.out]; rfl)
          clear hz2 HFS HKB HGR VA
          have HT6 := hid (show At8 w2.drew b (o + m * 8) g ∧ Blk w2.drew Bk 28 (fc f) from ⟨⟨x0, x1, x2, x3, x4, x5, x6, x7⟩, h1'⟩)
          have HWM := hid hwm; have HML := hid (show ¬ ((m : Int) + 1 ≤ (m : Int)) by omega)
          clear hwm x0 x1 x2 x3 x4 x5 x6 x7 a0 a1 a2 a3 a4 a5 a6 a7 h1'
          have e : z = true := HZ3.out
          subst e
          rw [if_pos rfl] at HADR
          go_upto_region 6 with fail
          refine wa_start (S := fun W => At8 W b (o + m * 8) g ∧ Blk W Bk 28 (fc f)) (by kernel_rfl) HT6.out ?_
          refine wa_tk 0 (some 15) (.slice (some ⟨b, o, none⟩) (m + 1) cap) rfl (by kernel_rfl) rfl rfl HT6.out (fun w h0 => by go_simp) ?_
          try simp only [Act.put, List.setIfInBounds_toArray, List.set_cons_zero, List.set_cons_succ]
          refine wa_tk 1 (some 16) (.int .i64 ((m + 1 : Nat) : Int)) rfl (by kernel_rfl) rfl rfl HT6.out (fun w h0 => by go_simp) ?_
          try simp only [Act.put, List.setIfInBounds_toArray, List.set_cons_zero, List.set_cons_succ]
          refine wa_tk 2 (some 17) (.bool true) rfl (by kernel_rfl) rfl rfl HT6.out (fun w h0 => by go_simp) ?_
          try simp only [Act.put, List.setIfInBounds_toArray, List.set_cons_zero, List.set_cons_succ]
          refine wa_tk 3 (some 18) (.bool true) rfl (by kernel_rfl) rfl rfl HT6.out (fun w h0 => by go_simp) ?_
          try simp only [Act.put, List.setIfInBounds_toArray, List.set_cons_zero, List.set_cons_succ]
          refine wa_tkg 4 (some 19) (.slice (some ⟨b, o, none⟩) (m + 1) cap) rfl (by kernel_rfl) rfl rfl HT6.out (fun w h0 => by go_simp) ?_
          try simp only [Act.put, List.setIfInBounds_toArray, List.set_cons_zero, List.set_cons_succ]
          refine wa_tkg 5 (some 20) (.slice (some ⟨b, o, none⟩) (m + 1) cap) rfl (by kernel_rfl) rfl rfl HT6.out (fun w h0 => by go_simp) ?_
          try simp only [Act.put, List.setIfInBounds_toArray, List.set_cons_zero, List.set_cons_succ]
          refine wa_tkg 6 (some 21) (.int .i64 ((m + 1 : Nat) : Int)) rfl (by kernel_rfl) rfl rfl HT6.out (fun w h0 => by go_simp) ?_
          try simp only [Act.put, List.setIfInBounds_toArray, List.set_cons_zero, List.set_cons_succ]
          refine wa_tkg 7 (some 22) (.int .i64 (m : Int)) rfl (by kernel_rfl) rfl rfl HT6.out (fun w h0 => by have hwm := HWM.out; go_simp) ?_
          try simp only [Act.put, List.setIfInBounds_toArray, List.set_cons_zero, List.set_cons_succ]
          refine wa_tkg 8 (some 23) (.pointer (some ⟨b, o + m * 8, none⟩)) rfl (by kernel_rfl) rfl rfl HT6.out (fun w h0 => by have hmlt := HML.out; go_simp) ?_
          try simp only [Act.put, List.setIfInBounds_toArray, List.set_cons_zero, List.set_cons_succ]
          refine wa_tkg 9 (some 24) (FV g) rfl (by kernel_rfl) rfl rfl HT6.out (fun w h0 => by obtain ⟨⟨x0, x1, x2, x3, x4, x5, x6, x7⟩, hk⟩ := h0; go_simp) ?_
          try simp only [Act.put, List.setIfInBounds_toArray, List.set_cons_zero, List.set_cons_succ]
          refine wa_tkg 10 (some 25) (FV f) rfl (by kernel_rfl) rfl rfl HT6.out (fun w h0 => by obtain ⟨hx, h1p⟩ := h0; have a0 := h1p.cell 0 _ rfl; have a1 := h1p.cell 1 _ rfl; have a2 := h1p.cell 2 _ rfl; have a3 := h1p.cell 3 _ rfl; have a4 := h1p.cell 4 _ rfl; have a5 := h1p.cell 5 _ rfl; have a6 := h1p.cell 6 _ rfl; have a7 := h1p.cell 7 _ rfl; go_simp) ?_
          try simp only [Act.put, List.setIfInBounds_toArray, List.set_cons_zero, List.set_cons_succ]
          refine wa_branch [11] (by decide +kernel) rfl ?_
          refine ar_opg 11 rfl rfl (fun K hK => ?_) ar_nil
          unfold Oper.wp
          go_simp
          go_at_call 30
          refine (OA.out _).mono ?_
          rintro e w3 ⟨rfl, hb3⟩
          have HT := hid (below_t HT.out (below_t (show Below w2.heap.size w2 w2.drew from (Below.refl _ w2).drew) hb3))
          have HT6 := hid (show At8 w3 b (o + m * 8) g ∧ Blk w3 Bk 28 (fc f) from ⟨HT6.out.1.up hb3 HBB.out, HT6.out.2.below hb3 HT6.out.2.lt⟩)
          clear hb3
          go_simp
          refine hK.out _ _ HT6.out ?_
          clear hK K
          try simp only [Act.put, List.setIfInBounds_toArray, List.set_cons_zero, List.set_cons_succ]
          refine wa_tkg 12 (some 27) (.bool true) rfl (by kernel_rfl) rfl rfl HT6.out (fun w h0 => by go_simp) ?_
          try simp only [Act.put, List.setIfInBounds_toArray, List.set_cons_zero, List.set_cons_succ]
          refine wa_tk 13 (some 28) (.bool true) rfl (by kernel_rfl) rfl rfl HT6.out (fun w h0 => by go_simp) ?_
          try simp only [Act.put, List.setIfInBounds_toArray, List.set_cons_zero, List.set_cons_succ]
          refine wa_done (by decide +kernel) ?_
          clear HT6 HWM HML HBB HZ2 OA
          have HB := hid (below_t HZB.out HT.out)
          go_wp2_with fail
          go_ret2
          exact ⟨⟨.slice none 0 0, by rw [HADR.out]; rfl, by rw [HADL.out, HADR.out]; exact .inl ⟨rfl, rfl⟩⟩, HB.out⟩
        | true =>
          have HZ3 := hid (show z = false by rw [HZ2.out]; rfl)
          clear hz2
          have HT6 := hid (show At8 w2.drew b (o + m * 8) g ∧ Blk w2.drew Bk 28 (fc f) from ⟨⟨x0, x1, x2, x3, x4, x5, x6, x7⟩, h1'⟩)
          have HWM := hid hwm; have HML := hid (show ¬ ((m : Int) + 1 ≤ (m : Int)) by omega)
          clear hwm x0 x1 x2 x3 x4 x5 x6 x7 a0 a1 a2 a3 a4 a5 a6 a7 h1'
          have e : z = false := HZ3.out
          subst e
          rw [if_neg (by simp)] at HADR
          go_upto_region 6 with fail
          refine wa_start (S := fun W => At8 W b (o + m * 8) g ∧ Blk W Bk 28 (fc f)) (by kernel_rfl) HT6.out ?_
          refine wa_tk 0 (some 15) (.slice (some ⟨b, o, none⟩) (m + 1) cap) rfl (by kernel_rfl) rfl rfl HT6.out (fun w h0 => by go_simp) ?_
          try simp only [Act.put, List.setIfInBounds_toArray, List.set_cons_zero, List.set_cons_succ]
          refine wa_tk 1 (some 16) (.int .i64 ((m + 1 : Nat) : Int)) rfl (by kernel_rfl) rfl rfl HT6.out (fun w h0 => by go_simp) ?_
          try simp only [Act.put, List.setIfInBounds_toArray, List.set_cons_zero, List.set_cons_succ]
          refine wa_tk 2 (some 17) (.bool true) rfl (by kernel_rfl) rfl rfl HT6.out (fun w h0 => by go_simp) ?_
          try simp only [Act.put, List.setIfInBounds_toArray, List.set_cons_zero, List.set_cons_succ]
          refine wa_tk 3 (some 18) (.bool true) rfl (by kernel_rfl) rfl rfl HT6.out (fun w h0 => by go_simp) ?_
          try simp only [Act.put, List.setIfInBounds_toArray, List.set_cons_zero, List.set_cons_succ]
          refine wa_tkg 4 (some 19) (.slice (some ⟨b, o, none⟩) (m + 1) cap) rfl (by kernel_rfl) rfl rfl HT6.out (fun w h0 => by go_simp) ?_
          try simp only [Act.put, List.setIfInBounds_toArray, List.set_cons_zero, List.set_cons_succ]
          refine wa_tkg 5 (some 20) (.slice (some ⟨b, o, none⟩) (m + 1) cap) rfl (by kernel_rfl) rfl rfl HT6.out (fun w h0 => by go_simp) ?_
          try simp only [Act.put, List.setIfInBounds_toArray, List.set_cons_zero, List.set_cons_succ]
          refine wa_tkg 6 (some 21) (.int .i64 ((m + 1 : Nat) : Int)) rfl (by kernel_rfl) rfl rfl HT6.out (fun w h0 => by go_simp) ?_
          try simp only [Act.put, List.setIfInBounds_toArray, List.set_cons_zero, List.set_cons_succ]
          refine wa_tkg 7 (some 22) (.int .i64 (m : Int)) rfl (by kernel_rfl) rfl rfl HT6.out (fun w h0 => by have hwm := HWM.out; go_simp) ?_
          try simp only [Act.put, List.setIfInBounds_toArray, List.set_cons_zero, List.set_cons_succ]
          refine wa_tkg 8 (some 23) (.pointer (some ⟨b, o + m * 8, none⟩)) rfl (by kernel_rfl) rfl rfl HT6.out (fun w h0 => by have hmlt := HML.out; go_simp) ?_
          try simp only [Act.put, List.setIfInBounds_toArray, List.set_cons_zero, List.set_cons_succ]
          refine wa_tkg 9 (some 24) (FV g) rfl (by kernel_rfl) rfl rfl HT6.out (fun w h0 => by obtain ⟨⟨x0, x1, x2, x3, x4, x5, x6, x7⟩, hk⟩ := h0; go_simp) ?_
          try simp only [Act.put, List.setIfInBounds_toArray, List.set_cons_zero, List.set_cons_succ]
          refine wa_tkg 10 (some 25) (FV f) rfl (by kernel_rfl) rfl rfl HT6.out (fun w h0 => by obtain ⟨hx, h1p⟩ := h0; have a0 := h1p.cell 0 _ rfl; have a1 := h1p.cell 1 _ rfl; have a2 := h1p.cell 2 _ rfl; have a3 := h1p.cell 3 _ rfl; have a4 := h1p.cell 4 _ rfl; have a5 := h1p.cell 5 _ rfl; have a6 := h1p.cell 6 _ rfl; have a7 := h1p.cell 7 _ rfl; go_simp) ?_
          try simp only [Act.put, List.setIfInBounds_toArray, List.set_cons_zero, List.set_cons_succ]
          refine wa_branch [11] (by decide +kernel) rfl ?_
          refine ar_opg 11 rfl rfl (fun K hK => ?_) ar_nil
          unfold Oper.wp
          go_simp
          go_at_call 30
          refine (OA.out _).mono ?_
          rintro e w3 ⟨rfl, hb3⟩
          have HT := hid (below_t HT.out (below_t (show Below w2.heap.size w2 w2.drew from (Below.refl _ w2).drew) hb3))
          have HT6 := hid (show At8 w3 b (o + m * 8) g ∧ Blk w3 Bk 28 (fc f) from ⟨HT6.out.1.up hb3 HBB.out, HT6.out.2.below hb3 HT6.out.2.lt⟩)
          clear hb3
          go_simp
          refine hK.out _ _ HT6.out ?_
          clear hK K
          try simp only [Act.put, List.setIfInBounds_toArray, List.set_cons_zero, List.set_cons_succ]
          refine wa_tkg 12 (some 27) (.bool false) rfl (by kernel_rfl) rfl rfl HT6.out (fun w h0 => by go_simp) ?_
          try simp only [Act.put, List.setIfInBounds_toArray, List.set_cons_zero, List.set_cons_succ]
          refine wa_tk 13 (some 28) (.bool false) rfl (by kernel_rfl) rfl rfl HT6.out (fun w h0 => by go_simp) ?_
          try simp only [Act.put, List.setIfInBounds_toArray, List.set_cons_zero, List.set_cons_succ]
          refine wa_done (by decide +kernel) ?_
          clear HT6 HWM HML HBB HZ2 OA
          obtain ⟨WQ, hWQ⟩ : ∃ x, x = w3 := ⟨_, rfl⟩
          rw [← hWQ] at HT ⊢
          clear hWQ
          go_upto_region 8 with fail
          have HT := hid (show Below Z.heap.size Z WQ.drew from HT.out.drew)
          refine wa_start (S := fun W => Below Z.heap.size Z W) (by kernel_rfl) HT.out ?_
          obtain ⟨WD, hWD⟩ : ∃ x, x = WQ.drew := ⟨_, rfl⟩
          rw [← hWD] at HT ⊢
          clear hWD
          refine wa_tk 1 (some 30) (.slice (some ⟨b, o, none⟩) (m + 1) cap) rfl (by kernel_rfl) rfl rfl HT.out (fun w h0 => by go_simp) ?_
          try simp only [Act.put, List.setIfInBounds_toArray, List.set_cons_zero, List.set_cons_succ]
          refine wa_tk 3 (some 32) (FV f) rfl (by kernel_rfl) rfl rfl HT.out (fun w h0 => by have h1' := HKB.out _ h0; have a0 := h1'.cell 0 _ rfl; have a1 := h1'.cell 1 _ rfl; have a2 := h1'.cell 2 _ rfl; have a3 := h1'.cell 3 _ rfl; have a4 := h1'.cell 4 _ rfl; have a5 := h1'.cell 5 _ rfl; have a6 := h1'.cell 6 _ rfl; have a7 := h1'.cell 7 _ rfl; go_simp) ?_
          try simp only [Act.put, List.setIfInBounds_toArray, List.set_cons_zero, List.set_cons_succ]
          refine wa_branch [0, 4] (by decide +kernel) rfl ?_
          refine ar_op 0 rfl rfl (fun K hK => ?_) (ar_op 4 rfl rfl (fun K hK => ?_) ar_nil)
          · unfold Oper.wp
            go_simp
            obtain ⟨WA, hWA⟩ : ∃ x, x = WD.alloc (.cells #[] 28) := ⟨_, rfl⟩
            obtain ⟨BE, hBE⟩ : ∃ x, x = WD.heap.size := ⟨_, rfl⟩
            have hb : Below WD.heap.size WD WA := by rw [hWA]; exact (Below.refl _ _).alloc (Nat.le_refl _) _
            have HE := hid (show Blk WA BE 28 [] by rw [hWA, hBE]; exact Blk.new WD 28 [])
            have HBE := hid (show Z.heap.size ≤ BE by rw [hBE]; exact HT.out.size)
            have HT := hid (below_t HT.out hb)
            rw [← hWA, ← hBE]
            clear hWA hBE hb
            refine hK.out _ _ HT.out ?_
            clear hK K
            try simp only [Act.put, List.setIfInBounds_toArray, List.set_cons_zero, List.set_cons_succ]
            refine wa_branch [2, 4] (by decide +kernel) rfl ?_
            refine ar_op 2 rfl rfl (fun K hK => ?_) (ar_op 4 rfl rfl (fun K hK => ?_) ar_nil)
            · obtain ⟨v1, WB, happ, hfo, hb⟩ := app_lit HE.out HBE.out (HFS.out WA HT.out) HLN.out
              have HT := hid (below_t HT.out hb)
              have HO := hid hfo
              clear HE hfo hb
              refine st_append (some 31) rfl (.tmp 29) (.tmp 30) 22 22 rfl rfl _ _ _ _ rfl rfl happ ?_
              clear happ
              refine hK.out _ _ HT.out ?_
              clear hK K
              try simp only [Act.put, List.setIfInBounds_toArray, List.set_cons_zero, List.set_cons_succ]
              refine wa_branch [4] (by decide +kernel) rfl ?_
              refine ar_op 4 rfl rfl (fun K hK => ?_) ar_nil
              unfold Oper.wp
              go_simp
              obtain ⟨WC, hWC⟩ : ∃ x, x = WB.alloc (.cells #[.int .i64 f.kind, .int .i64 f.subj, .int .i64 f.obj, .int .i64 f.val, .int .i64 f.frm, .int .i64 f.to, .int .i64 f.known, .int .i64 f.no] 28) := ⟨_, rfl⟩
              obtain ⟨BF, hBF⟩ : ∃ x, x = WB.heap.size := ⟨_, rfl⟩
              have hb : Below WB.heap.size WB WC := by rw [hWC]; exact (Below.refl _ _).alloc (Nat.le_refl _) _
              have HF := hid (show Blk WC BF 28 (fc f) by rw [hWC, hBF]; exact Blk.new WB 28 (fc f))
              have HT := hid (below_t HT.out hb)
              have HO := hid (HO.out.ups hb)
              rw [← hWC, ← hBF]
              clear hWC hBF hb
              refine hK.out _ _ HT.out ?_
              clear hK K
              try simp only [Act.put, List.setIfInBounds_toArray, List.set_cons_zero, List.set_cons_succ]
              refine wa_branch [5] (by decide +kernel) rfl ?_
              refine ar_op 5 rfl rfl (fun K hK => ?_) ar_nil
              obtain ⟨v2, WE, happ, hfo, hb⟩ := app_more (x := .slice (some ⟨BF, 0, none⟩) 1 1) (m := [f]) HO.out (fs_new (l := [f]) (HF.out) (by simp [maxLen])) HLN.out (by simp) HT.out.size
              have HT := hid (HT.out.trans hb)
              have HFO := hid hfo.gs
              clear hfo hb HO HF
              refine st_append (some 34) rfl (.tmp 31) (.tmp 33) 22 22 rfl rfl _ _ _ _ rfl rfl happ ?_
              clear happ
              refine hK.out _ _ HT.out ?_
              clear hK K
              try simp only [Act.put, List.setIfInBounds_toArray, List.set_cons_zero, List.set_cons_succ]
              refine wa_tk 6 (some 4) (v2) rfl (by kernel_rfl) rfl rfl HT.out (fun w h0 => by go_simp) ?_
              try simp only [Act.put, List.setIfInBounds_toArray, List.set_cons_zero, List.set_cons_succ]
              refine wa_tk 7 (some 5) (.int .i64 0) rfl (by kernel_rfl) rfl rfl HT.out (fun w h0 => by go_simp) ?_
              try simp only [Act.put, List.setIfInBounds_toArray, List.set_cons_zero, List.set_cons_succ]
              refine wa_done (by decide +kernel) ?_
              go_wp2_with fail
              go_ret2
              exact ⟨⟨v2, by rw [HADR.out]; rfl, by rw [HADL.out, HADR.out, if_pos rfl]; exact HFO.out⟩, below_t HZB.out HT.out⟩
            · unfold Oper.wp
              go_simp
              obtain ⟨WB, hWB⟩ : ∃ x, x = WA.alloc (.cells #[.int .i64 f.kind, .int .i64 f.subj, .int .i64 f.obj, .int .i64 f.val, .int .i64 f.frm, .int .i64 f.to, .int .i64 f.known, .int .i64 f.no] 28) := ⟨_, rfl⟩
              obtain ⟨BF, hBF⟩ : ∃ x, x = WA.heap.size := ⟨_, rfl⟩
              have hb : Below WA.heap.size WA WB := by rw [hWB]; exact (Below.refl _ _).alloc (Nat.le_refl _) _
              have HF := hid (show Blk WB BF 28 (fc f) by rw [hWB, hBF]; exact Blk.new WA 28 (fc f))
              have HT := hid (below_t HT.out hb)
              have HE := hid (HE.out.below hb HE.out.lt)
              rw [← hWB, ← hBF]
              clear hWB hBF hb
              refine hK.out _ _ HT.out ?_
              clear hK K
              try simp only [Act.put, List.setIfInBounds_toArray, List.set_cons_zero, List.set_cons_succ]
              refine wa_branch [2] (by decide +kernel) rfl ?_
              refine ar_op 2 rfl rfl (fun K hK => ?_) ar_nil
              obtain ⟨v1, WC, happ, hfo, hb⟩ := app_lit HE.out HBE.out (HFS.out WB HT.out) HLN.out
              have HT := hid (below_t HT.out hb)
              have HF := hid (HF.out.below hb HF.out.lt)
              have HO := hid hfo
              clear HE hfo hb
              refine st_append (some 31) rfl (.tmp 29) (.tmp 30) 22 22 rfl rfl _ _ _ _ rfl rfl happ ?_
              clear happ
              refine hK.out _ _ HT.out ?_
              clear hK K
              try simp only [Act.put, List.setIfInBounds_toArray, List.set_cons_zero, List.set_cons_succ]
              refine wa_branch [5] (by decide +kernel) rfl ?_
              refine ar_op 5 rfl rfl (fun K hK => ?_) ar_nil
              obtain ⟨v2, WE, happ, hfo, hb⟩ := app_more (x := .slice (some ⟨BF, 0, none⟩) 1 1) (m := [f]) HO.out (fs_new (l := [f]) (HF.out) (by simp [maxLen])) HLN.out (by simp) HT.out.size
              have HT := hid (HT.out.trans hb)
              have HFO := hid hfo.gs
              clear hfo hb HO HF
              refine st_append (some 34) rfl (.tmp 31) (.tmp 33) 22 22 rfl rfl _ _ _ _ rfl rfl happ ?_
              clear happ
              refine hK.out _ _ HT.out ?_
              clear hK K
              try simp only [Act.put, List.setIfInBounds_toArray, List.set_cons_zero, List.set_cons_succ]
              refine wa_tk 6 (some 4) (v2) rfl (by kernel_rfl) rfl rfl HT.out (fun w h0 => by go_simp) ?_
              try simp only [Act.put, List.setIfInBounds_toArray, List.set_cons_zero, List.set_cons_succ]
              refine wa_tk 7 (some 5) (.int .i64 0) rfl (by kernel_rfl) rfl rfl HT.out (fun w h0 => by go_simp) ?_
              try simp only [Act.put, List.setIfInBounds_toArray, List.set_cons_zero, List.set_cons_succ]
              refine wa_done (by decide +kernel) ?_
              go_wp2_with fail
              go_ret2
              exact ⟨⟨v2, by rw [HADR.out]; rfl, by rw [HADL.out, HADR.out, if_pos rfl]; exact HFO.out⟩, below_t HZB.out HT.out⟩
          · unfold Oper.wp
            go_simp
            obtain ⟨WA, hWA⟩ : ∃ x, x = WD.alloc (.cells #[.int .i64 f.kind, .int .i64 f.subj, .int .i64 f.obj, .int .i64 f.val, .int .i64 f.frm, .int .i64 f.to, .int .i64 f.known, .int .i64 f.no] 28) := ⟨_, rfl⟩
            obtain ⟨BF, hBF⟩ : ∃ x, x = WD.heap.size := ⟨_, rfl⟩
            have hb : Below WD.heap.size WD WA := by rw [hWA]; exact (Below.refl _ _).alloc (Nat.le_refl _) _
            have HF := hid (show Blk WA BF 28 (fc f) by rw [hWA, hBF]; exact Blk.new WD 28 (fc f))
            have HT := hid (below_t HT.out hb)
            rw [← hWA, ← hBF]
            clear hWA hBF hb
            refine hK.out _ _ HT.out ?_
            clear hK K
            try simp only [Act.put, List.setIfInBounds_toArray, List.set_cons_zero, List.set_cons_succ]
            refine wa_branch [0] (by decide +kernel) rfl ?_
            refine ar_op 0 rfl rfl (fun K hK => ?_) ar_nil
            unfold Oper.wp
            go_simp
            obtain ⟨WB, hWB⟩ : ∃ x, x = WA.alloc (.cells #[] 28) := ⟨_, rfl⟩
            obtain ⟨BE, hBE⟩ : ∃ x, x = WA.heap.size := ⟨_, rfl⟩
            have hb : Below WA.heap.size WA WB := by rw [hWB]; exact (Below.refl _ _).alloc (Nat.le_refl _) _
            have HE := hid (show Blk WB BE 28 [] by rw [hWB, hBE]; exact Blk.new WA 28 [])
            have HBE := hid (show Z.heap.size ≤ BE by rw [hBE]; exact HT.out.size)
            have HT := hid (below_t HT.out hb)
            have HF := hid (HF.out.below hb HF.out.lt)
            rw [← hWB, ← hBE]
            clear hWB hBE hb
            refine hK.out _ _ HT.out ?_
            clear hK K
            try simp only [Act.put, List.setIfInBounds_toArray, List.set_cons_zero, List.set_cons_succ]
            refine wa_branch [2] (by decide +kernel) rfl ?_
            refine ar_op 2 rfl rfl (fun K hK => ?_) ar_nil
            obtain ⟨v1, WC, happ, hfo, hb⟩ := app_lit HE.out HBE.out (HFS.out WB HT.out) HLN.out
            have HT := hid (below_t HT.out hb)
            have HF := hid (HF.out.below hb HF.out.lt)
            have HO := hid hfo
            clear HE hfo hb
            refine st_append (some 31) rfl (.tmp 29) (.tmp 30) 22 22 rfl rfl _ _ _ _ rfl rfl happ ?_
            clear happ
            refine hK.out _ _ HT.out ?_
            clear hK K
            try simp only [Act.put, List.setIfInBounds_toArray, List.set_cons_zero, List.set_cons_succ]
            refine wa_branch [5] (by decide +kernel) rfl ?_
            refine ar_op 5 rfl rfl (fun K hK => ?_) ar_nil
            obtain ⟨v2, WE, happ, hfo, hb⟩ := app_more (x := .slice (some ⟨BF, 0, none⟩) 1 1) (m := [f]) HO.out (fs_new (l := [f]) (HF.out) (by simp [maxLen])) HLN.out (by simp) HT.out.size
            have HT := hid (HT.out.trans hb)
            have HFO := hid hfo.gs
            clear hfo hb HO HF
            refine st_append (some 34) rfl (.tmp 31) (.tmp 33) 22 22 rfl rfl _ _ _ _ rfl rfl happ ?_
            clear happ
            refine hK.out _ _ HT.out ?_
            clear hK K
            try simp only [Act.put, List.setIfInBounds_toArray, List.set_cons_zero, List.set_cons_succ]
            refine wa_tk 6 (some 4) (v2) rfl (by kernel_rfl) rfl rfl HT.out (fun w h0 => by go_simp) ?_
            try simp only [Act.put, List.setIfInBounds_toArray, List.set_cons_zero, List.set_cons_succ]
            refine wa_tk 7 (some 5) (.int .i64 0) rfl (by kernel_rfl) rfl rfl HT.out (fun w h0 => by go_simp) ?_
            try simp only [Act.put, List.setIfInBounds_toArray, List.set_cons_zero, List.set_cons_succ]
            refine wa_done (by decide +kernel) ?_
            go_wp2_with fail
            go_ret2
            exact ⟨⟨v2, by rw [HADR.out]; rfl, by rw [HADL.out, HADR.out, if_pos rfl]; exact HFO.out⟩, below_t HZB.out HT.out⟩
  · rw [if_neg hc0] at HADR
    have HB := hid (below_t HZB.out HT.out)
    go_wp2_with fail
    go_ret2
    exact ⟨⟨.slice none 0 0, by rw [HADR.out]; rfl, by rw [HADL.out, HADR.out, if_neg hc0]; exact .inl ⟨rfl, rfl⟩⟩, HB.out⟩
end Go.Proofs.Ytbejjindkcjecaa

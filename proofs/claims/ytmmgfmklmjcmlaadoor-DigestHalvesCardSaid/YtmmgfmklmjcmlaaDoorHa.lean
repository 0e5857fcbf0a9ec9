/- The statement on halves: the digest of a list is that of the node of its two parts. -/
import Derived.Test.YtmmgfmklmjcmlaaDoorRun
namespace Go.Proofs.YtmmgfmklmjcmlaaDoor
open Go.RowKit Go
set_option linter.unusedVariables false
set_option linter.unusedSimpArgs false
set_option maxRecDepth 100000 in
set_option maxHeartbeats 8000000 in
theorem halves_any (v : Value) (b : List UInt8) (w : World) (hv : BS w v b) (hk : Konst w) : Calls Tryd.prog 7 #[v] w (RetT w) := by
  have HV := hid hv; have HK := hid hk
  clear hv hk
  go_enter Tryd.func7, Tryd.ntmps7
  go_wp2_with fail
  refine (sane_any _ HK.out).mono ?_
  rintro e w1 ⟨rfl, hb1⟩
  have HB1 := hid hb1; have HK1 := hid (HK.out.ups hb1); have HV1 := hid (HV.out.ups hb1)
  clear hb1
  go_wp2_with fail
  refine (digestsOf_any v b _ HV1.out).mono ?_
  rintro e wB ⟨vl, rfl, hoe, hb2⟩
  have HBB := hid (below_tr HB1.out hb2); have HKB := hid (HK1.out.ups hb2); have HL := hid hoe.ds
  clear hb2 hoe
  have hlen := digs_len b
  obtain ⟨p, cap, rfl, hcap, hcap2⟩ := HL.out.form
  obtain ⟨len, hln⟩ : ∃ len, len = (digs b).length := ⟨_, rfl⟩
  rw [← hln] at hlen HL hcap ⊢
  have HLN := hid hln
  have HLE := hid hlen
  clear hln hlen HB1 HK1 HV1
  by_cases h0 : len = 0
  · subst h0
    have hnil : digs b = [] := List.eq_nil_of_length_eq_zero HLN.out.symm
    have HNIL := hid hnil
    clear hnil hcap
    go_wp2_with (first | (go_at_call 17; refine (tree_any 0 (digs b) _ _ (by rw [← HLN.out]; exact Nat.le_refl _) HL.out HKB.out).mono ?_; rintro e w3 ⟨ut, hdt, rfl, hb⟩; have HB3 := hid (below_tr HBB.out hb); have HK3 := hid (HKB.out.ups hb); clear hb) | (go_at_call 14; refine (Tagged_any ⟨#[101, 109, 112, 116, 121]⟩ (.slice none 0 0) [] _ (.inl ⟨rfl, rfl⟩) HK3.out (by decide) (by simp)).mono ?_; rintro e w4 ⟨u4, hd4, rfl, hb⟩; have HB4 := hid (below_tr HB3.out hb); have hq := eqD_true hdt hd4 (by rw [HNIL.out, tree_nil]; rfl); clear hb))
    go_ret
    exact ⟨rfl, HB4.out⟩
  by_cases h1 : len = 1
  · subst h1
    obtain ⟨d, hd⟩ : ∃ d, digs b = [d] := List.length_eq_one_iff.1 HLN.out.symm
    obtain ⟨gl, o, cap', hpv, _, _, hlc, hgl, h32⟩ := HL.out.pos (by rw [← HLN.out]; omega)
    simp only [Value.slice.injEq] at hpv
    obtain ⟨rfl, hpx, rfl⟩ := hpv
    have hde := cells_elem hlc h32 (k := 0) (d := d) (by rw [hd]; rfl)
    have HDC := hid hde.1; have HDD := hid hde.2; have HD := hid hd; have HGL := hid hgl
    clear hpx hlc hgl h32 hde hd h0
    have HT := hid ((Below.refl wB.heap.size wB).drew)
    go_wp2_with fail
    go_region_held3 (fun W => Below wB.heap.size wB W) (first | exact HT.out | exact HT1.out | exact HT2.out) ((first
      | (go_at_call 17; refine (tree_any 1 (digs b) _ _ (by rw [← HLN.out]; exact Nat.le_refl _) (HL.out.ups ‹_›) (HKB.out.ups ‹_›)).mono ?_; rintro e w17 ⟨uf, hdf, rfl, hb⟩; have HT1 := hid (below_tr ‹Below wB.heap.size wB _› hb); clear hb)
      | (go_at_call 14; refine (Tagged_any ⟨#[108, 101, 97, 102]⟩ _ d _ (.inr ⟨⟨gl, o, none⟩, 32, by rw [HDD.out.len], by rw [HDD.out.len]; omega, by unfold maxLen; omega, by have h := HDC.out.ups ‹Below wB.heap.size wB _›; simpa using h, Nat.lt_of_lt_of_le HGL.out (Below.size ‹_›)⟩) (HKB.out.ups ‹_›) (by decide) (by rw [HDD.out.len]; omega)).mono ?_; rintro e w14 ⟨u14, hd14, rfl, hb⟩; have HT2 := hid (below_tr ‹Below wB.heap.size wB _› hb); have hq := eqD_true hdf hd14 (by rw [HD.out, tree_one]; rfl); clear hb)))
    all_goals
      go_wp2
      go_ret
      exact ⟨rfl, HBB.out.trans (HT2.out.mono HBB.out.size)⟩
  · have h2 : 2 ≤ len := by omega
    have hd0 : ((len : Int) == 0) = false := by simp; omega
    have hd1 : ((len : Int) == 1) = false := by simp; omega
    obtain ⟨gl, o, cap', hpv, _, _, hlc, hgl, h32⟩ := HL.out.pos (by rw [← HLN.out]; omega)
    simp only [Value.slice.injEq] at hpv
    obtain ⟨rfl, hpx, rfl⟩ := hpv
    have HLC := hid hlc; have H32 := hid h32; have HGL := hid hgl
    clear hpx hlc hgl h32 h0 h1
    go_wp2
    go_loopw [4] (fun t w1 => ∃ j m : Nat, t = .int .i64 m ∧ m = 2 ^ j ∧ m < len ∧ wB = w1) (fun t _ => len - (intOf t).toNat)
    case atStart => exact ⟨0, 1, rfl, rfl, by omega, rfl⟩
    case round =>
      obtain ⟨j, m, rfl, hm, hml, rfl⟩ := hrel
      have hm0 : 0 < m := by rw [hm]; exact Nat.two_pow_pos j
      have HM := hid hm; clear hm
      by_cases h3 : 2 * m < len
      · clear hd0 hd1 hcap hcap2
        have := HLE.out
        go_wp2
        go_roundw
        case rel => exact ⟨j + 1, 2 * m, by go_num, by rw [HM.out, Nat.pow_succ]; omega, h3, trivial⟩
        case measure => simp [intOf]; omega
      have hf := hid (fp_eq len j (by rw [← HM.out]; exact hml) (by rw [← HM.out]; omega))
      have e1 : m ≤ cap := by omega
      have e2 : ¬ cap = m := by omega
      have e3 : m ≤ len := by omega
      have h3' : ¬ ((2 : Int) * m < len) := by omega
      have hlen24 := HLE.out
      go_wp2_with fail
      have HTK : Hid (DS wB (.slice (some ⟨gl, o, none⟩) m cap) ((digs b).take m)) := hid (DS.take HLC.out HGL.out H32.out m (by rw [← HLN.out]; exact e3) e1 hcap2)
      have HDR : Hid (DS wB (.slice (some ⟨gl, o + m * 32, none⟩) (len - m) (cap - m)) ((digs b).drop m)) := hid (by have h := DS.drop HLC.out HGL.out H32.out m (by rw [← HLN.out]; exact hcap) hcap2; rwa [← HLN.out] at h)
      have HS := hid ((Below.refl wB.heap.size wB).drew)
      refine wa_start (S := fun W => Below wB.heap.size wB W) (by kernel_rfl) HS.out ?_
      refine wa_move 0 (some 35) (.tmp 3) (.slice (some ⟨gl, o, none⟩) len cap) rfl rfl rfl (by kernel_rfl) rfl rfl HS.out ?_
      simp only [Act.put, List.setIfInBounds_toArray, List.set_cons_zero, List.set_cons_succ]
      refine wa_move 1 (some 36) (.tmp 4) (.int .i64 m) rfl rfl rfl (by kernel_rfl) rfl rfl HS.out ?_
      simp only [Act.put, List.setIfInBounds_toArray, List.set_cons_zero, List.set_cons_succ]
      refine wa_tk 2 (some 37) (.slice (some ⟨gl, o, none⟩) m cap) rfl (by kernel_rfl) rfl rfl HS.out (fun w h0 => by go_simp) ?_
      simp only [Act.put, List.setIfInBounds_toArray, List.set_cons_zero, List.set_cons_succ]
      refine wa_move 4 (some 39) (.tmp 3) (.slice (some ⟨gl, o, none⟩) len cap) rfl rfl rfl (by kernel_rfl) rfl rfl HS.out ?_
      simp only [Act.put, List.setIfInBounds_toArray, List.set_cons_zero, List.set_cons_succ]
      refine wa_move 5 (some 40) (.tmp 4) (.int .i64 m) rfl rfl rfl (by kernel_rfl) rfl rfl HS.out ?_
      simp only [Act.put, List.setIfInBounds_toArray, List.set_cons_zero, List.set_cons_succ]
      refine wa_tk 6 (some 41) (.slice (some ⟨gl, o + m * 32, none⟩) (len - m) (cap - m)) rfl (by kernel_rfl) rfl rfl HS.out (fun w h0 => by go_simp) ?_
      simp only [Act.put, List.setIfInBounds_toArray, List.set_cons_zero, List.set_cons_succ]
      repeat' (first
        | exact ar_nil
        | (refine ar_op 3 rfl rfl (fun K hK => ?_) ?_; go_simp; go_at_call 17; refine (tree_any len _ _ _ (by rw [List.length_take]; have := HLN.out; omega) (HTK.out.ups HS.out) (HKB.out.ups HS.out)).mono ?_; rintro e W3 ⟨ua, hda, rfl, hb⟩; have HS := hid (HS.out.trans (hb.mono HS.out.size)); (first | (have HR5 := hid (HR5.out.ups hb)) | skip); (first | (have HR6 := hid (HR6.out.ups hb)) | skip); refine hK.out _ _ HS.out ?_; clear hK K; clear hb; try simp only [Act.put, List.setIfInBounds_toArray, List.set_cons_zero, List.set_cons_succ])
        | (refine ar_op 7 rfl rfl (fun K hK => ?_) ?_; go_simp; go_at_call 17; refine (tree_any len _ _ _ (by rw [List.length_drop]; have := HLN.out; omega) (HDR.out.ups HS.out) (HKB.out.ups HS.out)).mono ?_; rintro e W7 ⟨ub, hdb, rfl, hb⟩; have HS := hid (HS.out.trans (hb.mono HS.out.size)); (first | (have HR5 := hid (HR5.out.ups hb)) | skip); (first | (have HR6 := hid (HR6.out.ups hb)) | skip); refine hK.out _ _ HS.out ?_; clear hK K; clear hb; try simp only [Act.put, List.setIfInBounds_toArray, List.set_cons_zero, List.set_cons_succ])
        | (refine ar_op 8 rfl rfl (fun K hK => ?_) ?_; refine st_alloc (some 5) rfl rfl ?_; intro W8 g5 hg hr hb hs8; have HG5 := hid (show wB.heap.size ≤ g5 by rw [hg]; exact HS.out.size); (first | (have HNE := hid (show g5 ≠ g6 by have := HR6.out.2.2; omega)) | skip); have HS := hid (HS.out.trans (hb.mono HS.out.size)); (first | (have HR5 := hid (HR5.out.ups hb)) | skip); (first | (have HR6 := hid (HR6.out.ups hb)) | skip); have HR5 := hid hr; clear hg hr hs8; refine hK.out _ _ HS.out ?_; clear hK K; clear hb; try simp only [Act.put, List.setIfInBounds_toArray, List.set_cons_zero, List.set_cons_succ])
        | (refine ar_op 9 rfl rfl (fun K hK => ?_) ?_; refine st_alloc (some 6) rfl rfl ?_; intro W9 g6 hg hr hb hs9; have HG6 := hid (show wB.heap.size ≤ g6 by rw [hg]; exact HS.out.size); (first | (have HNE := hid (show g5 ≠ g6 by have := HR5.out.2.2; omega)) | skip); have HS := hid (HS.out.trans (hb.mono HS.out.size)); (first | (have HR5 := hid (HR5.out.ups hb)) | skip); (first | (have HR6 := hid (HR6.out.ups hb)) | skip); have HR6 := hid hr; clear hg hr hs9; refine hK.out _ _ HS.out ?_; clear hK K; clear hb; try simp only [Act.put, List.setIfInBounds_toArray, List.set_cons_zero, List.set_cons_succ])
        | (refine ar_op 10 rfl rfl (fun K hK => ?_) ?_; refine st_put none rfl (.tmp 5) (.tmp 38) rfl g5 ua _ rfl rfl HR5.out hda ?_; intro W10 hc10 hr10 ho10; have HS := hid (ho10.below HS.out HS.out.size HG5.out); have HR6 := hid (ho10.room HR6.out (Ne.symm HNE.out)); have HC5 := hid hc10; clear hc10 hr10 ho10; refine hK.out _ _ HS.out ?_; clear hK K; try simp only [Act.put, List.setIfInBounds_toArray, List.set_cons_zero, List.set_cons_succ])
        | (refine ar_op 11 rfl rfl (fun K hK => ?_) ?_; refine st_put none rfl (.tmp 6) (.tmp 42) rfl g6 ub _ rfl rfl HR6.out hdb ?_; intro wC hc11 hr11 ho11; have HS := hid (ho11.below HS.out HS.out.size HG6.out); have HC5 := hid (ho11.cells HC5.out HNE.out); have HC6 := hid hc11; clear hc11 hr11 ho11; refine hK.out _ _ HS.out ?_; clear hK K; try simp only [Act.put, List.setIfInBounds_toArray, List.set_cons_zero, List.set_cons_succ])
        | (refine wa_branch [3, 8, 9] (by decide +kernel) rfl ?_)
        | (refine wa_branch [7, 8, 9] (by decide +kernel) rfl ?_)
        | (refine wa_branch [8, 9] (by decide +kernel) rfl ?_)
        | (refine wa_branch [9] (by decide +kernel) rfl ?_)
        | (refine wa_branch [10] (by decide +kernel) rfl ?_)
        | (refine wa_branch [11] (by decide +kernel) rfl ?_)
        | (refine wa_branch [8] (by decide +kernel) rfl ?_)
        | (refine wa_branch [7, 9] (by decide +kernel) rfl ?_)
        | (refine wa_branch [7] (by decide +kernel) rfl ?_)
        | (refine wa_branch [7, 8] (by decide +kernel) rfl ?_)
        | (refine wa_branch [3, 9] (by decide +kernel) rfl ?_)
        | (refine wa_branch [3] (by decide +kernel) rfl ?_)
        | (refine wa_branch [3, 8] (by decide +kernel) rfl ?_)
        )
      all_goals
        refine wa_done (by kernel_rfl) ?_
        have HW := hid (HBB.out.trans (HS.out.mono HBB.out.size))
        have HLF := hid (HL.out.ups HS.out); have HKC := hid (HKB.out.ups HS.out)
        have HGL5 := hid (show g5 < wC.heap.size from HC5.out.lt (by intro h; have := hda.len'; rw [h] at this; simp at this))
        have HGL6 := hid (show g6 < wC.heap.size from HC6.out.lt (by intro h; have := hdb.len'; rw [h] at this; simp at this))
        have heq : tree (digs b) = tagd nodeS (tree ((digs b).take m) ++ tree ((digs b).drop m)) := by
          have h := tree_two (digs b) (by rw [← HLN.out]; exact h2)
          rw [← HLN.out, hf.out, ← HM.out] at h
          exact h
        have HEQ := hid heq
        clear heq HS HR5 HR6 HTK HDR HNE HG5 HG6 HLC HGL
        have HT := hid ((Below.refl wC.heap.size wC).drew)
        go_wp2_with fail
        go_region_held3 (fun W => Below wC.heap.size wC W) (first | exact HT.out | exact HT1.out | exact HT2.out | exact HT3.out | exact HT4.out | exact (Below.drew (Below.alloc ‹Below wC.heap.size wC _› (Below.size ‹_›) _)) | exact (Below.alloc ‹Below wC.heap.size wC _› (Below.size ‹_›) _)) ((first
          | (go_at_call 17; refine (tree_any len (digs b) _ _ (by rw [← HLN.out]; exact Nat.le_refl _) (HLF.out.ups ‹_›) (HKC.out.ups ‹_›)).mono ?_; rintro e w17 ⟨uf, hdf, rfl, hb⟩; have HT1 := hid (below_tr ‹Below wC.heap.size wC _› hb); clear hb)
          | (go_at_call 14; refine (Tagged_any ⟨#[110, 111, 100, 101]⟩ _ _ _ (HO6.out.bs (by rw [List.length_append, List.nil_append, tree_length, tree_length]; omega)) (HKC.out.ups ‹_›) (by decide) (by rw [List.length_append, List.nil_append, tree_length, tree_length]; omega)).mono ?_; rintro e w14 ⟨u14, hd14, rfl, hb⟩; have HT2 := hid (below_tr ‹Below wC.heap.size wC _› hb); have hq := eqD_true hdf hd14 HEQ.out; clear hb)
          | (refine step_ob rfl (.tmp 45) (.tmp 46) rfl rfl wC.heap.size [] (tree ((digs b).take m)) (.inr ⟨rfl, _, rfl⟩) (hda.bs (HC5.out.ups ‹_›) (Nat.lt_of_lt_of_le HGL5.out (Below.size ‹_›))) (by rw [tree_length]; simp) (Below.size ‹_›) ?_; intro v5 w5 ho5 hb5; have HT3 := hid (Below.trans ‹Below wC.heap.size wC _› hb5); have HO5 := hid ho5; clear ho5 hb5)
          | (refine step_ob rfl (.tmp 47) (.tmp 48) rfl rfl wC.heap.size _ (tree ((digs b).drop m)) HO5.out (hdb.bs (HC6.out.ups ‹_›) (Nat.lt_of_lt_of_le HGL6.out (Below.size ‹_›))) (by rw [List.nil_append, tree_length, tree_length]; omega) (Below.size ‹_›) ?_; intro v6 w6 ho6 hb6; have HT4 := hid (Below.trans ‹Below wC.heap.size wC _› hb6); have HO6 := hid ho6; clear ho6 hb6)))
        all_goals
          go_wp2
          go_ret
          exact ⟨rfl, HW.out.trans (HT2.out.mono HW.out.size)⟩
end Go.Proofs.YtmmgfmklmjcmlaaDoor

/- The law Past, walked. -/
import Derived.Test.YtbejjindkcjecaaSamePts
import Derived.Test.YtbejjindkcjecaaRefC
namespace Go.Proofs.Ytbejjindkcjecaa
open Go.RowKit Go
set_option linter.unusedVariables false
set_option linter.unusedSimpArgs false
set_option maxRecDepth 100000 in
set_option maxHeartbeats 8000000 in
theorem past_law (va vb : Value) (La Lb : List FA) (k : KE) (t q : Int) (w : World) (hva : FS w va La) (hvb : FS w vb Lb) (hfa : ∀ f ∈ La, fwf f) (hfb : ∀ f ∈ Lb, fwf f) :
    Calls Try.prog 6 #[va, vb, KV k, .int .i64 t, .int .i64 q] w fun e w' => e = .returned (.bool true) ∧ Below w.heap.size w w' := by
  obtain ⟨Z, hZ⟩ : ∃ Z, Z = w.alloc (.cells #[.int .i64 k.1, .int .i64 k.2.1, .int .i64 k.2.2] 24) := ⟨_, rfl⟩
  have hzb : Below w.heap.size w Z := by rw [hZ]; exact (Below.refl _ w).alloc (Nat.le_refl _) _
  have hzk : Blk Z w.heap.size 24 (kc k) := by rw [hZ]; exact Blk.new w 24 (kc k)
  obtain ⟨B1, hB1⟩ : ∃ B1, B1 = w.heap.size := ⟨_, rfl⟩
  have hfz := hva.ups hzb
  have hfy := hvb.ups hzb
  obtain ⟨pa, ca, hpa⟩ := hva.form
  obtain ⟨pb, cb, hpb⟩ := hvb.form
  obtain ⟨na, hna⟩ : ∃ n, n = La.length := ⟨_, rfl⟩
  obtain ⟨nb, hnb⟩ : ∃ n, n = Lb.length := ⟨_, rfl⟩
  rw [← hna] at hpa
  rw [← hnb] at hpb
  subst hpa; subst hpb
  have HFA := hid (fun (W : World) (hW : Below Z.heap.size Z W) => hfz.ups hW)
  have HFB := hid (fun (W : World) (hW : Below Z.heap.size Z W) => hfy.ups hW)
  have hgr : FR pb Z.heap.size Lb Z := hfy.gr 8 fc_len (by omega)
  have HGR := hid (fun (W : World) (hW : Below Z.heap.size Z W) => hgr.up hW)
  have HKB := hid (fun (W : World) (hW : Below Z.heap.size Z W) => show Blk W B1 24 (kc k) by rw [hB1]; exact hzk.below hW hzk.lt)
  have HZB := hid hzb; have HNA := hid hna; have HNB := hid hnb; have HWA := hid hfa; have HWB := hid hfb
  have hma := hva.len; have hmb := hvb.len
  rw [← hna] at hma
  rw [← hnb] at hmb
  unfold maxLen at hma hmb
  have HT := hid (Below.refl Z.heap.size Z)
  clear hva hvb hzb hzk hfz hfy hgr hna hnb hfa hfb
  go_enter Try.func6, Try.ntmps6
  go_upto_region 1 with fail
  rw [← hB1, ← hZ]
  clear hZ hB1
  go_wp2_with fail
  refine (sane_any Z).mono ?_
  rintro e wn ⟨rfl, hb⟩
  have HT := hid (below_t HT.out hb)
  clear hb
  have HB := hid (below_t HZB.out HT.out)
  by_cases ha10 : 10 < na
  · have ha10' : (10 : Int) < (na : Int) := by omega
    go_wp2_with fail
    go_ret
    exact ⟨rfl, HB.out⟩
  have ha10' : ¬ ((10 : Int) < (na : Int)) := by omega
  by_cases hb6 : 6 < nb
  · have hb6' : (6 : Int) < (nb : Int) := by omega
    go_wp2_with fail
    go_ret
    exact ⟨rfl, HB.out⟩
  have hb6' : ¬ ((6 : Int) < (nb : Int)) := by omega
  by_cases hq0 : q < 0
  · go_wp2_with fail
    go_ret
    exact ⟨rfl, HB.out⟩
  have HNA10 := hid (show na ≤ 10 by omega); have HNB6 := hid (show nb ≤ 6 by omega); have HQ0 := hid (show 0 ≤ q by omega)
  go_upto_region 5 with fail
  clear ha10 ha10' hb6 hb6' hq0 HB
  obtain ⟨Z1, hZ1⟩ : ∃ x, x = wn := ⟨_, rfl⟩
  rw [← hZ1] at HT ⊢
  clear hZ1
  go_wp2_with fail
  go_loopw [11] (fun i wr => ∃ n : Nat, n ≤ nb ∧ i = .int .i64 n ∧ Hid (∀ f ∈ Lb.take n, q < f.known) ∧ Hid (Below Z1.heap.size Z1 wr)) (fun i _ => nb - (intOf i).toNat)
  case atStart => exact ⟨0, by omega, rfl, hid (by simp), hid (Below.refl _ _)⟩
  case round =>
    obtain ⟨n, hn, rfl, hall, hbl⟩ := hrel
    by_cases hlt : n < nb
    · obtain ⟨f, hf⟩ := get_lt (l := Lb) (i := n) (by rw [← HNB.out]; exact hlt)
      obtain ⟨b, o, rfl, hbb, x0, x1, x2, x3, x4, x5, x6, x7⟩ := (HGR.out _ (below_t HT.out hbl.out)).at8 hf
      have HTS := hid (take_snoc hf)
      clear hbb hf
      by_cases hkq : f.known ≤ q
      · have HB := hid (below_t HZB.out (below_t HT.out hbl.out))
        go_wp2
        go_ret
        exact ⟨rfl, HB.out⟩
      · have HN := hid (show ∀ g ∈ Lb.take (n + 1), q < g.known by
          rw [HTS.out]; intro g hg
          rcases List.mem_append.1 hg with h | h
          · exact hall.out g h
          · rw [List.mem_singleton.1 h]; omega)
        clear hall HTS
        go_wp2
        go_roundw
        case rel => exact ⟨n + 1, by omega, by go_num, HN, hbl⟩
        case measure => simp [intOf]; omega
    · have HLATE := hid (show ∀ f ∈ Lb, q < f.known by
        have h := hall.out
        rwa [show n = Lb.length by have := HNB.out; omega, List.take_length] at h)
      have HT := hid (below_t HT.out hbl.out)
      clear hall hbl
      obtain ⟨Z2, hZ2⟩ : ∃ x, x = wr := ⟨_, rfl⟩
      rw [← hZ2] at HT ⊢
      clear hZ2
      have hbc : Below Z2.heap.size Z2 (Z2.alloc (.cells #[] 28)) := (Below.refl _ Z2).alloc (Nat.le_refl _) _
      have HTc := hid (below_t HT.out hbc)
      obtain ⟨v1, W1, happ1, hfo1, hb1⟩ := app_lit (Blk.new Z2 28 []) HT.out.size (HFA.out _ HTc.out) (by have := HNA.out; have := HNA10.out; omega)
      have HT1 := hid (below_t HTc.out hb1)
      obtain ⟨v2, W2, happ2, hfo2, hb2⟩ := app_more hfo1 (HFB.out _ HT1.out) (by have := HNA.out; have := HNA10.out; omega) (by have := HNB.out; have := HNB6.out; omega) HT1.out.size
      have HT2 := hid (HT1.out.trans hb2)
      obtain ⟨p12, c12, hv2⟩ := hfo2.gs.form
      subst hv2
      obtain ⟨nab, hnab⟩ : ∃ x, x = (La ++ Lb).length := ⟨_, rfl⟩
      rw [← hnab] at happ2 hfo2
      have HNAB := hid hnab
      have hnab16 : nab ≤ 16 := by rw [hnab, List.length_append]; have := HNA.out; have := HNA10.out; have := HNB.out; have := HNB6.out; omega
      have HAP1 := hid happ1; have HAP2 := hid happ2; have HAB := hid hfo2.gs
      clear happ1 happ2 hfo1 hfo2 hb1 hb2 hbc HTc HT1 hnab
      have h1 := HKB.out _ HT2.out; have k0 := h1.cell 0 _ rfl; have k1 := h1.cell 1 _ rfl; have k2 := h1.cell 2 _ rfl
      clear h1
      go_upto_region 12 with (first
        | (at_builtin; refine wpList_append_run rfl (.tmp 47) (.tmp 48) 22 22 rfl _ _ _ ?_ ?_ HAP1.out ?_; exact rfl; exact rfl)
        | (at_builtin; refine wpList_append_run rfl (.tmp 49) (.tmp 50) 22 22 rfl _ _ _ ?_ ?_ HAP2.out ?_; exact rfl; exact rfl))
      obtain ⟨Z3, hZ3⟩ : ∃ x, x = W2.alloc (.cells #[.int .i64 k.1, .int .i64 k.2.1, .int .i64 k.2.2] 24) := ⟨_, rfl⟩
      obtain ⟨B3, hB3⟩ : ∃ x, x = W2.heap.size := ⟨_, rfl⟩
      rw [← hZ3, ← hB3]
      have hb : Below W2.heap.size W2 Z3 := by rw [hZ3]; exact (Below.refl _ W2).alloc (Nat.le_refl _) _
      have HK3 := hid (show Blk Z3 B3 24 (kc k) by rw [hZ3, hB3]; exact Blk.new W2 24 (kc k))
      have HBW := hid (show B3 ≤ Z3.heap.size by rw [hB3]; exact hb.size)
      have HW2 := hid (show Below B3 W2 Z3 by rw [hB3]; exact hb)
      have HB3 := hid hB3
      clear hZ3 hB3 hb k0 k1 k2 HAP1 HAP2
      have hgr2 : FR p12 W2.heap.size (La ++ Lb) W2 := HAB.out.gr 8 fc_len (by omega)
      have HGR2 := hid (fun (W : World) (hW : Below B3 W2 W) => hgr2.up (by rw [← HB3.out]; exact hW))
      clear hgr2
      go_wp2_with fail
      go_loopw [14, 13] (fun i u wr => ∃ n : Nat, n ≤ nab ∧ i = .int .i64 n ∧ Hid (KO wr B3 u (k :: ((La ++ Lb).take n).map F7.Fact.key)) ∧ Hid (Below B3 W2 wr)) (fun i _ _ => nab - (intOf i).toNat)
      case atStart => exact ⟨0, by omega, rfl, hid (ko_lit HK3.out (Nat.le_refl _)), HW2⟩
      case round =>
        obtain ⟨n, hn, rfl, hko, hbl⟩ := hrel
        by_cases hlt : n < nab
        · obtain ⟨f, hf⟩ := get_lt (l := La ++ Lb) (i := n) (by rw [← HNAB.out]; exact hlt)
          obtain ⟨b, o, rfl, hbb, x0, x1, x2, x3, x4, x5, x6, x7⟩ := (HGR2.out _ hbl.out).at8 hf
          have hbs : B3 ≤ wr.heap.size := by rw [HB3.out]; exact hbl.out.size
          obtain ⟨vk2, w3, happ, hko2, hb2⟩ := app_key2 hko.out f.key (by
            have h2 : ((La ++ Lb).take n).length ≤ n := by rw [List.length_take]; omega
            simp only [List.length_cons, List.length_map]; omega) hbs
          simp only [F7.Fact.key] at happ
          have HAPP := hid happ
          have HO := hid (show KO w3 B3 vk2 (k :: ((La ++ Lb).take (n + 1)).map F7.Fact.key) by
            rw [take_snoc hf, List.map_append, ← List.cons_append]; exact hko2)
          have HB4 := hid (hbl.out.trans hb2)
          clear happ hko2 hb2 hbb hf hko hbs
          go_wp2_with (at_builtin; refine wpList_append_run rfl (.tmp 60) (.tmp 66) 37 37 rfl _ _ _ ?_ ?_ HAPP.out ?_; exact rfl; exact rfl)
          go_roundw
          case rel => exact ⟨n + 1, by omega, by go_num, HO, HB4⟩
          case measure => simp [intOf]; omega
        · obtain ⟨ks, hks⟩ : ∃ ks, ks = k :: ((La ++ Lb).take n).map F7.Fact.key := ⟨_, rfl⟩
          rw [← hks] at hko
          obtain ⟨pk, ck, hpk⟩ := hko.out.gs.form
          subst hpk
          obtain ⟨m, hm⟩ : ∃ m, m = ks.length := ⟨_, rfl⟩
          have hm2 := hko.out.gs.len
          unfold maxLen at hm2
          rw [← hm] at hko hm2 ⊢
          have HM := hid hm
          have HTL := hid (show Below Z.heap.size Z wr from HT2.out.trans (hbl.out.mono (by rw [HB3.out]; exact HT2.out.size)))
          have HAL := hid (HAB.out.ups (show Below W2.heap.size W2 wr by rw [← HB3.out]; exact hbl.out))
          obtain ⟨Wl, hWl⟩ : ∃ x, x = wr := ⟨_, rfl⟩
          have hkr : KR pk Wl.heap.size ks Wl := by rw [hWl]; exact hko.out.gs.gr 3 kc_len (by omega)
          rw [← hWl] at HTL HAL ⊢
          have HKR := hid (fun (W : World) (hW : Below Wl.heap.size Wl W) => hkr.up hW)
          clear hks hm hkr hko hbl hWl HT HT2 HK3 HW2 HGR2 HAB HBW HB3
          have HBL := hid (below_t HZB.out HTL.out)
          have A1 := hid (fun (W : World) (hW : Below Wl.heap.size Wl W) (kk : KE) => at_any (.slice pa na ca) La kk t q W (HFA.out W (below_t HTL.out hW)) (fwf_wf HWA.out))
          have hwab : ∀ f ∈ La ++ Lb, fwf f := fun f hf => (List.mem_append.1 hf).elim (HWA.out f) (HWB.out f)
          have A2 := hid (fun (W : World) (hW : Below Wl.heap.size Wl W) (kk : KE) => show Calls Try.prog 18 #[.slice p12 nab c12, KV kk, .int .i64 t, .int .i64 q] W fun e w' => e = .returned (.tuple #[.int .i64 (F7.val kk t q La).1, .bool (F7.val kk t q La).2]) ∧ Below W.heap.size W w' from by
            have h := at_any (.slice p12 nab c12) (La ++ Lb) kk t q W (HAL.out.ups hW) (fwf_wf hwab)
            rwa [F7.val_past kk t La Lb HLATE.out] at h)
          have hla : La.length ≤ 10 := by have := HNA.out; have := HNA10.out; omega
          have hlab : (La ++ Lb).length ≤ 16 := by rw [← HNAB.out]; exact hnab16
          have P1 := hid (fun (W : World) (hW : Below Wl.heap.size Wl W) (kk : KE) => points_any (.slice pa na ca) La kk 0 40 q W (HFA.out W (below_t HTL.out hW)) (by omega) (Nat.le_trans (List.length_filter_le _ _) (by omega)))
          have P2 := hid (fun (W : World) (hW : Below Wl.heap.size Wl W) (kk : KE) => show Calls Try.prog 21 #[.slice p12 nab c12, KV kk, .int .i64 0, .int .i64 40, .int .i64 q] W fun e w' => ∃ u, e = .returned u ∧ PS w' u (F7.points kk 0 40 q La) ∧ Below W.heap.size W w' from by
            have h := points_any (.slice p12 nab c12) (La ++ Lb) kk 0 40 q W (HAL.out.ups hW) (by omega) (Nat.le_trans (List.length_filter_le _ _) (by omega))
            rwa [show F7.points kk 0 40 q (La ++ Lb) = F7.points kk 0 40 q La from F7.points_congr (fun x _ _ _ => F7.val_past kk x La Lb HLATE.out)] at h)
          have HWK1 := hid (fwf_wk HWA.out); have HWK2 := hid (fwf_wk hwab)
          have HLA := hid hla; have HLAB := hid hlab
          clear hla hlab hwab
          go_wp2_with fail
          go_loopw [15] (fun i wr => ∃ n : Nat, n ≤ m ∧ i = .int .i64 n ∧ Hid (Below Wl.heap.size Wl wr)) (fun i _ => m - (intOf i).toNat)
          case atStart => exact ⟨0, by omega, rfl, hid (Below.refl _ _)⟩
          case round =>
            obtain ⟨i, hi, rfl, hbl⟩ := hrel
            by_cases hlt3 : i < m
            · obtain ⟨kk, hkk⟩ := get_lt (l := ks) (i := i) (by rw [← HM.out]; exact hlt3)
              obtain ⟨bk, ok, rfl, hbk, y0, y1, y2⟩ := (HKR.out wr hbl.out).at3 hkk
              obtain ⟨vv1, hvv⟩ : ∃ x, x = F7.val kk t q La := ⟨_, rfl⟩
              have A1k := hid (fun (W : World) (hW : Below Wl.heap.size Wl W) => A1.out W hW kk)
              have A2k := hid (fun (W : World) (hW : Below Wl.heap.size Wl W) => A2.out W hW kk)
              have P1 := hid (fun (W : World) (hW : Below Wl.heap.size Wl W) => P1.out W hW kk)
              have P2 := hid (fun (W : World) (hW : Below Wl.heap.size Wl W) => P2.out W hW kk)
              rw [← hvv] at A1k A2k
              have HKX := hid (fun (W : World) (hW : Below Wl.heap.size Wl W) => (HKR.out W hW).at3 hkk)
              clear hvv hbk hkk A1 A2 HKR HWK1 HWK2 HLA HLAB HLATE
              go_wp2_with fail
              refine (A1k.out _ hbl.out).mono ?_
              rintro e wn ⟨rfl, hb⟩
              have hbl := hid (below_t hbl.out hb)
              clear hb y0 y1 y2
              obtain ⟨_, _, hbe, hbk, y0, y1, y2⟩ := HKX.out _ hbl.out
              cases hbe
              clear hbk A1k
              go_wp2_with fail
              refine (A2k.out _ hbl.out).mono ?_
              rintro e wn ⟨rfl, hb⟩
              have hbl := hid (below_t hbl.out hb)
              clear hb y0 y1 y2 A2k
              have HVV := hid (show (vv1.2 != vv1.2) = false by simp)
              have HLT := hid (show ¬ ((m : Int) ≤ (i : Int)) by omega)
              go_upto_region 21 with fail
              have HT3 := hid (hbl.out.drew)
              refine wa_start (S := fun W => Below Wl.heap.size Wl W) (by kernel_rfl) HT3.out ?_
              obtain ⟨wd, hwd⟩ : ∃ x, x = wn.drew := ⟨_, rfl⟩
              rw [← hwd] at HT3 ⊢
              clear hwd
              refine wa_tk 0 (some 96) (.int .i64 vv1.1) rfl (by kernel_rfl) rfl rfl HT3.out (fun w h0 => by go_simp) ?_
              try simp only [Act.put, List.setIfInBounds_toArray, List.set_cons_zero, List.set_cons_succ]
              refine wa_tk 1 (some 97) (.int .i64 vv1.1) rfl (by kernel_rfl) rfl rfl HT3.out (fun w h0 => by go_simp) ?_
              try simp only [Act.put, List.setIfInBounds_toArray, List.set_cons_zero, List.set_cons_succ]
              refine wa_tk 2 (some 98) (.bool false) rfl (by kernel_rfl) rfl rfl HT3.out (fun w h0 => by go_simp) ?_
              try simp only [Act.put, List.setIfInBounds_toArray, List.set_cons_zero, List.set_cons_succ]
              refine wa_tk 3 (some 99) (.bool false) rfl (by kernel_rfl) rfl rfl HT3.out (fun w h0 => by go_simp) ?_
              try simp only [Act.put, List.setIfInBounds_toArray, List.set_cons_zero, List.set_cons_succ]
              refine wa_tkg 4 (some 100) (.bool vv1.2) rfl (by kernel_rfl) rfl rfl HT3.out (fun w h0 => by go_simp) ?_
              try simp only [Act.put, List.setIfInBounds_toArray, List.set_cons_zero, List.set_cons_succ]
              refine wa_tkg 5 (some 101) (.bool vv1.2) rfl (by kernel_rfl) rfl rfl HT3.out (fun w h0 => by go_simp) ?_
              try simp only [Act.put, List.setIfInBounds_toArray, List.set_cons_zero, List.set_cons_succ]
              refine wa_tkg 6 (some 102) (.bool false) rfl (by kernel_rfl) rfl rfl HT3.out (fun w h0 => by have hvv := HVV.out; go_simp) ?_
              try simp only [Act.put, List.setIfInBounds_toArray, List.set_cons_zero, List.set_cons_succ]
              refine wa_tk 7 (some 103) (.bool false) rfl (by kernel_rfl) rfl rfl HT3.out (fun w h0 => by go_simp) ?_
              try simp only [Act.put, List.setIfInBounds_toArray, List.set_cons_zero, List.set_cons_succ]
              refine wa_tk 8 (some 104) (.bool false) rfl (by kernel_rfl) rfl rfl HT3.out (fun w h0 => by go_simp) ?_
              try simp only [Act.put, List.setIfInBounds_toArray, List.set_cons_zero, List.set_cons_succ]
              refine wa_tkg 9 (some 105) (.slice pa na ca) rfl (by kernel_rfl) rfl rfl HT3.out (fun w h0 => by go_simp) ?_
              try simp only [Act.put, List.setIfInBounds_toArray, List.set_cons_zero, List.set_cons_succ]
              refine wa_tkg 10 (some 106) (.slice (some ⟨bk, ok, none⟩) m ck) rfl (by kernel_rfl) rfl rfl HT3.out (fun w h0 => by go_simp) ?_
              try simp only [Act.put, List.setIfInBounds_toArray, List.set_cons_zero, List.set_cons_succ]
              refine wa_tkg 11 (some 107) (.int .i64 (i : Int)) rfl (by kernel_rfl) rfl rfl HT3.out (fun w h0 => by go_simp) ?_
              try simp only [Act.put, List.setIfInBounds_toArray, List.set_cons_zero, List.set_cons_succ]
              refine wa_tkg 14 (some 110) (.int .i64 q) rfl (by kernel_rfl) rfl rfl HT3.out (fun w h0 => by go_simp) ?_
              try simp only [Act.put, List.setIfInBounds_toArray, List.set_cons_zero, List.set_cons_succ]
              refine wa_tkg 16 (some 112) (.slice p12 nab c12) rfl (by kernel_rfl) rfl rfl HT3.out (fun w h0 => by go_simp) ?_
              try simp only [Act.put, List.setIfInBounds_toArray, List.set_cons_zero, List.set_cons_succ]
              refine wa_tkg 17 (some 113) (.slice (some ⟨bk, ok, none⟩) m ck) rfl (by kernel_rfl) rfl rfl HT3.out (fun w h0 => by go_simp) ?_
              try simp only [Act.put, List.setIfInBounds_toArray, List.set_cons_zero, List.set_cons_succ]
              refine wa_tkg 18 (some 114) (.int .i64 (i : Int)) rfl (by kernel_rfl) rfl rfl HT3.out (fun w h0 => by go_simp) ?_
              try simp only [Act.put, List.setIfInBounds_toArray, List.set_cons_zero, List.set_cons_succ]
              refine wa_tkg 21 (some 117) (.int .i64 q) rfl (by kernel_rfl) rfl rfl HT3.out (fun w h0 => by go_simp) ?_
              try simp only [Act.put, List.setIfInBounds_toArray, List.set_cons_zero, List.set_cons_succ]
              refine wa_tkg 12 (some 108) (.pointer (some ⟨bk, ok + i * 3, none⟩)) rfl (by kernel_rfl) rfl rfl HT3.out (fun w h0 => by have hlt := HLT.out; go_simp) ?_
              try simp only [Act.put, List.setIfInBounds_toArray, List.set_cons_zero, List.set_cons_succ]
              refine wa_tkg 13 (some 109) (.agg #[.int .i64 kk.1, .int .i64 kk.2.1, .int .i64 kk.2.2]) rfl (by kernel_rfl) rfl rfl HT3.out (fun w h0 => by obtain ⟨_, _, hbe, hbk, y0, y1, y2⟩ := HKX.out _ h0; cases hbe; go_simp) ?_
              try simp only [Act.put, List.setIfInBounds_toArray, List.set_cons_zero, List.set_cons_succ]
              refine wa_tkg 19 (some 115) (.pointer (some ⟨bk, ok + i * 3, none⟩)) rfl (by kernel_rfl) rfl rfl HT3.out (fun w h0 => by have hlt := HLT.out; go_simp) ?_
              try simp only [Act.put, List.setIfInBounds_toArray, List.set_cons_zero, List.set_cons_succ]
              refine wa_tkg 20 (some 116) (.agg #[.int .i64 kk.1, .int .i64 kk.2.1, .int .i64 kk.2.2]) rfl (by kernel_rfl) rfl rfl HT3.out (fun w h0 => by obtain ⟨_, _, hbe, hbk, y0, y1, y2⟩ := HKX.out _ h0; cases hbe; go_simp) ?_
              try simp only [Act.put, List.setIfInBounds_toArray, List.set_cons_zero, List.set_cons_succ]
              refine wa_branch [15] (by decide +kernel) rfl ?_
              refine ar_opg 15 rfl rfl (fun K hK => ?_) ar_nil
              unfold Oper.wp
              go_simp
              go_at_call 21
              refine (P1.out _ HT3.out).mono ?_
              rintro e wz ⟨u1, rfl, hps, hb⟩
              have HT3 := hid (below_t HT3.out hb)
              have Hu1 := hid hps
              clear hps hb
              go_simp
              refine hK.out _ _ HT3.out ?_
              clear hK K
              try simp only [Act.put, List.setIfInBounds_toArray, List.set_cons_zero, List.set_cons_succ]
              refine wa_branch [22] (by decide +kernel) rfl ?_
              refine ar_opg 22 rfl rfl (fun K hK => ?_) ar_nil
              unfold Oper.wp
              go_simp
              go_at_call 21
              refine (P2.out _ HT3.out).mono ?_
              rintro e wz ⟨u2, rfl, hps, hb⟩
              have HT3 := hid (below_t HT3.out hb)
              have Hu1 := hid (Hu1.out.ups hb)
              have Hu2 := hid hps
              clear hps hb
              go_simp
              refine hK.out _ _ HT3.out ?_
              clear hK K
              try simp only [Act.put, List.setIfInBounds_toArray, List.set_cons_zero, List.set_cons_succ]
              refine wa_branch [23] (by decide +kernel) rfl ?_
              refine ar_opg 23 rfl rfl (fun K hK => ?_) ar_nil
              unfold Oper.wp
              go_simp
              go_at_call 20
              have HSP := hid (samePoints_any u1 u2 _ _ _ Hu1.out Hu2.out)
              rw [show decide (F7.points kk 0 40 q La = F7.points kk 0 40 q La) = true by simp] at HSP
              refine HSP.out.mono ?_
              rintro e wz ⟨rfl, hb⟩
              have HT3 := hid (below_t HT3.out hb)
              clear hb HSP Hu1 Hu2
              go_simp
              refine hK.out _ _ HT3.out ?_
              clear hK K
              try simp only [Act.put, List.setIfInBounds_toArray, List.set_cons_zero, List.set_cons_succ]
              refine wa_tkg 24 (some 120) (.bool false) rfl (by kernel_rfl) rfl rfl HT3.out (fun w h0 => by go_simp) ?_
              try simp only [Act.put, List.setIfInBounds_toArray, List.set_cons_zero, List.set_cons_succ]
              refine wa_tk 25 (some 121) (.bool false) rfl (by kernel_rfl) rfl rfl HT3.out (fun w h0 => by go_simp) ?_
              try simp only [Act.put, List.setIfInBounds_toArray, List.set_cons_zero, List.set_cons_succ]
              refine wa_done (by decide +kernel) ?_
              clear P1 P2 HKX HLT
              go_wp2_with fail
              go_roundw
              case rel => exact ⟨i + 1, by omega, by go_num, HT3⟩
              case measure => simp [intOf]; omega
            · have HTL := hid (below_t HTL.out hbl.out)
              have HAL := hid (HAL.out.ups hbl.out)
              clear A1 A2 P1 P2 HKR
              have HU := hid (show F7.upto q (La ++ Lb) = F7.upto q La from F7.upto_past La Lb HLATE.out)
              have HC := hid (show F7.changes 0 q (La ++ Lb) = F7.changes 0 q La from F7.changes_past (fun f hf => by have := HLATE.out f hf; have := HQ0.out; omega) HLATE.out)
              clear HLATE hbl
              have HFA1 := hid (HFA.out _ HTL.out)
              go_wp2_with fail
              refine (upto_any _ (La ++ Lb) q _ HAL.out (by have := HLAB.out; omega)).mono ?_
              rintro e wn ⟨u124, rfl, hfo, hb⟩
              have HTL := hid (below_t HTL.out hb); have HAL := hid (HAL.out.ups hb)
              have H124 := hid hfo.gs
              clear hfo hb
              go_wp2_with fail
              refine (upto_any _ La q _ (HFA.out _ HTL.out) (by have := HLA.out; omega)).mono ?_
              rintro e wn ⟨u127, rfl, hfo, hb⟩
              have HTL := hid (below_t HTL.out hb); have HAL := hid (HAL.out.ups hb)
              have HS := hid (same_any u124 u127 _ _ _ (H124.out.ups hb) hfo.gs)
              rw [show decide (F7.upto q (La ++ Lb) = F7.upto q La) = true from decide_eq_true HU.out] at HS
              clear hfo hb H124 HU
              go_wp2_with fail
              refine HS.out.mono ?_
              rintro e wn ⟨rfl, hb⟩
              have HTL := hid (below_t HTL.out hb); have HAL := hid (HAL.out.ups hb)
              clear hb HS
              go_wp2_with fail
              refine (changed_any _ (La ++ Lb) 0 q _ HAL.out (by have := HLAB.out; omega) HWK2.out).mono ?_
              rintro e wn ⟨u132, rfl, hcs, hb⟩
              have HTL := hid (below_t HTL.out hb)
              have H132 := hid hcs.cg
              clear hcs hb
              go_wp2_with fail
              refine (changed_any _ La 0 q _ (HFA.out _ HTL.out) (by have := HLA.out; omega) HWK1.out).mono ?_
              rintro e wn ⟨u135, rfl, hcs, hb⟩
              have HTL := hid (below_t HTL.out hb)
              have HS := hid (sameChanges_any u132 u135 _ _ _ (H132.out.ups hb) hcs.cg)
              rw [show decide (F7.changes 0 q (La ++ Lb) = F7.changes 0 q La) = true from decide_eq_true HC.out] at HS
              clear hcs hb H132 HC
              go_wp2_with fail
              refine HS.out.mono ?_
              rintro e wn ⟨rfl, hb⟩
              have HB := hid (below_t HZB.out (below_t HTL.out hb))
              clear hb HS
              go_wp2_with fail
              go_ret
              exact ⟨rfl, HB.out⟩
end Go.Proofs.Ytbejjindkcjecaa

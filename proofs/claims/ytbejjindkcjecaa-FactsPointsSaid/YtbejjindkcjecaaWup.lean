/- The law Upto, walked. -/
import Derived.Test.YtbejjindkcjecaaSane
import Derived.Test.YtbejjindkcjecaaFr
namespace Go.Proofs.Ytbejjindkcjecaa
open Go.RowKit Go
set_option linter.unusedVariables false
set_option linter.unusedSimpArgs false
theorem few_any (v : Value) (L : List FA) (w : World) (hv : FS w v L) : Calls Try.prog 12 #[v] w fun e w' => e = .returned (.bool (decide (L.length ≤ 30))) ∧ Below w.heap.size w w' := by
  obtain ⟨p, c, rfl⟩ := hv.form
  obtain ⟨n, hn⟩ : ∃ n, n = L.length := ⟨_, rfl⟩
  rw [← hn]
  clear hv hn
  go_enter Try.func12, Try.ntmps12
  go_wp2
  go_ret
  refine ⟨?_, Below.refl _ _⟩
  have e : decide ((n : Int) ≤ 30) = decide (n ≤ 30) := decide_eq_decide.2 (by omega)
  rw [← e]
  rfl
theorem fwf_wf {L : List FA} (h : ∀ f ∈ L, fwf f) : WF L := fun f hf => ⟨(h f hf).2.2.2.2.2.2.1, (h f hf).2.2.2.2.2.2.2⟩
theorem fwf_wk {L : List FA} (h : ∀ f ∈ L, fwf f) : WK L := fun f hf => ⟨(h f hf).1, (h f hf).2.1, (h f hf).2.2.1⟩
/-- two keys are appended to a slice that is full -/
theorem app_two {W : World} {a : Addr} {ks : List KE} {B : Nat} (h : KS W (.slice (some a) ks.length ks.length) ks) (k1 k2 : KE) (hB : Blk W B 24 (kc k1 ++ kc k2)) (hn : ks.length ≤ 1000) :
    ∃ v' W', (Builtin.append_ #[37, 37] 37 #[.slice (some a) ks.length ks.length, .slice (some ⟨B, 0, none⟩) 2 2]).run Try.prog W = .ok v' W' ∧ KS W' v' (ks ++ [k1, k2]) ∧ Below W.heap.size W W' := by
  obtain ⟨i, hi, hf⟩ := Option.map_eq_some_iff.1 info24
  simp only [Prod.mk.injEq] at hf
  obtain ⟨hz, hs, hbyt⟩ := hf
  obtain ⟨z, hz, hzs⟩ := Option.map_eq_some_iff.1 hz
  rcases h with ⟨e, _⟩ | ⟨a', c, e, hl, hm, hcs⟩
  · cases e
  · cases e
    obtain ⟨v', W', h1, h2, h3⟩ := run_append_arg_grows (P := Try.prog) W 37 37 24 i z 3 24 Try.underlying37 hi hz hs hbyt hzs (by omega) a ks.length ks.length (ks.flatMap kc) (flat_length kc 3 kc_len ks) (fun j u hj => hcs.1 j u hj) ⟨B, 0, none⟩ 2 2 (kc k1 ++ kc k2) rfl (fun j u hj => by rw [add_plain, Nat.zero_add]; exact hB.cell j u hj) (by omega) (by unfold maxLen; omega) (by omega)
    refine ⟨v', W', h1, ?_, (Below.refl _ W).grown h3 (Nat.le_refl _) (fun j hj => by cases hj)⟩
    refine GO.gs (e := 24) (k := 3) (base := W.heap.size) ?_
    unfold GO
    rw [List.length_append, List.flatMap_append, show ([k1, k2] : List KE).flatMap kc = kc k1 ++ kc k2 by simp]
    exact h2
set_option maxRecDepth 100000 in
set_option maxHeartbeats 8000000 in
theorem upto_law (v : Value) (L : List FA) (k : KE) (t q q' : Int) (w : World) (hv : FS w v L) (hf : ∀ f ∈ L, fwf f) :
    Calls Try.prog 7 #[v, KV k, .int .i64 t, .int .i64 q, .int .i64 q'] w fun e w' => e = .returned (.bool true) ∧ Below w.heap.size w w' := by
  obtain ⟨p, cp, hvf⟩ := hv.form
  have hFW := hid hf
  obtain ⟨Z, hZ⟩ : ∃ Z, Z = w.alloc (.cells #[.int .i64 k.1, .int .i64 k.2.1, .int .i64 k.2.2] 24) := ⟨_, rfl⟩
  have hzb : Below w.heap.size w Z := by rw [hZ]; exact (Below.refl _ w).alloc (Nat.le_refl _) _
  have hzk : Blk Z w.heap.size 24 (kc k) := by rw [hZ]; exact Blk.new w 24 (kc k)
  obtain ⟨B1, hB1⟩ : ∃ B1, B1 = w.heap.size := ⟨_, rfl⟩
  have hfz := hv.ups hzb
  subst hvf
  obtain ⟨n, hn⟩ : ∃ n, n = L.length := ⟨_, rfl⟩
  rw [← hn] at hfz hv ⊢
  have HFS := hid (fun (W : World) (hW : Below Z.heap.size Z W) => hfz.ups hW)
  have HKB := hid (fun (W : World) (hW : Below Z.heap.size Z W) => show Blk W B1 24 (kc k) by rw [hB1]; exact hzk.below hW hzk.lt)
  have HZB := hid hzb; have HN := hid hn
  have hm := hv.len
  rw [← hn] at hm
  unfold maxLen at hm
  have hgr : FR p Z.heap.size L Z := hfz.gr 8 fc_len (by omega)
  have HGR := hid (fun (W : World) (hW : Below Z.heap.size Z W) => hgr.up hW)
  have HT := hid (Below.refl Z.heap.size Z)
  have hfew := fun (W : World) (hW : Below Z.heap.size Z W) => few_any _ L W (HFS.out W hW)
  obtain ⟨fw, hfw⟩ : ∃ fw, fw = decide (L.length ≤ 30) := ⟨_, rfl⟩
  rw [← hfw] at hfew
  have HFW := hid hfw; have HFEW := hid hfew
  clear hfw hfew
  clear hv hzb hzk hfz hgr hn hf
  go_enter Try.func7, Try.ntmps7
  go_upto_region 1 with fail
  rw [← hB1, ← hZ]
  clear hZ hB1
  go_wp2_with fail
  refine (sane_any Z).mono ?_
  rintro e wn ⟨rfl, hb⟩
  have HT := hid (below_t HT.out hb)
  clear hb
  go_wp2_with fail
  refine (HFEW.out _ HT.out).mono ?_
  rintro e wn ⟨rfl, hb⟩
  have HT := hid (below_t HT.out hb)
  clear hb
  cases fw with
  | false =>
    have HB := hid (below_t HZB.out HT.out)
    go_wp2_with fail
    go_ret
    exact ⟨rfl, HB.out⟩
  | true =>
    by_cases hq : q' < q
    · have HB := hid (below_t HZB.out HT.out)
      go_wp2_with fail
      go_ret
      exact ⟨rfl, HB.out⟩
    · have hn30 : n ≤ 30 := by have := of_decide_eq_true HFW.out.symm; have := HN.out; omega
      have HQQ := hid (show q ≤ q' by omega)
      go_wp2_with fail
      refine (upto_any _ L q _ (HFS.out _ HT.out) (by have := HN.out; omega)).mono ?_
      rintro e wn ⟨u11, rfl, hfo, hb⟩
      have HT := hid (below_t HT.out hb)
      obtain ⟨pu, cu, hvu⟩ := hfo.gs.form
      subst hvu
      obtain ⟨nu, hnu⟩ : ∃ nu, nu = (F7.upto q L).length := ⟨_, rfl⟩
      have hlu : (F7.upto q L).length ≤ L.length := List.length_filter_le _ _
      have HLU := hid (show nu ≤ n by rw [hnu, HN.out]; exact hlu)
      rw [← hnu] at hfo ⊢
      have HU := hid hfo.gs
      clear hb hnu hlu hfo
      have h1 := HKB.out _ HT.out; have k0 := h1.cell 0 _ rfl; have k1 := h1.cell 1 _ rfl; have k2 := h1.cell 2 _ rfl
      clear h1
      go_upto_region 7 with fail
      clear k0 k1 k2
      obtain ⟨Z2, hZ2⟩ : ∃ Z2, Z2 = wn.alloc (.cells #[.int .i64 k.1, .int .i64 k.2.1, .int .i64 k.2.2] 24) := ⟨_, rfl⟩
      obtain ⟨B2, hB2⟩ : ∃ B2, B2 = wn.heap.size := ⟨_, rfl⟩
      rw [← hZ2, ← hB2]
      have hb : Below wn.heap.size wn Z2 := by rw [hZ2]; exact (Below.refl _ wn).alloc (Nat.le_refl _) _
      have hk2 : Blk Z2 B2 24 (([k] : List KE).flatMap kc) := by rw [hZ2, hB2]; exact Blk.new wn 24 (kc k)
      have HT := hid (below_t HT.out hb)
      have HU := hid (HU.out.ups hb)
      have HK2 := hid (show KS Z2 (.slice (some ⟨B2, 0, none⟩) ([k] : List KE).length ([k] : List KE).length) [k] from gs_new hk2 (by simp [maxLen]))
      clear hb hk2 hZ2 hB2
      by_cases hn0 : n = 0
      · have hz1 : ¬ ((0 : Int) < (n : Int)) := by omega
        have hz2 : ¬ (0 < n) := by omega
        clear hn0
        obtain ⟨ks, hks⟩ : ∃ ks, ks = [k] := ⟨_, rfl⟩
        rw [← hks] at HK2
        have HKS := hid (show KS Z2 (.slice (some ⟨B2, 0, none⟩) ks.length ks.length) ks from HK2.out)
        obtain ⟨m, hm1⟩ : ∃ m, m = ks.length := ⟨_, rfl⟩
        rw [← hm1] at HKS
        have HM := hid hm1
        obtain ⟨Wl, hWl⟩ : ∃ x, x = Z2 := ⟨_, rfl⟩
        rw [← hWl] at HT HU HKS ⊢
        clear hWl
        go_upto_region 9 with fail
        rw [show Value.slice (some ⟨B2, 0, none⟩) 1 1 = Value.slice (some ⟨B2, 0, none⟩) m m by rw [hm1, hks]; rfl]
        clear hks HK2 hm1 hz1 hz2
        obtain ⟨pk, hpk⟩ : ∃ pk, pk = some (⟨B2, 0, none⟩ : Addr) := ⟨_, rfl⟩
        rw [← hpk] at HKS ⊢
        clear hpk
        have hm2 := HKS.out.len
        unfold maxLen at hm2
        rw [← HM.out] at hm2
        have hkr := HKS.out.gr 3 kc_len (by omega)
        have HKR := hid (fun (W : World) (hW : Below Wl.heap.size Wl W) => hkr.up hW)
        have HBL := hid (below_t HZB.out HT.out)
        have A1 := hid (fun (W : World) (hW : Below Wl.heap.size Wl W) (kk : KE) => at_any (.slice p n cp) L kk t q W (HFS.out W (below_t HT.out hW)) (fwf_wf hFW.out))
        have A2 := hid (fun (W : World) (hW : Below Wl.heap.size Wl W) (kk : KE) => show Calls Try.prog 18 #[.slice pu nu cu, KV kk, .int .i64 t, .int .i64 q'] W fun e w' => e = .returned (.tuple #[.int .i64 (F7.val kk t q L).1, .bool (F7.val kk t q L).2]) ∧ Below W.heap.size W w' from by
          have h := at_any (.slice pu nu cu) (F7.upto q L) kk t q' W (HU.out.ups hW) (fun f hf => fwf_wf hFW.out f (List.mem_filter.1 hf).1)
          rwa [F7.val_upto kk t HQQ.out] at h)
        clear hkr HKS HU HT
        go_wp2_with fail
        go_loopw [13] (fun i wr => ∃ n : Nat, n ≤ m ∧ i = .int .i64 n ∧ Hid (Below Wl.heap.size Wl wr)) (fun i _ => m - (intOf i).toNat)
        case atStart => exact ⟨0, by omega, rfl, hid (Below.refl _ _)⟩
        case round =>
          obtain ⟨i, hi, rfl, hbl⟩ := hrel
          by_cases hlt : i < m
          · obtain ⟨kk, hkk⟩ := get_lt (l := ks) (i := i) (by rw [← HM.out]; exact hlt)
            obtain ⟨bk, ok, rfl, hbk, y0, y1, y2⟩ := (HKR.out wr hbl.out).at3 hkk
            obtain ⟨vv1, hvv⟩ : ∃ x, x = F7.val kk t q L := ⟨_, rfl⟩
            have A1k := hid (fun (W : World) (hW : Below Wl.heap.size Wl W) => A1.out W hW kk)
            have A2k := hid (fun (W : World) (hW : Below Wl.heap.size Wl W) => A2.out W hW kk)
            rw [← hvv] at A1k A2k
            have HKX := hid (fun (W : World) (hW : Below Wl.heap.size Wl W) => (HKR.out W hW).at3 hkk)
            clear hvv hbk hkk A1 A2
            go_wp2_with fail
            refine (A1k.out _ hbl.out).mono ?_
            rintro e wn ⟨rfl, hb⟩
            have hbl := hid (below_t hbl.out hb)
            clear hb y0 y1 y2
            obtain ⟨_, _, hbe, hbk, y0, y1, y2⟩ := HKX.out _ hbl.out
            cases hbe
            clear hbk A1k
            go_wp2_with fail
            refine (A2k.out _ hbl.out).mono ?_
            rintro e wn ⟨rfl, hb⟩
            have hbl := hid (below_t hbl.out hb)
            clear hb y0 y1 y2 A2k HKX
            have hnn : (vv1.2 != vv1.2) = false := by simp
            go_wp2
            go_roundw
            case rel => exact ⟨i + 1, by omega, by go_num, hbl⟩
            case measure => simp [intOf]; omega
          · have HB := hid (below_t HBL.out hbl.out)
            have hle : (nu : Int) ≤ n := by have := HLU.out; omega
            clear A1 A2
            go_wp2
            go_ret
            exact ⟨rfl, HB.out⟩
      · obtain ⟨f0, hf0⟩ := get_lt (l := L) (i := 0) (by rw [← HN.out]; omega)
        obtain ⟨fh, hfh⟩ := get_lt (l := L) (i := n / 2) (by rw [← HN.out]; omega)
        obtain ⟨b, o, rfl, hbb, _⟩ := (HGR.out _ HT.out).at8 hf0
        obtain ⟨Z3, hZ3⟩ : ∃ x, x = Z2 := ⟨_, rfl⟩
        rw [← hZ3] at HT HU HK2 ⊢
        have HT3 := hid (Below.refl Z3.heap.size Z3)
        have HF0 := hid (fun (W : World) (hW : Below Z3.heap.size Z3 W) => show At8 W b o f0 by
          obtain ⟨_, _, e, _, h⟩ := (HGR.out W (below_t HT.out hW)).at8 hf0
          cases e
          simpa using h)
        have HFH := hid (fun (W : World) (hW : Below Z3.heap.size Z3 W) => show At8 W b (o + n / 2 * 8) fh by
          obtain ⟨_, _, e, _, h⟩ := (HGR.out W (below_t HT.out hW)).at8 hfh
          cases e
          exact h)
        have HK3 := hid (fun (W : World) (hW : Below Z3.heap.size Z3 W) => HK2.out.ups hW)
        have HN0 := hid (show ¬ ((n : Int) ≤ 0) by omega)
        have HNH := hid (show ¬ ((n : Int) ≤ (n : Int) / 2) by omega)
        have HQ := hid (show IntKind.i64.wrap ((n : Int) / 2) = (n : Int) / 2 from IntWalk.i64_in _ (by omega))
        have HL0 := hid (show 0 < n by omega)
        have HLH := hid (show ((0 : Int) ≤ (n : Int) / 2 ∧ (n : Int) / 2 < (n : Int)) ∧ ((n : Int) / 2).toNat = n / 2 by omega)
        have hgt : (0 : Int) < n := by omega
        clear hf0 hfh hbb hZ3
        go_upto_region 8 with fail
        refine wa_start (S := fun W => Below Z3.heap.size Z3 W) (by kernel_rfl) HT3.out.drew ?_
        obtain ⟨wd, hwd⟩ : ∃ x, x = Z3.drew := ⟨_, rfl⟩
        have HT3 := hid (show Below Z3.heap.size Z3 wd by rw [hwd]; exact HT3.out.drew)
        rw [← hwd]
        clear hwd
        refine wa_tk 0 (some 36) (.slice (some ⟨B2, 0, none⟩) 1 1) rfl (by kernel_rfl) rfl rfl HT3.out (fun w h0 => by go_simp) ?_
        try simp only [Act.put, List.setIfInBounds_toArray, List.set_cons_zero, List.set_cons_succ]
        refine wa_tk 1 (some 37) (.slice (some ⟨b, o, none⟩) n cp) rfl (by kernel_rfl) rfl rfl HT3.out (fun w h0 => by go_simp) ?_
        try simp only [Act.put, List.setIfInBounds_toArray, List.set_cons_zero, List.set_cons_succ]
        refine wa_tk 5 (some 41) (.slice (some ⟨b, o, none⟩) n cp) rfl (by kernel_rfl) rfl rfl HT3.out (fun w h0 => by go_simp) ?_
        try simp only [Act.put, List.setIfInBounds_toArray, List.set_cons_zero, List.set_cons_succ]
        refine wa_tk 6 (some 42) (.slice (some ⟨b, o, none⟩) n cp) rfl (by kernel_rfl) rfl rfl HT3.out (fun w h0 => by go_simp) ?_
        try simp only [Act.put, List.setIfInBounds_toArray, List.set_cons_zero, List.set_cons_succ]
        refine wa_tk 7 (some 43) (.int .i64 n) rfl (by kernel_rfl) rfl rfl HT3.out (fun w h0 => by go_simp) ?_
        try simp only [Act.put, List.setIfInBounds_toArray, List.set_cons_zero, List.set_cons_succ]
        refine wa_tk 8 (some 44) (.int .i64 ((n / 2 : Nat) : Int)) rfl (by kernel_rfl) rfl rfl HT3.out (fun w h0 => by have hq := HQ.out; go_simp) ?_
        try simp only [Act.put, List.setIfInBounds_toArray, List.set_cons_zero, List.set_cons_succ]
        refine wa_tk 2 (some 38) (.pointer (some ⟨b, o, none⟩)) rfl (by kernel_rfl) rfl rfl HT3.out (fun w h0 => by have hn0 := HN0.out; go_simp) ?_
        try simp only [Act.put, List.setIfInBounds_toArray, List.set_cons_zero, List.set_cons_succ]
        refine wa_tk 3 (some 39) (.pointer (some ⟨b, o, none⟩)) rfl (by kernel_rfl) rfl rfl HT3.out (fun w h0 => by go_simp) ?_
        try simp only [Act.put, List.setIfInBounds_toArray, List.set_cons_zero, List.set_cons_succ]
        refine wa_tk 4 (some 40) (.agg #[.int .i64 f0.kind, .int .i64 f0.subj, .int .i64 f0.obj]) rfl (by kernel_rfl) rfl rfl HT3.out (fun w h0 => by have hx := HF0.out _ h0; obtain ⟨x0, x1, x2, x3, x4, x5, x6, x7⟩ := hx; have hl := HL0.out; go_simp) ?_
        try simp only [Act.put, List.setIfInBounds_toArray, List.set_cons_zero, List.set_cons_succ]
        refine wa_tk 9 (some 45) (.pointer (some ⟨b, o + n / 2 * 8, none⟩)) rfl (by kernel_rfl) rfl rfl HT3.out (fun w h0 => by obtain ⟨⟨hn0, hn2⟩, hn1⟩ := HLH.out; go_simp) ?_
        try simp only [Act.put, List.setIfInBounds_toArray, List.set_cons_zero, List.set_cons_succ]
        refine wa_tk 10 (some 46) (.pointer (some ⟨b, o + n / 2 * 8, none⟩)) rfl (by kernel_rfl) rfl rfl HT3.out (fun w h0 => by go_simp) ?_
        try simp only [Act.put, List.setIfInBounds_toArray, List.set_cons_zero, List.set_cons_succ]
        refine wa_tk 11 (some 47) (.agg #[.int .i64 fh.kind, .int .i64 fh.subj, .int .i64 fh.obj]) rfl (by kernel_rfl) rfl rfl HT3.out (fun w h0 => by have hx := HFH.out _ h0; obtain ⟨x0, x1, x2, x3, x4, x5, x6, x7⟩ := hx; go_simp) ?_
        try simp only [Act.put, List.setIfInBounds_toArray, List.set_cons_zero, List.set_cons_succ]
        refine wa_branch [12] (by decide +kernel) rfl ?_
        refine ar_op 12 rfl rfl (fun K hK => ?_) ar_nil
        unfold Oper.wp
        go_simp
        obtain ⟨we, hwe⟩ : ∃ x, x = wd.alloc (.cells #[.int .i64 f0.kind, .int .i64 f0.subj, .int .i64 f0.obj, .int .i64 fh.kind, .int .i64 fh.subj, .int .i64 fh.obj] 24) := ⟨_, rfl⟩
        obtain ⟨B3, hB3⟩ : ∃ x, x = wd.heap.size := ⟨_, rfl⟩
        have hb := (show Below wd.heap.size wd we by rw [hwe]; exact (Below.refl _ wd).alloc (Nat.le_refl _) _)
        have hn3 : Blk we B3 24 (kc f0.key ++ kc fh.key) := by rw [hwe, hB3]; exact Blk.new wd 24 (kc f0.key ++ kc fh.key)
        rw [← hwe, ← hB3]
        have HT3 := hid (below_t HT3.out hb)
        obtain ⟨v2, W2, happ, hks, hb2⟩ := app_two (HK3.out we HT3.out) f0.key fh.key hn3 (by simp)
        clear hb hn3 hwe hB3
        refine hK.out _ _ HT3.out ?_
        clear hK K
        try simp only [Act.put, List.setIfInBounds_toArray, List.set_cons_zero, List.set_cons_succ]
        refine wa_branch [13] (by decide +kernel) rfl ?_
        refine ar_op 13 rfl rfl (fun K hK => ?_) ar_nil
        have HT3 := hid (below_t HT3.out hb2)
        have HKS := hid hks
        clear hb2 hks
        refine st_append (some 49) rfl (.tmp 36) (.tmp 48) 37 37 rfl rfl _ _ _ _ rfl rfl happ ?_
        clear happ
        refine hK.out _ _ HT3.out ?_
        clear hK K
        try simp only [Act.put, List.setIfInBounds_toArray, List.set_cons_zero, List.set_cons_succ]
        refine wa_tk 14 (some 12) (v2) rfl (by kernel_rfl) rfl rfl HT3.out (fun w h0 => by go_simp) ?_
        try simp only [Act.put, List.setIfInBounds_toArray, List.set_cons_zero, List.set_cons_succ]
        refine wa_done (by decide +kernel) ?_
        obtain ⟨pk, ck, hvk⟩ := HKS.out.form
        subst hvk
        obtain ⟨ks, hks⟩ : ∃ ks, ks = ([k] ++ [f0.key, fh.key] : List KE) := ⟨_, rfl⟩
        rw [← hks] at HKS ⊢
        obtain ⟨m, hm1⟩ : ∃ m, m = ks.length := ⟨_, rfl⟩
        have HM := hid hm1
        rw [← hm1] at HKS ⊢
        clear hm1
        clear hks HK3 HK2 HF0 HFH HNH HN0 HQ HL0 HLH
        have HT := hid (below_t HT.out HT3.out)
        have HU := hid (HU.out.ups HT3.out)
        clear HT3
        obtain ⟨Wl, hWl⟩ : ∃ x, x = W2 := ⟨_, rfl⟩
        rw [← hWl] at HT HU HKS ⊢
        clear hWl
        obtain ⟨p, hp⟩ : ∃ p, p = some (⟨b, o, none⟩ : Addr) := ⟨_, rfl⟩
        rw [← hp] at HFS HGR ⊢
        clear hp
        have hm2 := HKS.out.len
        unfold maxLen at hm2
        rw [← HM.out] at hm2
        have hkr := HKS.out.gr 3 kc_len (by omega)
        have HKR := hid (fun (W : World) (hW : Below Wl.heap.size Wl W) => hkr.up hW)
        have HBL := hid (below_t HZB.out HT.out)
        have A1 := hid (fun (W : World) (hW : Below Wl.heap.size Wl W) (kk : KE) => at_any (.slice p n cp) L kk t q W (HFS.out W (below_t HT.out hW)) (fwf_wf hFW.out))
        have A2 := hid (fun (W : World) (hW : Below Wl.heap.size Wl W) (kk : KE) => show Calls Try.prog 18 #[.slice pu nu cu, KV kk, .int .i64 t, .int .i64 q'] W fun e w' => e = .returned (.tuple #[.int .i64 (F7.val kk t q L).1, .bool (F7.val kk t q L).2]) ∧ Below W.heap.size W w' from by
          have h := at_any (.slice pu nu cu) (F7.upto q L) kk t q' W (HU.out.ups hW) (fun f hf => fwf_wf hFW.out f (List.mem_filter.1 hf).1)
          rwa [F7.val_upto kk t HQQ.out] at h)
        clear hkr HKS HU HT
        go_wp2_with fail
        go_loopw [13] (fun i wr => ∃ n : Nat, n ≤ m ∧ i = .int .i64 n ∧ Hid (Below Wl.heap.size Wl wr)) (fun i _ => m - (intOf i).toNat)
        case atStart => exact ⟨0, by omega, rfl, hid (Below.refl _ _)⟩
        case round =>
          obtain ⟨i, hi, rfl, hbl⟩ := hrel
          by_cases hlt : i < m
          · obtain ⟨kk, hkk⟩ := get_lt (l := ks) (i := i) (by rw [← HM.out]; exact hlt)
            obtain ⟨bk, ok, rfl, hbk, y0, y1, y2⟩ := (HKR.out wr hbl.out).at3 hkk
            obtain ⟨vv1, hvv⟩ : ∃ x, x = F7.val kk t q L := ⟨_, rfl⟩
            have A1k := hid (fun (W : World) (hW : Below Wl.heap.size Wl W) => A1.out W hW kk)
            have A2k := hid (fun (W : World) (hW : Below Wl.heap.size Wl W) => A2.out W hW kk)
            rw [← hvv] at A1k A2k
            have HKX := hid (fun (W : World) (hW : Below Wl.heap.size Wl W) => (HKR.out W hW).at3 hkk)
            clear hvv hbk hkk A1 A2
            go_wp2_with fail
            refine (A1k.out _ hbl.out).mono ?_
            rintro e wn ⟨rfl, hb⟩
            have hbl := hid (below_t hbl.out hb)
            clear hb y0 y1 y2
            obtain ⟨_, _, hbe, hbk, y0, y1, y2⟩ := HKX.out _ hbl.out
            cases hbe
            clear hbk A1k
            go_wp2_with fail
            refine (A2k.out _ hbl.out).mono ?_
            rintro e wn ⟨rfl, hb⟩
            have hbl := hid (below_t hbl.out hb)
            clear hb y0 y1 y2 A2k HKX
            have hnn : (vv1.2 != vv1.2) = false := by simp
            go_wp2
            go_roundw
            case rel => exact ⟨i + 1, by omega, by go_num, hbl⟩
            case measure => simp [intOf]; omega
          · have HB := hid (below_t HBL.out hbl.out)
            have hle : (nu : Int) ≤ n := by have := HLU.out; omega
            clear A1 A2
            go_wp2
            go_ret
            exact ⟨rfl, HB.out⟩
end Go.Proofs.Ytbejjindkcjecaa

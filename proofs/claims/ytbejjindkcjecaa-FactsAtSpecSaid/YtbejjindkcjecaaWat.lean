/- The law At, walked. -/
import Derived.Test.YtbejjindkcjecaaL2
import Derived.Test.YtbejjindkcjecaaRefP
import Derived.Test.YtbejjindkcjecaaSamePts
import Derived.Test.YtbejjindkcjecaaRefC
import Derived.Test.YtbejjindkcjecaaSane
namespace Go.Proofs.Ytbejjindkcjecaa
open Go.RowKit Go
set_option linter.unusedVariables false
set_option linter.unusedSimpArgs false
/-- two keys that have just been laid are appended -/
theorem app_keys {w : World} {base : Nat} {v : Value} {l : List KE} (h : KO w base v l) (x y : KE) (hn : l.length ≤ 1000) (hb : base ≤ w.heap.size) :
    ∃ v' w', (Builtin.append_ #[37, 37] 37 #[v, .slice (some ⟨w.heap.size, 0, none⟩) 2 2]).run Try.prog (w.alloc (.cells #[.int .i64 x.1, .int .i64 x.2.1, .int .i64 x.2.2, .int .i64 y.1, .int .i64 y.2.1, .int .i64 y.2.2] 24)) = .ok v' w' ∧
      KO w' base v' (l ++ [x, y]) ∧ Below base w w' := by
  obtain ⟨i, hi, hf⟩ := Option.map_eq_some_iff.1 info24
  simp only [Prod.mk.injEq] at hf
  obtain ⟨hz, hs, hbyt⟩ := hf
  obtain ⟨z, hz, hzs⟩ := Option.map_eq_some_iff.1 hz
  have h' : w.ownsRow base 24 3 v l.length (l.flatMap kc) := h
  obtain ⟨g, cap, w', h6, h7, h8, h9, h10⟩ := run_append_lies (P := Try.prog) (w := w.alloc (.cells ((kc x) ++ (kc y)).toArray 24)) 37 37 base 24 i z 3 24 Try.underlying37 hi hz hs hbyt hzs (by omega) v l.length _ (h'.alloc _) ⟨w.heap.size, 0, none⟩ 2 2 ((kc x) ++ (kc y)) rfl
    (cells_new w ((kc x) ++ (kc y)) 24) (fun u hu => (List.mem_append.1 hu).elim (kc_one x u) (kc_one y u)) (by omega) (by unfold maxLen; omega) (by omega) (by simp; omega) _ rfl
  refine ⟨_, w', h6, ?_, ((Below.refl base w).alloc hb _).grown h8 (by simp; omega) (fun j hj => (GO.lt h j hj).1)⟩
  show GO 24 3 kc w' base _ (l ++ [x, y])
  unfold GO
  rw [List.length_append, List.flatMap_append]
  have e : [x, y].flatMap kc = kc x ++ kc y := by simp
  rw [e]
  exact h7
set_option maxRecDepth 100000 in
set_option maxHeartbeats 8000000 in
theorem at_law (v : Value) (L : List FA) (k : KE) (a b q : Int) (w : World) (hv : FS w v L) (hwf : ∀ f ∈ L, fwf f) :
    Calls Try.prog 4 #[v, KV k, .int .i64 a, .int .i64 b, .int .i64 q] w fun e w' => e = .returned (.bool true) ∧ Below w.heap.size w w' := by
  obtain ⟨Z, hZ⟩ : ∃ Z, Z = w.alloc (.cells #[.int .i64 k.1, .int .i64 k.2.1, .int .i64 k.2.2] 24) := ⟨_, rfl⟩
  have hzb : Below w.heap.size w Z := by rw [hZ]; exact (Below.refl _ w).alloc (Nat.le_refl _) _
  have hzk : Blk Z w.heap.size 24 (kc k) := by rw [hZ]; exact Blk.new w 24 (kc k)
  obtain ⟨B1, hB1⟩ : ∃ B1, B1 = w.heap.size := ⟨_, rfl⟩
  have hfz := hv.ups hzb
  obtain ⟨p, c, hp⟩ := hv.form
  obtain ⟨n, hn⟩ : ∃ n, n = L.length := ⟨_, rfl⟩
  rw [← hn] at hp
  subst hp
  have HFS := hid (fun (W : World) (hW : Below Z.heap.size Z W) => hfz.ups hW)
  have hgr : FR p Z.heap.size L Z := hfz.gr 8 fc_len (by omega)
  have HGR := hid (fun (W : World) (hW : Below Z.heap.size Z W) => hgr.up hW)
  have HKB := hid (fun (W : World) (hW : Below Z.heap.size Z W) => show Blk W B1 24 (kc k) by rw [hB1]; exact hzk.below hW hzk.lt)
  have HZB := hid hzb; have HN := hid hn; have HWF := hid hwf
  have HT := hid (Below.refl Z.heap.size Z)
  have hfew := fun (W : World) (hW : Below Z.heap.size Z W) => few_any _ L W (HFS.out W hW)
  obtain ⟨fw, hfw⟩ : ∃ fw, fw = decide (L.length ≤ 30) := ⟨_, rfl⟩
  rw [← hfw] at hfew
  have HFW := hid hfw; have HFEW := hid hfew
  clear hfw hfew hv hzb hzk hfz hgr hn hwf
  go_enter Try.func4, Try.ntmps4
  go_upto_region 1 with fail
  rw [← hB1, ← hZ]
  clear hZ hB1
  go_wp2_with fail
  refine (sane_any Z).mono ?_
  rintro e wn ⟨rfl, hb⟩
  have HT := hid (below_t HT.out hb)
  clear hb
  go_wp2_with fail
  refine (HFEW.out _ HT.out).mono ?_
  rintro e wn ⟨rfl, hb⟩
  have HT := hid (below_t HT.out hb)
  clear hb
  cases fw with
  | false =>
    have HB := hid (below_t HZB.out HT.out)
    go_wp2_with fail
    go_ret
    exact ⟨rfl, HB.out⟩
  | true =>
    have HL := hid (show L.length ≤ 30 from of_decide_eq_true HFW.out.symm)
    have h1 := HKB.out _ HT.out; have k0 := h1.cell 0 _ rfl; have k1 := h1.cell 1 _ rfl; have k2 := h1.cell 2 _ rfl
    clear h1
    go_upto_region 6 with fail
    obtain ⟨Z3, hZ3⟩ : ∃ x, x = wn.alloc (.cells #[.int .i64 k.1, .int .i64 k.2.1, .int .i64 k.2.2] 24) := ⟨_, rfl⟩
    obtain ⟨B3, hB3⟩ : ∃ x, x = wn.heap.size := ⟨_, rfl⟩
    rw [← hZ3, ← hB3]
    have hb : Below wn.heap.size wn Z3 := by rw [hZ3]; exact (Below.refl _ wn).alloc (Nat.le_refl _) _
    have HK3 := hid (show Blk Z3 B3 24 (kc k) by rw [hZ3, hB3]; exact Blk.new wn 24 (kc k))
    have HBZ := hid (show Z.heap.size ≤ B3 by rw [hB3]; exact HT.out.size)
    have HB3 := hid (show B3 ≤ Z3.heap.size by rw [hB3]; exact hb.size)
    have HT := hid (below_t HT.out hb)
    have HKO := hid (show KO Z3 B3 (.slice (some ⟨B3, 0, none⟩) 1 1) [k] from ko_lit HK3.out (Nat.le_refl _))
    have hl30 := HL.out
    rw [← HN.out] at hl30
    clear hZ3 hB3 hb k0 k1 k2 HK3 HFW HFEW HKB
    go_upto_if 26 with fail
    go_cut [11] (fun u wx => ∃ ks, Hid (KO wx B3 u ks) ∧ Hid (ks.length ≤ 3) ∧ Hid (Below Z.heap.size Z wx))
    case first =>
      by_cases h0 : n = 0
      · subst h0
        go_wp2_with fail
        go_meet
        exact ⟨[k], HKO, hid (by simp), HT⟩
      have h0' : decide ((0 : Int) < (n : Int)) = true := decide_eq_true (by omega)
      have h0n : decide (0 < n) = true := decide_eq_true (by omega)
      have h0z : (0 : Int) < (n : Int) := by omega
      go_upto_region 7 with fail
      have HT := hid (HT.out.drew)
      obtain ⟨wd, hwd⟩ : ∃ x, x = Z3.drew := ⟨_, rfl⟩
      have HBW := hid (show B3 ≤ wd.heap.size by rw [hwd]; exact HB3.out)
      have HKO := hid (show KO wd B3 (.slice (some ⟨B3, 0, none⟩) 1 1) [k] by rw [hwd]; exact HKO.out.ups (Below.refl _ Z3).drew)
      obtain ⟨f, hf⟩ := get_lt (l := L) (i := 0) (by rw [← HN.out]; omega)
      obtain ⟨q1, hq1⟩ : ∃ q1, q1 = n - 1 := ⟨_, rfl⟩
      obtain ⟨g, hg⟩ := get_lt (l := L) (i := q1) (by rw [← HN.out]; omega)
      obtain ⟨b0, o0, rfl, hbb, _⟩ := (HGR.out Z (Below.refl _ _)).at8 hf
      have HF0 := hid (fun (W : World) (hW : Below Z.heap.size Z W) => show W.cell? ⟨b0, o0, none⟩ = some (.int .i64 f.kind) ∧ W.cell? ⟨b0, o0 + 1, none⟩ = some (.int .i64 f.subj) ∧ W.cell? ⟨b0, o0 + 2, none⟩ = some (.int .i64 f.obj) from by
        obtain ⟨b', o', he, _, x0, x1, x2, _⟩ := (HGR.out W hW).at8 hf
        cases he; simpa using ⟨x0, x1, x2⟩)
      have HF1 := hid (fun (W : World) (hW : Below Z.heap.size Z W) => show W.cell? ⟨b0, o0 + q1 * 8, none⟩ = some (.int .i64 g.kind) ∧ W.cell? ⟨b0, o0 + q1 * 8 + 1, none⟩ = some (.int .i64 g.subj) ∧ W.cell? ⟨b0, o0 + q1 * 8 + 2, none⟩ = some (.int .i64 g.obj) from by
        obtain ⟨b', o', he, _, x0, x1, x2, _⟩ := (HGR.out W hW).at8 hg
        cases he; exact ⟨x0, x1, x2⟩)
      have HN0 := hid (show ¬ ((n : Int) ≤ 0) by omega)
      have HQ1 := hid (show (n : Int) - 1 = (q1 : Int) by omega)
      have HW1 := hid (show IntKind.i64.wrap ((n : Int) - 1) = (q1 : Int) by rw [IntKind.wrap_i64]; omega)
      have HW2 := hid (show IntKind.i64.wrap (q1 : Int) = (q1 : Int) by rw [IntKind.wrap_i64]; omega)
      have HQN := hid (show ¬ ((n : Int) ≤ (q1 : Int)) by omega)
      have HQM := hid (show ¬ (n ≤ q1) by omega)
      clear hq1 hf hg hbb h0 h0' h0n h0z
      refine wa_start (S := fun W => Below Z.heap.size Z W) (by kernel_rfl) HT.out ?_
      rw [← hwd]
      rw [← hwd] at HT
      clear hwd
      refine wa_tk 0 (some 27) (.slice (some ⟨B3, 0, none⟩) 1 1) rfl (by kernel_rfl) rfl rfl HT.out (fun w h0 => by go_simp) ?_
      try simp only [Act.put, List.setIfInBounds_toArray, List.set_cons_zero, List.set_cons_succ]
      refine wa_tk 1 (some 28) (.slice (some ⟨b0, o0, none⟩) n c) rfl (by kernel_rfl) rfl rfl HT.out (fun w h0 => by go_simp) ?_
      try simp only [Act.put, List.setIfInBounds_toArray, List.set_cons_zero, List.set_cons_succ]
      refine wa_tk 5 (some 32) (.slice (some ⟨b0, o0, none⟩) n c) rfl (by kernel_rfl) rfl rfl HT.out (fun w h0 => by go_simp) ?_
      try simp only [Act.put, List.setIfInBounds_toArray, List.set_cons_zero, List.set_cons_succ]
      refine wa_tk 6 (some 33) (.slice (some ⟨b0, o0, none⟩) n c) rfl (by kernel_rfl) rfl rfl HT.out (fun w h0 => by go_simp) ?_
      try simp only [Act.put, List.setIfInBounds_toArray, List.set_cons_zero, List.set_cons_succ]
      refine wa_tk 2 (some 29) (.pointer (some ⟨b0, o0, none⟩)) rfl (by kernel_rfl) rfl rfl HT.out (fun w h0 => by have hn0 := HN0.out; go_simp) ?_
      try simp only [Act.put, List.setIfInBounds_toArray, List.set_cons_zero, List.set_cons_succ]
      refine wa_tk 3 (some 30) (.pointer (some ⟨b0, o0, none⟩)) rfl (by kernel_rfl) rfl rfl HT.out (fun w h0 => by go_simp) ?_
      try simp only [Act.put, List.setIfInBounds_toArray, List.set_cons_zero, List.set_cons_succ]
      refine wa_tk 4 (some 31) (.agg #[.int .i64 f.kind, .int .i64 f.subj, .int .i64 f.obj]) rfl (by kernel_rfl) rfl rfl HT.out (fun w h0 => by obtain ⟨x0, x1, x2⟩ := HF0.out _ h0; go_simp) ?_
      try simp only [Act.put, List.setIfInBounds_toArray, List.set_cons_zero, List.set_cons_succ]
      refine wa_tk 7 (some 34) (.int .i64 (n : Int)) rfl (by kernel_rfl) rfl rfl HT.out (fun w h0 => by go_simp) ?_
      try simp only [Act.put, List.setIfInBounds_toArray, List.set_cons_zero, List.set_cons_succ]
      refine wa_tk 8 (some 35) (.int .i64 (q1 : Int)) rfl (by kernel_rfl) rfl rfl HT.out (fun w h0 => by have hq1 := HQ1.out; have hw2 := HW2.out; go_simp) ?_
      try simp only [Act.put, List.setIfInBounds_toArray, List.set_cons_zero, List.set_cons_succ]
      refine wa_tk 9 (some 36) (.pointer (some ⟨b0, o0 + q1 * 8, none⟩)) rfl (by kernel_rfl) rfl rfl HT.out (fun w h0 => by have hn0 := HQN.out; have hn1 := HQM.out; have hw2 := HW2.out; go_simp) ?_
      try simp only [Act.put, List.setIfInBounds_toArray, List.set_cons_zero, List.set_cons_succ]
      refine wa_tk 10 (some 37) (.pointer (some ⟨b0, o0 + q1 * 8, none⟩)) rfl (by kernel_rfl) rfl rfl HT.out (fun w h0 => by go_simp) ?_
      try simp only [Act.put, List.setIfInBounds_toArray, List.set_cons_zero, List.set_cons_succ]
      refine wa_tk 11 (some 38) (.agg #[.int .i64 g.kind, .int .i64 g.subj, .int .i64 g.obj]) rfl (by kernel_rfl) rfl rfl HT.out (fun w h0 => by obtain ⟨y0, y1, y2⟩ := HF1.out _ h0; go_simp) ?_
      try simp only [Act.put, List.setIfInBounds_toArray, List.set_cons_zero, List.set_cons_succ]
      refine wa_branch [12] (by decide +kernel) rfl ?_
      refine ar_op 12 rfl rfl (fun K hK => ?_) ar_nil
      have HTD := hid HT.out
      unfold Oper.wp
      go_simp
      obtain ⟨v2, W2, happ, hko, hb⟩ := app_keys HKO.out f.key g.key (by simp) HBW.out
      have HAPP := hid happ; have HKO := hid hko
      clear happ hko
      have HT := hid (HT.out.trans (hb.mono HBZ.out))
      clear hb
      simp only [F7.Fact.key] at HAPP
      obtain ⟨wl, hwl⟩ : ∃ x, x = wd.alloc (.cells #[.int .i64 f.kind, .int .i64 f.subj, .int .i64 f.obj, .int .i64 g.kind, .int .i64 g.subj, .int .i64 g.obj] 24) := ⟨_, rfl⟩
      have HTL := hid (show Below Z.heap.size Z wl from by rw [hwl]; exact HTD.out.alloc HTD.out.size _)
      refine hK.out _ _ (by rw [← hwl]; exact HTL.out) ?_
      clear hK K
      try simp only [Act.put, List.setIfInBounds_toArray, List.set_cons_zero, List.set_cons_succ]
      refine wa_branch [13] (by decide +kernel) rfl ?_
      refine ar_op 13 rfl rfl (fun K hK => ?_) ar_nil
      refine st_append (some 40) rfl (.tmp 27) (.tmp 39) 37 37 rfl rfl _ _ _ _ rfl rfl HAPP.out ?_
      refine hK.out _ _ HT.out ?_
      clear hK K HTL hwl
      try simp only [Act.put, List.setIfInBounds_toArray, List.set_cons_zero, List.set_cons_succ]
      refine wa_tk 14 (some 11) v2 rfl (by kernel_rfl) rfl rfl HT.out (fun w h0 => by go_simp) ?_
      try simp only [Act.put, List.setIfInBounds_toArray, List.set_cons_zero, List.set_cons_succ]
      refine wa_done (by decide +kernel) ?_
      go_wp2_with fail
      go_meet
      exact ⟨_, HKO, hid (by simp), HT⟩
    case rest =>
      obtain ⟨ks, hko, hlen, HT⟩ := hcut
      clear HKO HB3 HBZ
      obtain ⟨pk, ck, hpk⟩ := hko.out.gs.form
      subst hpk
      obtain ⟨m, hm⟩ : ∃ m, m = ks.length := ⟨_, rfl⟩
      have hm2 := hlen.out
      rw [← hm] at hko hm2 ⊢
      have HM := hid hm
      obtain ⟨Wl, hWl⟩ : ∃ x, x = wc := ⟨_, rfl⟩
      have hkr : KR pk Wl.heap.size ks Wl := by rw [hWl]; exact hko.out.gs.gr 3 kc_len (by omega)
      rw [← hWl] at HT ⊢
      have HKR := hid (fun (W : World) (hW : Below Wl.heap.size Wl W) => hkr.up hW)
      clear hm hkr hko hlen hWl HGR
      have HB := hid (below_t HZB.out HT.out)
      have A1 := hid (fun (W : World) (hW : Below Wl.heap.size Wl W) (kk : KE) => at_any (.slice p n c) L kk a q W (HFS.out W (below_t HT.out hW)) (fwf_wf HWF.out))
      have A2 := hid (fun (W : World) (hW : Below Wl.heap.size Wl W) (kk : KE) => refAt_any (.slice p n c) L kk a q W (HFS.out W (below_t HT.out hW)) (by have := HL.out; omega))
      have P1 := hid (fun (W : World) (hW : Below Wl.heap.size Wl W) (kk : KE) => points_any2 (.slice p n c) L kk a b q W (HFS.out W (below_t HT.out hW)) (by have := HL.out; omega) (Nat.le_trans (List.length_filter_le _ _) (by have := HL.out; omega)))
      have P2 := hid (fun (W : World) (hW : Below Wl.heap.size Wl W) (kk : KE) => refPoints_any (.slice p n c) L kk a b q W (HFS.out W (below_t HT.out hW)) (by have := HL.out; omega))
      clear HFS HL HWF HN HZB HT
      go_wp2_with fail
      go_loopw [12] (fun i wr => ∃ n : Nat, n ≤ m ∧ i = .int .i64 n ∧ Hid (Below Wl.heap.size Wl wr)) (fun i _ => m - (intOf i).toNat)
      case atStart => exact ⟨0, by omega, rfl, hid (Below.refl _ _)⟩
      case round =>
        obtain ⟨i, hi, rfl, hbl⟩ := hrel
        by_cases hlt3 : i < m
        · obtain ⟨kk, hkk⟩ := get_lt (l := ks) (i := i) (by rw [← HM.out]; exact hlt3)
          obtain ⟨bk, ok, rfl, hbk, y0, y1, y2⟩ := (HKR.out wr hbl.out).at3 hkk
          obtain ⟨vv1, hvv⟩ : ∃ x, x = F7.val kk a q L := ⟨_, rfl⟩
          have A1k := hid (fun (W : World) (hW : Below Wl.heap.size Wl W) => A1.out W hW kk)
          have A2k := hid (fun (W : World) (hW : Below Wl.heap.size Wl W) => A2.out W hW kk)
          have P1 := hid (fun (W : World) (hW : Below Wl.heap.size Wl W) => P1.out W hW kk)
          have P2 := hid (fun (W : World) (hW : Below Wl.heap.size Wl W) => P2.out W hW kk)
          rw [← hvv] at A1k A2k
          obtain ⟨pp, hpp⟩ : ∃ x, x = F7.points kk a b q L := ⟨_, rfl⟩
          rw [← hpp] at P1 P2
          have HKX := hid (fun (W : World) (hW : Below Wl.heap.size Wl W) => (HKR.out W hW).at3 hkk)
          clear hvv hpp hbk hkk A1 A2 HKR
          go_wp2_with fail
          refine (A1k.out _ hbl.out).mono ?_
          rintro e wn ⟨rfl, hb⟩
          have hbl := hid (below_t hbl.out hb)
          clear hb y0 y1 y2
          obtain ⟨_, _, hbe, hbk, y0, y1, y2⟩ := HKX.out _ hbl.out
          cases hbe
          clear hbk A1k
          go_wp2_with fail
          refine (A2k.out _ hbl.out).mono ?_
          rintro e wn ⟨rfl, hb⟩
          have hbl := hid (below_t hbl.out hb)
          clear hb y0 y1 y2 A2k
          have HVV := hid (show (vv1.2 != vv1.2) = false by simp)
          have HLT := hid (show ¬ ((m : Int) ≤ (i : Int)) by omega)
          go_upto_region 13 with fail
          have HT3 := hid (hbl.out.drew)
          refine wa_start (S := fun W => Below Wl.heap.size Wl W) (by kernel_rfl) HT3.out ?_
          obtain ⟨wd, hwd⟩ : ∃ x, x = wn.drew := ⟨_, rfl⟩
          rw [← hwd] at HT3 ⊢
          clear hwd
          refine wa_tk 0 (some 69) (.int .i64 vv1.1) rfl (by kernel_rfl) rfl rfl HT3.out (fun w h0 => by go_simp) ?_
          try simp only [Act.put, List.setIfInBounds_toArray, List.set_cons_zero, List.set_cons_succ]
          refine wa_tk 1 (some 70) (.int .i64 vv1.1) rfl (by kernel_rfl) rfl rfl HT3.out (fun w h0 => by go_simp) ?_
          try simp only [Act.put, List.setIfInBounds_toArray, List.set_cons_zero, List.set_cons_succ]
          refine wa_tk 2 (some 71) (.bool false) rfl (by kernel_rfl) rfl rfl HT3.out (fun w h0 => by go_simp) ?_
          try simp only [Act.put, List.setIfInBounds_toArray, List.set_cons_zero, List.set_cons_succ]
          refine wa_tk 3 (some 72) (.bool false) rfl (by kernel_rfl) rfl rfl HT3.out (fun w h0 => by go_simp) ?_
          try simp only [Act.put, List.setIfInBounds_toArray, List.set_cons_zero, List.set_cons_succ]
          refine wa_tkg 4 (some 73) (.bool vv1.2) rfl (by kernel_rfl) rfl rfl HT3.out (fun w h0 => by go_simp) ?_
          try simp only [Act.put, List.setIfInBounds_toArray, List.set_cons_zero, List.set_cons_succ]
          refine wa_tkg 5 (some 74) (.bool vv1.2) rfl (by kernel_rfl) rfl rfl HT3.out (fun w h0 => by go_simp) ?_
          try simp only [Act.put, List.setIfInBounds_toArray, List.set_cons_zero, List.set_cons_succ]
          refine wa_tkg 6 (some 75) (.bool false) rfl (by kernel_rfl) rfl rfl HT3.out (fun w h0 => by have hvv := HVV.out; go_simp) ?_
          try simp only [Act.put, List.setIfInBounds_toArray, List.set_cons_zero, List.set_cons_succ]
          refine wa_tk 7 (some 76) (.bool false) rfl (by kernel_rfl) rfl rfl HT3.out (fun w h0 => by go_simp) ?_
          try simp only [Act.put, List.setIfInBounds_toArray, List.set_cons_zero, List.set_cons_succ]
          refine wa_tk 8 (some 77) (.bool false) rfl (by kernel_rfl) rfl rfl HT3.out (fun w h0 => by go_simp) ?_
          try simp only [Act.put, List.setIfInBounds_toArray, List.set_cons_zero, List.set_cons_succ]
          refine wa_tkg 9 (some 78) (.slice p n c) rfl (by kernel_rfl) rfl rfl HT3.out (fun w h0 => by go_simp) ?_
          try simp only [Act.put, List.setIfInBounds_toArray, List.set_cons_zero, List.set_cons_succ]
          refine wa_tkg 10 (some 79) (.slice (some ⟨bk, ok, none⟩) m ck) rfl (by kernel_rfl) rfl rfl HT3.out (fun w h0 => by go_simp) ?_
          try simp only [Act.put, List.setIfInBounds_toArray, List.set_cons_zero, List.set_cons_succ]
          refine wa_tkg 11 (some 80) (.int .i64 (i : Int)) rfl (by kernel_rfl) rfl rfl HT3.out (fun w h0 => by go_simp) ?_
          try simp only [Act.put, List.setIfInBounds_toArray, List.set_cons_zero, List.set_cons_succ]
          refine wa_tkg 14 (some 83) (.int .i64 a) rfl (by kernel_rfl) rfl rfl HT3.out (fun w h0 => by go_simp) ?_
          try simp only [Act.put, List.setIfInBounds_toArray, List.set_cons_zero, List.set_cons_succ]
          refine wa_tkg 15 (some 84) (.int .i64 b) rfl (by kernel_rfl) rfl rfl HT3.out (fun w h0 => by go_simp) ?_
          try simp only [Act.put, List.setIfInBounds_toArray, List.set_cons_zero, List.set_cons_succ]
          refine wa_tkg 16 (some 85) (.int .i64 q) rfl (by kernel_rfl) rfl rfl HT3.out (fun w h0 => by go_simp) ?_
          try simp only [Act.put, List.setIfInBounds_toArray, List.set_cons_zero, List.set_cons_succ]
          refine wa_tkg 18 (some 87) (.slice p n c) rfl (by kernel_rfl) rfl rfl HT3.out (fun w h0 => by go_simp) ?_
          try simp only [Act.put, List.setIfInBounds_toArray, List.set_cons_zero, List.set_cons_succ]
          refine wa_tkg 19 (some 88) (.slice (some ⟨bk, ok, none⟩) m ck) rfl (by kernel_rfl) rfl rfl HT3.out (fun w h0 => by go_simp) ?_
          try simp only [Act.put, List.setIfInBounds_toArray, List.set_cons_zero, List.set_cons_succ]
          refine wa_tkg 20 (some 89) (.int .i64 (i : Int)) rfl (by kernel_rfl) rfl rfl HT3.out (fun w h0 => by go_simp) ?_
          try simp only [Act.put, List.setIfInBounds_toArray, List.set_cons_zero, List.set_cons_succ]
          refine wa_tkg 23 (some 92) (.int .i64 a) rfl (by kernel_rfl) rfl rfl HT3.out (fun w h0 => by go_simp) ?_
          try simp only [Act.put, List.setIfInBounds_toArray, List.set_cons_zero, List.set_cons_succ]
          refine wa_tkg 24 (some 93) (.int .i64 b) rfl (by kernel_rfl) rfl rfl HT3.out (fun w h0 => by go_simp) ?_
          try simp only [Act.put, List.setIfInBounds_toArray, List.set_cons_zero, List.set_cons_succ]
          refine wa_tkg 25 (some 94) (.int .i64 q) rfl (by kernel_rfl) rfl rfl HT3.out (fun w h0 => by go_simp) ?_
          try simp only [Act.put, List.setIfInBounds_toArray, List.set_cons_zero, List.set_cons_succ]
          refine wa_tkg 12 (some 81) (.pointer (some ⟨bk, ok + i * 3, none⟩)) rfl (by kernel_rfl) rfl rfl HT3.out (fun w h0 => by have hlt := HLT.out; go_simp) ?_
          try simp only [Act.put, List.setIfInBounds_toArray, List.set_cons_zero, List.set_cons_succ]
          refine wa_tkg 13 (some 82) (.agg #[.int .i64 kk.1, .int .i64 kk.2.1, .int .i64 kk.2.2]) rfl (by kernel_rfl) rfl rfl HT3.out (fun w h0 => by obtain ⟨_, _, hbe, hbk, y0, y1, y2⟩ := HKX.out _ h0; cases hbe; go_simp) ?_
          try simp only [Act.put, List.setIfInBounds_toArray, List.set_cons_zero, List.set_cons_succ]
          refine wa_tkg 21 (some 90) (.pointer (some ⟨bk, ok + i * 3, none⟩)) rfl (by kernel_rfl) rfl rfl HT3.out (fun w h0 => by have hlt := HLT.out; go_simp) ?_
          try simp only [Act.put, List.setIfInBounds_toArray, List.set_cons_zero, List.set_cons_succ]
          refine wa_tkg 22 (some 91) (.agg #[.int .i64 kk.1, .int .i64 kk.2.1, .int .i64 kk.2.2]) rfl (by kernel_rfl) rfl rfl HT3.out (fun w h0 => by obtain ⟨_, _, hbe, hbk, y0, y1, y2⟩ := HKX.out _ h0; cases hbe; go_simp) ?_
          try simp only [Act.put, List.setIfInBounds_toArray, List.set_cons_zero, List.set_cons_succ]
          refine wa_branch [17] (by decide +kernel) rfl ?_
          refine ar_opg 17 rfl rfl (fun K hK => ?_) ar_nil
          unfold Oper.wp
          go_simp
          go_at_call 21
          refine (P1.out _ HT3.out).mono ?_
          rintro e wz ⟨u1, rfl, hps, hb⟩
          have HT3 := hid (below_t HT3.out hb)
          have Hu1 := hid hps
          clear hps hb
          go_simp
          refine hK.out _ _ HT3.out ?_
          clear hK K
          try simp only [Act.put, List.setIfInBounds_toArray, List.set_cons_zero, List.set_cons_succ]
          refine wa_branch [26] (by decide +kernel) rfl ?_
          refine ar_opg 26 rfl rfl (fun K hK => ?_) ar_nil
          unfold Oper.wp
          go_simp
          go_at_call 22
          refine (P2.out _ HT3.out).mono ?_
          rintro e wz ⟨u2, rfl, hps, hb⟩
          have HT3 := hid (below_t HT3.out hb)
          have Hu1 := hid (Hu1.out.ups hb)
          have Hu2 := hid hps
          clear hps hb
          go_simp
          refine hK.out _ _ HT3.out ?_
          clear hK K
          try simp only [Act.put, List.setIfInBounds_toArray, List.set_cons_zero, List.set_cons_succ]
          refine wa_branch [27] (by decide +kernel) rfl ?_
          refine ar_opg 27 rfl rfl (fun K hK => ?_) ar_nil
          unfold Oper.wp
          go_simp
          go_at_call 20
          have HSP := hid (samePoints_any u1 u2 _ _ _ Hu1.out Hu2.out)
          rw [show decide (pp = pp) = true by simp] at HSP
          refine HSP.out.mono ?_
          rintro e wz ⟨rfl, hb⟩
          have HT3 := hid (below_t HT3.out hb)
          clear hb HSP Hu1 Hu2
          go_simp
          refine hK.out _ _ HT3.out ?_
          clear hK K
          try simp only [Act.put, List.setIfInBounds_toArray, List.set_cons_zero, List.set_cons_succ]
          refine wa_tkg 28 (some 97) (.bool false) rfl (by kernel_rfl) rfl rfl HT3.out (fun w h0 => by go_simp) ?_
          try simp only [Act.put, List.setIfInBounds_toArray, List.set_cons_zero, List.set_cons_succ]
          refine wa_tk 29 (some 98) (.bool false) rfl (by kernel_rfl) rfl rfl HT3.out (fun w h0 => by go_simp) ?_
          try simp only [Act.put, List.setIfInBounds_toArray, List.set_cons_zero, List.set_cons_succ]
          refine wa_done (by decide +kernel) ?_
          clear P1 P2 HKX HLT
          go_wp2_with fail
          go_roundw
          case rel => exact ⟨i + 1, by omega, by go_num, HT3⟩
          case measure => simp [intOf]; omega
        · clear A1 A2 P1 P2 HKR
          have HB := hid (below_t HB.out hbl.out)
          go_wp2_with fail
          go_ret
          exact ⟨rfl, HB.out⟩
end Go.Proofs.Ytbejjindkcjecaa

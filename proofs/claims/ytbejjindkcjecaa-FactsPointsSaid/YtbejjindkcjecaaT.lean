/- Contract: Changed. -/
import Derived.Test.YtbejjindkcjecaaS
namespace Go.Proofs.Ytbejjindkcjecaa
open Go.RowKit Go
set_option linter.unusedVariables false
set_option linter.unusedSimpArgs false
theorem GR.at3 {p : Option Addr} {n0 : Nat} {l : List KE} {W : World} (h : GR kc 3 p n0 l W) {i : Nat} {f : KE} (hi : l[i]? = some f) : ∃ b o, p = some ⟨b, o, none⟩ ∧ b < n0 ∧ W.cell? ⟨b, o + i * 3, none⟩ = some (.int .i64 f.1) ∧ W.cell? ⟨b, o + i * 3 + 1, none⟩ = some (.int .i64 f.2.1) ∧ W.cell? ⟨b, o + i * 3 + 2, none⟩ = some (.int .i64 f.2.2) := by
  obtain ⟨b, o, e, hl, h1⟩ := h i f hi
  exact ⟨b, o, e, hl, h1 0 _ rfl, h1 1 _ rfl, h1 2 _ rfl⟩
theorem nodup_len : ∀ {l m : List KE}, l.Nodup → (∀ x ∈ l, x ∈ m) → l.length ≤ m.length
  | [], m, _, _ => by simp
  | x :: r, m, hn, h => by
    obtain ⟨h1, h2⟩ := List.nodup_cons.1 hn
    have hx : x ∈ m := h x (by simp)
    have := nodup_len (l := r) (m := m.erase x) h2 (fun y hy => by
      rw [List.mem_erase_of_ne (fun e : y = x => h1 (by rw [← e]; exact hy))]
      exact h y (by simp [hy]))
    rw [List.length_erase_of_mem hx] at this
    have hpos : 0 < m.length := List.length_pos_of_mem hx
    simp; omega
theorem tch_mem {q q' : Int} {L : List FA} {k : KE} (h : Tch q q' L k = true) : k ∈ L.map F7.Fact.key := by
  obtain ⟨f, hf, e⟩ := List.any_eq_true.1 h
  simp only [Bool.and_eq_true, decide_eq_true_eq] at e
  exact List.mem_map.2 ⟨f, hf, e.1⟩
theorem MK.below {W W' : World} {b n : Nat} {M : KE → Option Value} (h : MK W b n M) (hb : Below W.heap.size W W') : MK W' b n M := h.kept (grown_of_below (r := none) hb) (by simp)
theorem CS.mono {w : World} {b b' : Nat} {v : Value} {l : List (KE × List (Int × Int))} (h : CS w b v l) (hb : b' ≤ b) : CS w b' v l := by
  obtain ⟨l', h1, h2, h3⟩ := h
  exact ⟨l', GO.mono h1 hb, h2, fun i x y hx hy => ⟨(h3 i x y hx hy).1, GO.mono (h3 i x y hx hy).2 hb⟩⟩
theorem cs_nil (w : World) (base : Nat) : CS w base (.slice none 0 0) [] := ⟨[], go_nil _ _, rfl, fun i x y hx => by simp at hx⟩
/-- the changes of a row of keys -/
def chg (q q' : Int) (L : List FA) (k : KE) : Option (KE × List (Int × Int)) := if F7.difs k q q' L = [] then none else some (k, F7.difs k q q' L)
set_option maxRecDepth 100000 in
set_option maxHeartbeats 8000000 in
theorem changed_any (v : Value) (L : List FA) (q q' : Int) (w : World) (hv : FS w v L) (hL : L.length ≤ 19) (hwk : WK L) :
    Calls Try.prog 24 #[v, .int .i64 q, .int .i64 q'] w fun e w' => ∃ u, e = .returned u ∧ CS w' w.heap.size u (F7.changes q q' L) ∧ Below w.heap.size w w' := by
  have HT0 := hid (touched_any v L q q' w hv (by omega) hwk)
  have HL := hid hL; have HWK := hid hwk
  obtain ⟨p, cp, hvf⟩ := hv.form
  obtain ⟨m0, hm0⟩ : ∃ m, m = L.length := ⟨_, rfl⟩
  rw [← hm0] at hvf
  subst hvf
  clear hv hL hwk hm0
  go_enter Try.func24, Try.ntmps24
  go_wp2_with fail
  refine HT0.out.mono ?_
  rintro e w1 ⟨b, rfl, htm, hbl1, hbw⟩
  obtain ⟨nn, V, hnn, hmk, hF, hD⟩ := htm
  have HMK := hid hmk; have HF := hid hF; have HB1 := hid hbl1
  clear hmk hF hD hbl1 HT0 hbw
  have KA := hid (keys_any b w1)
  go_wp2_with fail
  refine KA.out.mono ?_
  rintro e w2 ⟨rfl, hw2⟩
  have d1 : Blk w2 w1.heap.size 71 [.map (some b)] := by rw [hw2]; exact Blk.new w1 71 [.map (some b)]
  have hb12 : Below w1.heap.size w1 w2 := by rw [hw2]; exact (Below.refl _ w1).alloc (Nat.le_refl _) _
  clear hw2 KA
  have SK := hid (sortedKeys_any w1.heap.size b nn _ w2 d1.lt (d1.cell 0 _ rfl) (HMK.out.below hb12) (by have := HL.out; omega) (fun ks hks => by
    have h1 := nodup_len (m := L.map F7.Fact.key) hks.1 (fun k hk => tch_mem (by
      have h2 := (hks.2.2 k (hks.2.1 k hk)).1 hk
      by_cases e : Tch q q' L k = true
      · exact e
      · simp [e] at h2))
    rw [List.length_map] at h1
    have := HL.out; omega))
  have HB2 := hid (below_t HB1.out hb12)
  have HB12 := hid hb12
  clear d1 hb12
  go_wp2_with fail
  refine SK.out.mono ?_
  rintro e w3 ⟨v3, ks, rfl, hks, hpw, hwfk, hmem, hb23⟩
  have HB23 := hid (below_t HB12.out hb23)
  have HB3 := hid (below_t HB2.out hb23)
  have HM3 := hid ((HMK.out.below HB12.out).below hb23)
  have HF3 := hid (fun k hk => (HF.out k hk).ups HB23.out)
  obtain ⟨p3, c3, rfl⟩ := hks.form
  have hr3 : KR p3 w3.heap.size ks w3 := hks.gr 3 kc_len (by omega)
  have HK3 := hid hr3; have HWF := hid hwfk; have HMEM := hid hmem; have HPW := hid hpw
  have hm3 := hks.len
  obtain ⟨m, hm⟩ : ∃ m, m = ks.length := ⟨_, rfl⟩
  rw [← hm] at hm3 ⊢
  unfold maxLen at hm3
  have HMM := hid hm
  have hks20 : m ≤ 100 := by
    rw [hm]
    have h1 := nodup_len (m := L.map F7.Fact.key) (hpw.imp (fun {a b} h e => by subst e; exact F7.kl_irrefl _ h)) (fun k hk => tch_mem (by
      have h2 := (hmem k (hwfk k hk)).1 hk
      by_cases e : Tch q q' L k = true
      · exact e
      · simp [e] at h2))
    rw [List.length_map] at h1
    have := HL.out; omega
  clear hks hpw hwfk hmem hb23 hr3 hm SK HMK HF HB1 HB2 HB12 HB23
  go_wp2_with fail
  go_loopw [21, 6] (fun i u wr => ∃ n : Nat, n ≤ m ∧ i = .int .i64 n ∧ Hid (CS wr w3.heap.size u ((ks.take n).filterMap (chg q q' L))) ∧ Hid (Below w3.heap.size w3 wr)) (fun i _ _ => m - (intOf i).toNat)
  case atStart => exact ⟨0, by omega, rfl, hid (cs_nil _ _), hid (Below.refl _ _)⟩
  case round =>
    obtain ⟨n, hn, rfl, hcs, hbl⟩ := hrel
    by_cases hlt : n < m
    · obtain ⟨k, hk⟩ := get_lt (l := ks) (i := n) (by rw [← HMM.out]; exact hlt)
      obtain ⟨bb, o, rfl, hbb, x0, x1, x2⟩ := (HK3.out.up hbl.out).at3 hk
      have hkm := List.mem_of_getElem? hk
      have hkw := HWF.out k hkm
      have hT : Tch q q' L k = true := by
        have h2 := (HMEM.out k hkw).1 hkm
        by_cases e : Tch q q' L k = true
        · exact e
        · simp [e] at h2
      have HTS := hid (take_snoc hk)
      obtain ⟨Z, hZ⟩ : ∃ Z, Z = wr.alloc (.cells #[.int .i64 k.1, .int .i64 k.2.1, .int .i64 k.2.2] 24) := ⟨_, rfl⟩
      have hzb : Below wr.heap.size wr Z := by rw [hZ]; exact (Below.refl _ wr).alloc (Nat.le_refl _) _
      have hzk : Blk Z wr.heap.size 24 (kc k) := by rw [hZ]; exact Blk.new wr 24 (kc k)
      have h3z : Below w3.heap.size w3 Z := below_t hbl.out hzb
      have hmz := HM3.out.below h3z
      obtain ⟨Vk, hVk⟩ : ∃ Vk, Vk = V k := ⟨_, rfl⟩
      have hfz : FS Z Vk (ofKey k L) := by rw [hVk]; exact ((HF3.out k hT).ups h3z).gs
      have hlz : ∀ W, Below Z.heap.size Z W → (Instr.lookup 71 (.map (some b)) (.agg #[.int .i64 k.1, .int .i64 k.2.1, .int .i64 k.2.2]) false).run Try.prog W = .ok Vk W := fun W hW => by
        have h := (hmz.below hW).look hkw
        rw [hT] at h
        rw [hVk]; exact h
      have hof : (ofKey k L).length ≤ 19 := Nat.le_trans (ofKey_length k L) HL.out
      have hsl : ∀ t, (sel k t (ofKey k L)).length ≤ 19 := fun t => Nat.le_trans (List.length_filter_le _ _) hof
      have HV1 := hid (fun (W : World) (hW : Below Z.heap.size Z W) => values_any Vk (ofKey k L) k 0 1024 1024 q W (hfz.ups hW) (by omega) (by omega) (by omega) (by omega) (by omega) (hsl q))
      have HV2 := hid (fun (W : World) (hW : Below Z.heap.size Z W) => values_any Vk (ofKey k L) k 0 1024 1024 q' W (hfz.ups hW) (by omega) (by omega) (by omega) (by omega) (by omega) (hsl q'))
      have HLK := hid hlz
      have HKB := hid (fun (W : World) (hW : Below Z.heap.size Z W) => hzk.below hW hzk.lt)
      have HCS := hid ((hcs.out.ups hzb)); have H3Z := hid h3z
      obtain ⟨h1, hh1⟩ : ∃ h1, h1 = fun t => vv t (sel k q (ofKey k L)) := ⟨_, rfl⟩
      obtain ⟨h2, hh2⟩ : ∃ h2, h2 = fun t => vv t (sel k q' (ofKey k L)) := ⟨_, rfl⟩
      rw [← hh1] at HV1; rw [← hh2] at HV2
      have HD := hid (difs_ofs k q q' L)
      have HH := hid (show T6.ofs (fun x => h1 x ≠ h2 x) 1024 = F7.difs k q q' L by rw [hh1, hh2]; exact HD.out)
      obtain ⟨Bk, hBk⟩ : ∃ Bk, Bk = wr.heap.size := ⟨_, rfl⟩
      rw [← hBk] at HKB
      clear hk hbb hkm hT hzb hzk h3z hmz hfz hlz hof hsl hcs hbl hVk hh1 hh2 HD hkw
      go_upto_region 5 with fail
      rw [← hZ, ← hBk]
      clear hZ hBk x0 x1 x2
      go_cut [10] (fun u wx => ∃ B g, u = .pointer (some ⟨B, 0, none⟩) ∧ Hid (Blk wx B 69 [.slice (some ⟨g, 0, none⟩) 1024 1024]) ∧ Hid (Blk wx g 3 (rowOf h1 0 1024)) ∧ Hid (Below Z.heap.size Z wx))
      case first =>
        have HT := hid (show Below Z.heap.size Z Z.drew from (Below.refl Z.heap.size Z).drew)
        obtain ⟨Wd, hWd⟩ : ∃ W, W = Z.drew := ⟨_, rfl⟩
        have HT0 := hid (show Below Z.heap.size Z Wd by rw [hWd]; exact HT.out)
        refine wa_start (S := fun W => Below Z.heap.size Z W) (by kernel_rfl) HT.out ?_
        rw [← hWd]
        rw [← hWd] at HT
        clear hWd
        refine wa_tk 0 (some 25) (.map (some b)) rfl (by kernel_rfl) rfl rfl HT.out (fun w h0 => by go_simp) ?_
        try simp only [Act.put, List.setIfInBounds_toArray, List.set_cons_zero, List.set_cons_succ]
        refine wa_tk 1 (some 26) (.agg #[.int .i64 k.1, .int .i64 k.2.1, .int .i64 k.2.2]) rfl (by kernel_rfl) rfl rfl HT.out (fun w h0 => by have h1' := HKB.out _ h0; have a0 := h1'.cell 0 _ rfl; have a1 := h1'.cell 1 _ rfl; have a2 := h1'.cell 2 _ rfl; go_simp) ?_
        try simp only [Act.put, List.setIfInBounds_toArray, List.set_cons_zero, List.set_cons_succ]
        refine wa_tk 2 (some 27) (Vk) rfl (by kernel_rfl) rfl rfl HT.out (fun w h0 => by have hl := HLK.out _ h0; go_simp) ?_
        try simp only [Act.put, List.setIfInBounds_toArray, List.set_cons_zero, List.set_cons_succ]
        refine wa_tk 3 (some 28) (.agg #[.int .i64 k.1, .int .i64 k.2.1, .int .i64 k.2.2]) rfl (by kernel_rfl) rfl rfl HT.out (fun w h0 => by have h1' := HKB.out _ h0; have a0 := h1'.cell 0 _ rfl; have a1 := h1'.cell 1 _ rfl; have a2 := h1'.cell 2 _ rfl; go_simp) ?_
        try simp only [Act.put, List.setIfInBounds_toArray, List.set_cons_zero, List.set_cons_succ]
        refine wa_tk 4 (some 29) (.int .i64 q) rfl (by kernel_rfl) rfl rfl HT.out (fun w h0 => by go_simp) ?_
        try simp only [Act.put, List.setIfInBounds_toArray, List.set_cons_zero, List.set_cons_succ]
        refine wa_branch [5, 6] (by decide +kernel) rfl ?_
        refine ar_op 5 rfl rfl (fun K hK => ?_) (ar_op 6 rfl rfl (fun K hK => ?_) ar_nil)
        · unfold Oper.wp
          go_simp
          go_at_call 38
          refine (HV1.out _ HT.out).mono ?_
          rintro e W5 ⟨g, rfl, hgl, hbg, hbl⟩
          go_simp
          have HLE := hid (Nat.le_trans HT.out.size hbl.size)
          have HNE := hid (show g ≠ W5.heap.size from fun e => by have := hbg.lt; omega)
          have HT := hid (HT.out.trans (hbl.mono HT.out.size))
          have HG := hid hbg
          clear hgl hbg hbl
          refine hK.out _ _ HT.out ?_
          clear hK K
          try simp only [Act.put, List.setIfInBounds_toArray, List.set_cons_zero, List.set_cons_succ]
          refine wa_branch [6] (by decide +kernel) rfl ?_
          refine ar_op 6 rfl rfl (fun K hK => ?_) ar_nil
          have HT5 := HT
          unfold Oper.wp
          go_simp
          have HN := hid (Blk.new W5 69 [.slice none 0 0])
          have HT := hid (HT.out.alloc HT.out.size (.cells #[.slice none 0 0] 69))
          refine hK.out _ _ HT.out ?_
          clear hK K
          try simp only [Act.put, List.setIfInBounds_toArray, List.set_cons_zero, List.set_cons_succ]
          refine wa_branch [7] (by decide +kernel) rfl ?_
          refine ar_op 7 rfl rfl (fun K hK => ?_) ar_nil
          have c0 := HN.out.cell 0 _ rfl
          have f0 := HN.out.frozen 0
          unfold Oper.wp
          go_simp
          have HN := hid (Blk.new W5 69 [.slice (some ⟨g, 0, none⟩) 1024 1024])
          have HG := hid (HG.out.alloc (.cells #[.slice (some ⟨g, 0, none⟩) 1024 1024] 69))
          have HT := hid (HT5.out.alloc HT5.out.size (.cells #[.slice (some ⟨g, 0, none⟩) 1024 1024] 69))
          refine hK.out _ _ HT.out ?_
          clear hK K
          try simp only [Act.put, List.setIfInBounds_toArray, List.set_cons_zero, List.set_cons_succ]
          refine wa_done (by decide +kernel) ?_
          go_wp2_with fail
          go_meet
          exact ⟨W5.heap.size, g, rfl, HN, HG, HT⟩
        · unfold Oper.wp
          go_simp
          have HN := hid (Blk.new Wd 69 [.slice none 0 0])
          have HT := hid (HT.out.alloc HT.out.size (.cells #[.slice none 0 0] 69))
          have HLE := hid (HT0.out.size)
          refine hK.out _ _ HT.out ?_
          clear hK K
          try simp only [Act.put, List.setIfInBounds_toArray, List.set_cons_zero, List.set_cons_succ]
          refine wa_branch [5] (by decide +kernel) rfl ?_
          refine ar_op 5 rfl rfl (fun K hK => ?_) ar_nil
          unfold Oper.wp
          go_simp
          go_at_call 38
          refine (HV1.out _ HT.out).mono ?_
          rintro e W5 ⟨g, rfl, hgl, hbg, hbl⟩
          go_simp
          have hlt := HN.out.lt
          have HNE := hid (show g ≠ Wd.heap.size from fun e => by omega)
          have HN := hid (HN.out.below hbl hlt)
          have HT := hid (HT.out.trans (hbl.mono HT.out.size))
          have HG := hid hbg
          clear hgl hbg hbl hlt
          refine hK.out _ _ HT.out ?_
          clear hK K
          try simp only [Act.put, List.setIfInBounds_toArray, List.set_cons_zero, List.set_cons_succ]
          refine wa_branch [7] (by decide +kernel) rfl ?_
          refine ar_op 7 rfl rfl (fun K hK => ?_) ar_nil
          have c0 := HN.out.cell 0 _ rfl
          have f0 := HN.out.frozen 0
          unfold Oper.wp
          go_simp
          have HN := hid (HN.out.set 0 (.slice (some ⟨g, 0, none⟩) 1024 1024))
          have HG := hid (HG.out.other (j := 0) HNE.out (.slice (some ⟨g, 0, none⟩) 1024 1024))
          have HT := hid (HT.out.setCell (p := ⟨Wd.heap.size, 0, none⟩) HLE.out (.slice (some ⟨g, 0, none⟩) 1024 1024))
          refine hK.out _ _ HT.out ?_
          clear hK K
          try simp only [Act.put, List.setIfInBounds_toArray, List.set_cons_zero, List.set_cons_succ]
          refine wa_done (by decide +kernel) ?_
          go_wp2_with fail
          go_meet
          exact ⟨Wd.heap.size, g, rfl, HN, HG, HT⟩
      case rest =>
        obtain ⟨B1, g1, rfl, hv1, hr1, hbz⟩ := hcut
        obtain ⟨Z2, hZ2⟩ : ∃ Z2, Z2 = wc := ⟨_, rfl⟩
        rw [← hZ2] at hv1 hr1 hbz ⊢
        clear hZ2
        have HKB := hid (fun (W : World) (hW : Below Z2.heap.size Z2 W) => HKB.out W (below_t hbz.out hW))
        have HLK := hid (fun (W : World) (hW : Below Z2.heap.size Z2 W) => HLK.out W (below_t hbz.out hW))
        have HV2 := hid (fun (W : World) (hW : Below Z2.heap.size Z2 W) => HV2.out W (below_t hbz.out hW))
        have HCS := hid (HCS.out.ups hbz.out)
        have H3Z := hid (below_t H3Z.out hbz.out)
        clear HV1 hbz
        go_upto_region 6 with fail
        go_cut [11] (fun u wx => ∃ B g, u = .pointer (some ⟨B, 0, none⟩) ∧ Hid (Blk wx B 69 [.slice (some ⟨g, 0, none⟩) 1024 1024]) ∧ Hid (Blk wx g 3 (rowOf h2 0 1024)) ∧ Hid (Below Z2.heap.size Z2 wx))
        case first =>
          have HT := hid (show Below Z2.heap.size Z2 Z2.drew from (Below.refl Z2.heap.size Z2).drew)
          obtain ⟨Wd, hWd⟩ : ∃ W, W = Z2.drew := ⟨_, rfl⟩
          have HT0 := hid (show Below Z2.heap.size Z2 Wd by rw [hWd]; exact HT.out)
          refine wa_start (S := fun W => Below Z2.heap.size Z2 W) (by kernel_rfl) HT.out ?_
          rw [← hWd]
          rw [← hWd] at HT
          clear hWd
          refine wa_tk 0 (some 31) (.map (some b)) rfl (by kernel_rfl) rfl rfl HT.out (fun w h0 => by go_simp) ?_
          try simp only [Act.put, List.setIfInBounds_toArray, List.set_cons_zero, List.set_cons_succ]
          refine wa_tk 1 (some 32) (.agg #[.int .i64 k.1, .int .i64 k.2.1, .int .i64 k.2.2]) rfl (by kernel_rfl) rfl rfl HT.out (fun w h0 => by have h1' := HKB.out _ h0; have a0 := h1'.cell 0 _ rfl; have a1 := h1'.cell 1 _ rfl; have a2 := h1'.cell 2 _ rfl; go_simp) ?_
          try simp only [Act.put, List.setIfInBounds_toArray, List.set_cons_zero, List.set_cons_succ]
          refine wa_tk 2 (some 33) (Vk) rfl (by kernel_rfl) rfl rfl HT.out (fun w h0 => by have hl := HLK.out _ h0; go_simp) ?_
          try simp only [Act.put, List.setIfInBounds_toArray, List.set_cons_zero, List.set_cons_succ]
          refine wa_tk 3 (some 34) (.agg #[.int .i64 k.1, .int .i64 k.2.1, .int .i64 k.2.2]) rfl (by kernel_rfl) rfl rfl HT.out (fun w h0 => by have h1' := HKB.out _ h0; have a0 := h1'.cell 0 _ rfl; have a1 := h1'.cell 1 _ rfl; have a2 := h1'.cell 2 _ rfl; go_simp) ?_
          try simp only [Act.put, List.setIfInBounds_toArray, List.set_cons_zero, List.set_cons_succ]
          refine wa_tk 4 (some 35) (.int .i64 q') rfl (by kernel_rfl) rfl rfl HT.out (fun w h0 => by go_simp) ?_
          try simp only [Act.put, List.setIfInBounds_toArray, List.set_cons_zero, List.set_cons_succ]
          refine wa_branch [5, 6] (by decide +kernel) rfl ?_
          refine ar_op 5 rfl rfl (fun K hK => ?_) (ar_op 6 rfl rfl (fun K hK => ?_) ar_nil)
          · unfold Oper.wp
            go_simp
            go_at_call 38
            refine (HV2.out _ HT.out).mono ?_
            rintro e W5 ⟨g, rfl, hgl, hbg, hbl⟩
            go_simp
            have HLE := hid (Nat.le_trans HT.out.size hbl.size)
            have HNE := hid (show g ≠ W5.heap.size from fun e => by have := hbg.lt; omega)
            have HT := hid (HT.out.trans (hbl.mono HT.out.size))
            have HG := hid hbg
            clear hgl hbg hbl
            refine hK.out _ _ HT.out ?_
            clear hK K
            try simp only [Act.put, List.setIfInBounds_toArray, List.set_cons_zero, List.set_cons_succ]
            refine wa_branch [6] (by decide +kernel) rfl ?_
            refine ar_op 6 rfl rfl (fun K hK => ?_) ar_nil
            have HT5 := HT
            unfold Oper.wp
            go_simp
            have HN := hid (Blk.new W5 69 [.slice none 0 0])
            have HT := hid (HT.out.alloc HT.out.size (.cells #[.slice none 0 0] 69))
            refine hK.out _ _ HT.out ?_
            clear hK K
            try simp only [Act.put, List.setIfInBounds_toArray, List.set_cons_zero, List.set_cons_succ]
            refine wa_branch [7] (by decide +kernel) rfl ?_
            refine ar_op 7 rfl rfl (fun K hK => ?_) ar_nil
            have c0 := HN.out.cell 0 _ rfl
            have f0 := HN.out.frozen 0
            unfold Oper.wp
            go_simp
            have HN := hid (Blk.new W5 69 [.slice (some ⟨g, 0, none⟩) 1024 1024])
            have HG := hid (HG.out.alloc (.cells #[.slice (some ⟨g, 0, none⟩) 1024 1024] 69))
            have HT := hid (HT5.out.alloc HT5.out.size (.cells #[.slice (some ⟨g, 0, none⟩) 1024 1024] 69))
            refine hK.out _ _ HT.out ?_
            clear hK K
            try simp only [Act.put, List.setIfInBounds_toArray, List.set_cons_zero, List.set_cons_succ]
            refine wa_done (by decide +kernel) ?_
            go_wp2_with fail
            go_meet
            exact ⟨W5.heap.size, g, rfl, HN, HG, HT⟩
          · unfold Oper.wp
            go_simp
            have HN := hid (Blk.new Wd 69 [.slice none 0 0])
            have HT := hid (HT.out.alloc HT.out.size (.cells #[.slice none 0 0] 69))
            have HLE := hid (HT0.out.size)
            refine hK.out _ _ HT.out ?_
            clear hK K
            try simp only [Act.put, List.setIfInBounds_toArray, List.set_cons_zero, List.set_cons_succ]
            refine wa_branch [5] (by decide +kernel) rfl ?_
            refine ar_op 5 rfl rfl (fun K hK => ?_) ar_nil
            unfold Oper.wp
            go_simp
            go_at_call 38
            refine (HV2.out _ HT.out).mono ?_
            rintro e W5 ⟨g, rfl, hgl, hbg, hbl⟩
            go_simp
            have hlt := HN.out.lt
            have HNE := hid (show g ≠ Wd.heap.size from fun e => by omega)
            have HN := hid (HN.out.below hbl hlt)
            have HT := hid (HT.out.trans (hbl.mono HT.out.size))
            have HG := hid hbg
            clear hgl hbg hbl hlt
            refine hK.out _ _ HT.out ?_
            clear hK K
            try simp only [Act.put, List.setIfInBounds_toArray, List.set_cons_zero, List.set_cons_succ]
            refine wa_branch [7] (by decide +kernel) rfl ?_
            refine ar_op 7 rfl rfl (fun K hK => ?_) ar_nil
            have c0 := HN.out.cell 0 _ rfl
            have f0 := HN.out.frozen 0
            unfold Oper.wp
            go_simp
            have HN := hid (HN.out.set 0 (.slice (some ⟨g, 0, none⟩) 1024 1024))
            have HG := hid (HG.out.other (j := 0) HNE.out (.slice (some ⟨g, 0, none⟩) 1024 1024))
            have HT := hid (HT.out.setCell (p := ⟨Wd.heap.size, 0, none⟩) HLE.out (.slice (some ⟨g, 0, none⟩) 1024 1024))
            refine hK.out _ _ HT.out ?_
            clear hK K
            try simp only [Act.put, List.setIfInBounds_toArray, List.set_cons_zero, List.set_cons_succ]
            refine wa_done (by decide +kernel) ?_
            go_wp2_with fail
            go_meet
            exact ⟨Wd.heap.size, g, rfl, HN, HG, HT⟩
        case rest =>
          obtain ⟨B2, g2, rfl, hv2, hr2, hbz⟩ := hcut
          obtain ⟨Z3, hZ3⟩ : ∃ Z3, Z3 = wc := ⟨_, rfl⟩
          rw [← hZ3] at hv2 hr2 hbz ⊢
          clear hZ3
          have hv1' := hv1.out.below hbz.out hv1.out.lt
          have hr1' := hr1.out.below hbz.out hr1.out.lt
          have HTW := hid (show Two Z3 B1 B2 g1 g2 h1 h2 from ⟨hv1'.cell 0 _ rfl, hv2.out.cell 0 _ rfl, fun j hj => by have := hr1'.cell j _ (rowOf_get h1 0 1024 j hj); rwa [Int.zero_add] at this, fun j hj => by have := hr2.out.cell j _ (rowOf_get h2 0 1024 j hj); rwa [Int.zero_add] at this⟩)
          have HJ := hid (joined_any B1 B2 g1 g2 h1 h2 Z3 HTW.out hv1'.lt hv2.out.lt hr1'.lt hr2.out.lt)
          have HKB := hid (HKB.out Z3 hbz.out)
          have HCS := hid (HCS.out.ups hbz.out)
          have H3Z := hid (below_t H3Z.out hbz.out)
          rw [HH.out] at HJ
          have hmf : ∀ (fn : Fn) (first cap : Array Value) (w : World), (Instr.makeFunc fn first cap).run Try.prog w = .ok (.func fn first cap) w := fun _ _ _ _ => rfl
          clear hv1' hr1' hv1 hr1 hv2 hr2 hbz HLK HV2 HTW
          go_wp2_with fail
          refine HJ.out.mono ?_
          rintro e w4 ⟨us, rfl, hso, hb4⟩
          clear hmf
          obtain ⟨pu, cu, hus⟩ := hso.gs.form
          subst hus
          obtain ⟨ds, hds⟩ : ∃ ds, ds = F7.difs k q q' L := ⟨_, rfl⟩
          have hchg : chg q q' L k = if ds = [] then none else some (k, ds) := by unfold chg; rw [hds]
          rw [← hds] at hso ⊢
          have HKC := hid (HKB.out.below hb4 HKB.out.lt)
          have HCS := hid (HCS.out.ups hb4)
          have H3Z' := hid (below_t H3Z.out hb4)
          have HNX := hid (show (ks.take (n + 1)).filterMap (chg q q' L) = (ks.take n).filterMap (chg q q' L) ++ (if ds = [] then [] else [(k, ds)]) by
            rw [HTS.out, List.filterMap_append, List.filterMap_cons, hchg]
            by_cases e : ds = [] <;> simp [e])
          have HSO := hid (GO.mono hso H3Z.out.size)
          obtain ⟨nd, hnd⟩ : ∃ nd, nd = ds.length := ⟨_, rfl⟩
          rw [← hnd] at HSO ⊢
          have HND := hid hnd
          have k0 := HKC.out.cell 0 _ rfl; have k1 := HKC.out.cell 1 _ rfl; have k2 := HKC.out.cell 2 _ rfl
          clear hso hb4 hchg hds hnd HKB HKC HJ HH H3Z
          by_cases hz : nd = 0
          · subst hz
            have hd0 : ds = [] := List.eq_nil_of_length_eq_zero HND.out.symm
            rw [if_pos hd0, List.append_nil] at HNX
            have HC2 := hid (show CS w4 w3.heap.size u6 ((ks.take (n + 1)).filterMap (chg q q' L)) by rw [HNX.out]; exact HCS.out)
            clear hd0 HNX HND HCS
            go_wp2
            go_roundw
            case rel => exact ⟨n + 1, by omega, by go_num, HC2, H3Z'⟩
            case measure => simp [intOf]; omega
          · have hd0 : ds ≠ [] := fun e => hz (by rw [HND.out, e]; rfl)
            rw [if_neg hd0] at HNX
            obtain ⟨g5, cap5, w5, happ, hc5, hb5⟩ := app_change HCS.out k pu nd cu ds HSO.out (by
              have h1 := List.length_filterMap_le (chg q q' L) (ks.take n)
              have h2 : (ks.take n).length ≤ n := by rw [List.length_take]; omega
              omega) H3Z'.out.size
            have HC2 := hid (show CS w5 w3.heap.size _ ((ks.take (n + 1)).filterMap (chg q q' L)) by rw [HNX.out]; exact hc5)
            have HB5 := hid (H3Z'.out.trans hb5)
            have HAPP := hid happ
            have hnz : 0 < nd := by omega
            clear hd0 HNX HND HCS HSO H3Z' happ hc5 hb5 hz
            go_wp2_with (at_builtin; refine wpList_append_run rfl (.tmp 42) (.tmp 46) 46 46 rfl _ _ _ ?_ ?_ HAPP.out ?_; exact rfl; exact rfl)
            go_roundw
            case rel => exact ⟨n + 1, by omega, by go_num, HC2, HB5⟩
            case measure => simp [intOf]; omega
    · have hd : (ks.take n).filterMap (chg q q' L) = F7.changes q q' L := by
        rw [show n = ks.length by have := HMM.out; omega, List.take_length]
        exact changes_of' HPW.out (fun k hk => by
          have hT : Tch q q' L k = true := by
            cases e : Tch q q' L k with
            | true => rfl
            | false => exact absurd (difs_same e) hk
          obtain ⟨f, hf, hfk⟩ := List.mem_map.1 (tch_mem hT)
          exact (HMEM.out k (by rw [← hfk]; exact HWK.out f hf)).2 (by simp [hT]))
      rw [hd] at hcs
      have HB := hid (below_t HB3.out hbl.out)
      have HC := hid (CS.mono hcs.out HB3.out.size)
      clear hd hcs hbl
      go_wp2
      go_ret
      exact ⟨_, rfl, HC.out, HB.out⟩
end Go.Proofs.Ytbejjindkcjecaa

/- Contracts: Clip, Add. -/
import Derived.Test.YtbejjindkcjecaaV
import Derived.ArgAppend
namespace Go.Proofs.Ytbejjindkcjecaa
open Go.RowKit Go
set_option linter.unusedVariables false
set_option linter.unusedSimpArgs false
section
variable {P : Program} {ops : Array Oper} {Q : Exit → Act → World → Prop} {S : World → Prop} {fuel : Nat} {listed : Array Bool} {a : Act} {w : World}
/-- a guarded operation that is wanted -/
theorem wa_tkg (i : Nat) (dt : Option Tmp) {oi : Oper} (v : Value) (hi : ops[i]? = some oi) (hb : (Region.noSelect ops && Region.free .any ops listed i && (Region.ready .any ops listed).contains i) = true)
    (hw : Region.wanted oi (yielded ops a.tmps) = true) (hdt : oi.dst = dt) (hS : S w) (hy : ∀ w, S w → (execOp a.eval oi).run P w = .ok (.value v) w)
    (h : WA P ops Q S fuel (listed.setIfInBounds i true) (a.put dt v) w) : WA P ops Q S (fuel + 1) listed a w := by
  subst hdt
  rw [Bool.and_eq_true, Bool.and_eq_true] at hb
  exact ⟨wpAnyH_take hi hb.1.1 hb.1.2 hb.2 (fun _ _ _ h => False.elim h) (.inl ⟨hw, hy⟩) hS h.out⟩
/-- a guarded operation that is not wanted -/
theorem wa_skg (i : Nat) (dt : Option Tmp) {oi : Oper} (hi : ops[i]? = some oi) (hb : (Region.noSelect ops && Region.free .any ops listed i && (Region.ready .any ops listed).contains i) = true)
    (hw : Region.wanted oi (yielded ops a.tmps) = false) (hdt : oi.dst = dt) (hS : S w)
    (h : WA P ops Q S fuel (listed.setIfInBounds i true) (a.put dt undef) w) : WA P ops Q S (fuel + 1) listed a w := by
  subst hdt
  rw [Bool.and_eq_true, Bool.and_eq_true] at hb
  exact ⟨wpAnyH_take hi hb.1.1 hb.1.2 hb.2 (fun _ _ _ h => False.elim h) (.inr ⟨hw, rfl⟩) hS h.out⟩
/-- a guarded operation that is wanted comes up -/
theorem ar_opg (i : Nat) {o : Oper} {rs : List Nat} (ho : ops[i]? = some o) (hw : Region.wanted o (yielded ops a.tmps) = true)
    (h : ∀ K : Act → World → Prop, Shut (∀ a w, S w → WA P ops Q S fuel (listed.setIfInBounds i true) a w → K a w) → Oper.wp P o a w K (NoPanic Q))
    (hs : AR P ops Q S fuel listed a w rs) : AR P ops Q S fuel listed a w (i :: rs) := by
  refine ⟨AllReadyH.cons ho (fun K hK => ?_) hs.out⟩
  rw [if_pos hw]
  exact h K (fun a w hS hW => hK a w hS (fun _ => hW.out))
end
theorem clip_any (p : Option Addr) (n cap : Nat) (w : World) (hc : n ≤ cap ∧ cap ≤ maxLen) : Calls Try.prog 34 #[.slice p n cap] w fun e w' => e = .returned (.slice p n n) ∧ ∃ q, w' = w.drewN q := by
  obtain ⟨h1, h2⟩ := hc
  unfold maxLen at h2
  go_enter Try.func34, Try.ntmps34
  go_wp2
  go_ret
  exact ⟨rfl, 0, rfl⟩
/-- a fact is appended to a clipped list -/
theorem app_clip {W : World} {p : Option Addr} {n cap : Nat} {L : List FA} (h : FS W (.slice p n cap) L) (x : FA) {B : Nat} (hc : ∀ j u, (fc x)[j]? = some u → W.cell? ⟨B, j, none⟩ = some u) (hn : L.length ≤ 1000000) :
    ∃ v' W', (Builtin.append_ #[22, 22] 22 #[.slice p n n, .slice (some ⟨B, 0, none⟩) 1 1]).run Try.prog W = .ok v' W' ∧ FO W' W.heap.size v' (L ++ [x]) ∧ Below W.heap.size W W' := by
  obtain ⟨i, hi, hf⟩ := Option.map_eq_some_iff.1 info28
  simp only [Prod.mk.injEq] at hf
  obtain ⟨hz, hs, hbyt⟩ := hf
  obtain ⟨z, hz, hzs⟩ := Option.map_eq_some_iff.1 hz
  have hca : ∀ j u, (fc x)[j]? = some u → W.cell? ((⟨B, 0, none⟩ : Addr).add j) = some u := fun j u hj => by rw [add_plain, Nat.zero_add]; exact hc j u hj
  rcases h with ⟨e, rfl⟩ | ⟨a, c, e, hl, hm, hcs⟩
  · cases e
    obtain ⟨g, c', W', h1, h2, h3, _⟩ := run_append_lies (P := Try.prog) (w := W) 22 22 W.heap.size 28 i z 8 64 Try.underlying22 hi hz hs hbyt hzs (by omega) (.slice none 0 0) 0 [] (World.ownsRow_nil W _ 28 8) ⟨B, 0, none⟩ 1 1 (fc x) rfl hca (fc_one x) (by omega) (by unfold maxLen; omega) (by omega) (Nat.le_refl _) _ rfl
    exact ⟨_, W', h1, by simpa [GO] using h2, (Below.refl _ W).grown h3 (Nat.le_refl _) (fun j hj => by simp [Value.ownBlock] at hj)⟩
  · cases e
    have hm' := hm
    obtain ⟨v', W', h1, h2, h3⟩ := run_append_arg_grows (P := Try.prog) W 22 22 28 i z 8 64 Try.underlying22 hi hz hs hbyt hzs (by omega) a L.length L.length (L.flatMap fc) (flat_length fc 8 fc_len L) (fun j u hj => hcs.1 j u hj) ⟨B, 0, none⟩ 1 1 (fc x) rfl hca (by omega) (by unfold maxLen; omega) (by omega)
    refine ⟨v', W', h1, ?_, (Below.refl _ W).grown h3 (Nat.le_refl _) (fun j hj => by cases hj)⟩
    show GO 28 8 fc W' W.heap.size v' (L ++ [x])
    unfold GO
    rw [List.length_append, List.length_singleton, List.flatMap_append, List.flatMap_singleton]
    exact h2
/-- the last fact does not come before -/
def lastB (L : List FA) (f : FA) : Bool := match L.getLast? with | none => false | some g => decide (0 ≤ ord g f)
/-- what adding answers -/
def adr (L : List FA) (f : FA) : Int := if ckl L = 0 then (if vld f = true then (if lastB L f = true then 71 else 0) else 70) else ckl L
def adl (L : List FA) (f : FA) : List FA := if adr L f = 0 then L ++ [f] else []
theorem ckl_ne (L : List FA) : ckl L = 0 ∨ ckl L = 70 ∨ ckl L = 71 := by
  unfold ckl
  split
  · split <;> simp
  · simp
set_option maxRecDepth 100000 in
set_option maxHeartbeats 4000000 in
theorem add_any (v : Value) (L : List FA) (f : FA) (w : World) (hv : FS w v L) (hL : L.length ≤ 1000000) :
    Calls Try.prog 13 #[v, FV f] w fun e w' => (∃ u, e = .returned (.tuple #[u, .int .i64 (adr L f)]) ∧ FS w' u (adl L f)) ∧ Below w.heap.size w w' := by
  obtain ⟨Z, hZ⟩ : ∃ Z, Z = w.alloc (.cells #[.int .i64 f.kind, .int .i64 f.subj, .int .i64 f.obj, .int .i64 f.val, .int .i64 f.frm, .int .i64 f.to, .int .i64 f.known, .int .i64 f.no] 28) := ⟨_, rfl⟩
  have hzb : Below w.heap.size w Z := by rw [hZ]; exact (Below.refl _ w).alloc (Nat.le_refl _) _
  have hzk : Blk Z w.heap.size 28 (fc f) := by rw [hZ]; exact Blk.new w 28 (fc f)
  obtain ⟨p, cap, hvf⟩ := hv.form
  subst hvf
  have hfz := hv.ups hzb
  have hgr : FR p Z.heap.size L Z := hfz.gr 8 fc_len (by omega)
  have hcm := hv.cap
  have CK := hid (fun (W : World) (hW : Below Z.heap.size Z W) => check_any _ L W (hfz.ups hW))
  have HFS := hid (fun (W : World) (hW : Below Z.heap.size Z W) => hfz.ups hW)
  have HKB := hid (fun (W : World) (hW : Below Z.heap.size Z W) => hzk.below hW hzk.lt)
  have HZB := hid hzb
  have HGR := hid (fun (W : World) (hW : Below Z.heap.size Z W) => hgr.up hW)
  have VA := hid (fun W => valid_any f W)
  obtain ⟨n, hn⟩ : ∃ n, n = L.length := ⟨_, rfl⟩
  rw [← hn] at HFS CK hcm ⊢
  have HCM := hid (show n ≤ cap ∧ cap ≤ maxLen from hcm.2)
  have HLN := hid hL; have HN := hid hn
  have hk := hid (ckl_ne L)
  obtain ⟨Bk, hBk⟩ : ∃ Bk, Bk = w.heap.size := ⟨_, rfl⟩
  rw [← hBk] at HKB
  have hT := HZB.out
  have HT := hid (Below.refl Z.heap.size Z)
  have hn6 : n ≤ 1000000 := by omega
  clear hv hzb hzk hfz hgr hcm hL hn hT
  have HADR := hid (show adr L f = if ckl L = 0 then (if vld f = true then (if lastB L f = true then 71 else 0) else 70) else ckl L from rfl)
  have HADL := hid (show adl L f = if adr L f = 0 then L ++ [f] else [] from rfl)
  generalize adr L f = r at *
  generalize adl L f = l2 at *
  go_enter Try.func13, Try.ntmps13
  go_upto_region 1 with fail
  rw [← hZ, ← hBk]
  clear hZ hBk
  go_wp2_with fail
  refine (CK.out Z (Below.refl _ Z)).mono ?_
  rintro e w1 ⟨rfl, hb1⟩
  have HT := hid hb1
  clear hb1 CK
  obtain ⟨c, hc⟩ : ∃ c, c = ckl L := ⟨_, rfl⟩
  rw [← hc] at HADR hk ⊢
  clear hc
  by_cases hc0 : c = 0
  · subst hc0
    rw [if_pos rfl] at HADR
    obtain ⟨b, hb⟩ : ∃ b, b = vld f := ⟨_, rfl⟩
    rw [← hb] at HADR VA
    have h1' := HKB.out _ HT.out
    have a0 := h1'.cell 0 _ rfl; have a1 := h1'.cell 1 _ rfl; have a2 := h1'.cell 2 _ rfl; have a3 := h1'.cell 3 _ rfl; have a4 := h1'.cell 4 _ rfl; have a5 := h1'.cell 5 _ rfl; have a6 := h1'.cell 6 _ rfl; have a7 := h1'.cell 7 _ rfl
    clear h1' hb hk
    cases b with
    | false =>
      rw [if_neg (by simp)] at HADR
      go_wp2_with fail
      refine (VA.out _).mono ?_
      rintro e w2 ⟨rfl, hb2⟩
      have HB := hid (below_t HZB.out (below_t HT.out hb2))
      clear hb2 a0 a1 a2 a3 a4 a5 a6 a7
      go_wp2_with fail
      go_ret2
      exact ⟨⟨.slice none 0 0, by rw [HADR.out]; rfl, by rw [HADL.out, HADR.out]; exact .inl ⟨rfl, rfl⟩⟩, HB.out⟩
    | true =>
      rw [if_pos rfl] at HADR
      go_wp2_with fail
      refine (VA.out _).mono ?_
      rintro e w2 ⟨rfl, hb2⟩
      have HT := hid (below_t HT.out hb2)
      clear hb2 a0 a1 a2 a3 a4 a5 a6 a7
      obtain ⟨z, hz⟩ : ∃ z, z = lastB L f := ⟨_, rfl⟩
      rw [← hz] at HADR
      by_cases hn0 : n = 0
      · subst hn0
        have hz' : z = false := by
          rw [hz, show L = [] from List.eq_nil_of_length_eq_zero HN.out.symm]; rfl
        subst hz'
        rw [if_neg (by simp)] at HADR
        clear hz
        go_upto_region 6 with fail
        go_quiet (fail)
        obtain ⟨WQ, hWQ⟩ : ∃ x, x = w2.drewN nq := ⟨_, rfl⟩
        have HT := hid (show Below Z.heap.size Z WQ from by rw [hWQ]; exact below_t HT.out (below_drewN nq))
        rw [← hWQ]
        clear hWQ
        go_upto_region 8 with fail
        have HT := hid (show Below Z.heap.size Z WQ.drew from HT.out.drew)
        refine wa_start (S := fun W => Below Z.heap.size Z W) (by kernel_rfl) HT.out ?_
        obtain ⟨WD, hWD⟩ : ∃ x, x = WQ.drew := ⟨_, rfl⟩
        rw [← hWD] at HT ⊢
        clear hWD
        refine wa_tk 0 (some 29) (.slice p 0 cap) rfl (by kernel_rfl) rfl rfl HT.out (fun w h0 => by go_simp) ?_
        try simp only [Act.put, List.setIfInBounds_toArray, List.set_cons_zero, List.set_cons_succ]
        refine wa_tk 2 (some 31) (FV f) rfl (by kernel_rfl) rfl rfl HT.out (fun w h0 => by have h1' := HKB.out _ h0; have a0 := h1'.cell 0 _ rfl; have a1 := h1'.cell 1 _ rfl; have a2 := h1'.cell 2 _ rfl; have a3 := h1'.cell 3 _ rfl; have a4 := h1'.cell 4 _ rfl; have a5 := h1'.cell 5 _ rfl; have a6 := h1'.cell 6 _ rfl; have a7 := h1'.cell 7 _ rfl; go_simp) ?_
        try simp only [Act.put, List.setIfInBounds_toArray, List.set_cons_zero, List.set_cons_succ]
        refine wa_branch [1, 3] (by decide +kernel) rfl ?_
        refine ar_op 1 rfl rfl (fun K hK => ?_) (ar_op 3 rfl rfl (fun K hK => ?_) ar_nil)
        · unfold Oper.wp
          go_simp
          go_at_call 34
          refine (clip_any p 0 cap WD HCM.out).mono ?_
          rintro e WA1 ⟨rfl, hq⟩
          have HT := hid (show Below Z.heap.size Z WA1 from by obtain ⟨q, rfl⟩ := hq; exact HT.out.trans ((below_drewN q).mono HT.out.size))
          clear hq
          go_simp
          refine hK.out _ _ HT.out ?_
          clear hK K
          try simp only [Act.put, List.setIfInBounds_toArray, List.set_cons_zero, List.set_cons_succ]
          refine wa_branch [3] (by decide +kernel) rfl ?_
          refine ar_op 3 rfl rfl (fun K hK => ?_) ar_nil
          unfold Oper.wp
          go_simp
          obtain ⟨WA2, hWA2⟩ : ∃ x, x = WA1.alloc (.cells #[.int .i64 f.kind, .int .i64 f.subj, .int .i64 f.obj, .int .i64 f.val, .int .i64 f.frm, .int .i64 f.to, .int .i64 f.known, .int .i64 f.no] 28) := ⟨_, rfl⟩
          have HL := hid (show ∀ j u, (fc f)[j]? = some u → WA2.cell? ⟨WA1.heap.size, j, none⟩ = some u from fun j u hj => by rw [hWA2]; exact (Blk.new WA1 28 (fc f)).cell j u hj)
          have HT := hid (show Below Z.heap.size Z WA2 from by rw [hWA2]; exact HT.out.alloc HT.out.size _)
          rw [← hWA2]
          clear hWA2
          refine hK.out _ _ HT.out ?_
          clear hK K
          try simp only [Act.put, List.setIfInBounds_toArray, List.set_cons_zero, List.set_cons_succ]
          refine wa_branch [4] (by decide +kernel) rfl ?_
          refine ar_op 4 rfl rfl (fun K hK => ?_) ar_nil
          obtain ⟨v2, W2, happ, hfo, hb2⟩ := app_clip (HFS.out WA2 HT.out) f HL.out HLN.out
          have HT := hid (HT.out.trans (hb2.mono HT.out.size))
          have HFO := hid hfo.gs
          clear hfo hb2
          refine st_append (some 33) rfl (.tmp 30) (.tmp 32) 22 22 rfl rfl _ _ _ _ rfl rfl happ ?_
          clear happ
          refine hK.out _ _ HT.out ?_
          clear hK K
          try simp only [Act.put, List.setIfInBounds_toArray, List.set_cons_zero, List.set_cons_succ]
          refine wa_tk 5 (some 4) (v2) rfl (by kernel_rfl) rfl rfl HT.out (fun w h0 => by go_simp) ?_
          try simp only [Act.put, List.setIfInBounds_toArray, List.set_cons_zero, List.set_cons_succ]
          refine wa_tk 6 (some 5) (.int .i64 0) rfl (by kernel_rfl) rfl rfl HT.out (fun w h0 => by go_simp) ?_
          try simp only [Act.put, List.setIfInBounds_toArray, List.set_cons_zero, List.set_cons_succ]
          refine wa_done (by decide +kernel) ?_
          go_wp2_with fail
          go_ret2
          exact ⟨⟨v2, by rw [HADR.out]; rfl, by rw [HADL.out, HADR.out, if_pos rfl]; exact HFO.out⟩, below_t HZB.out HT.out⟩
        · unfold Oper.wp
          go_simp
          obtain ⟨WB1, hWB1⟩ : ∃ x, x = WD.alloc (.cells #[.int .i64 f.kind, .int .i64 f.subj, .int .i64 f.obj, .int .i64 f.val, .int .i64 f.frm, .int .i64 f.to, .int .i64 f.known, .int .i64 f.no] 28) := ⟨_, rfl⟩
          have HL := hid (show ∀ j u, (fc f)[j]? = some u → WB1.cell? ⟨WD.heap.size, j, none⟩ = some u from fun j u hj => by rw [hWB1]; exact (Blk.new WD 28 (fc f)).cell j u hj)
          have HT := hid (show Below Z.heap.size Z WB1 from by rw [hWB1]; exact HT.out.alloc HT.out.size _)
          rw [← hWB1]
          clear hWB1
          refine hK.out _ _ HT.out ?_
          clear hK K
          try simp only [Act.put, List.setIfInBounds_toArray, List.set_cons_zero, List.set_cons_succ]
          refine wa_branch [1] (by decide +kernel) rfl ?_
          refine ar_op 1 rfl rfl (fun K hK => ?_) ar_nil
          unfold Oper.wp
          go_simp
          go_at_call 34
          refine (clip_any p 0 cap WB1 HCM.out).mono ?_
          rintro e WB2 ⟨rfl, hq⟩
          have HT := hid (show Below Z.heap.size Z WB2 from by obtain ⟨q, rfl⟩ := hq; exact HT.out.trans ((below_drewN q).mono HT.out.size))
          have HL := hid (show ∀ j u, (fc f)[j]? = some u → WB2.cell? ⟨WD.heap.size, j, none⟩ = some u from fun j u hj => by obtain ⟨q, rfl⟩ := hq; exact HL.out j u hj)
          clear hq
          go_simp
          refine hK.out _ _ HT.out ?_
          clear hK K
          try simp only [Act.put, List.setIfInBounds_toArray, List.set_cons_zero, List.set_cons_succ]
          refine wa_branch [4] (by decide +kernel) rfl ?_
          refine ar_op 4 rfl rfl (fun K hK => ?_) ar_nil
          obtain ⟨v2, W2, happ, hfo, hb2⟩ := app_clip (HFS.out WB2 HT.out) f HL.out HLN.out
          have HT := hid (HT.out.trans (hb2.mono HT.out.size))
          have HFO := hid hfo.gs
          clear hfo hb2
          refine st_append (some 33) rfl (.tmp 30) (.tmp 32) 22 22 rfl rfl _ _ _ _ rfl rfl happ ?_
          clear happ
          refine hK.out _ _ HT.out ?_
          clear hK K
          try simp only [Act.put, List.setIfInBounds_toArray, List.set_cons_zero, List.set_cons_succ]
          refine wa_tk 5 (some 4) (v2) rfl (by kernel_rfl) rfl rfl HT.out (fun w h0 => by go_simp) ?_
          try simp only [Act.put, List.setIfInBounds_toArray, List.set_cons_zero, List.set_cons_succ]
          refine wa_tk 6 (some 5) (.int .i64 0) rfl (by kernel_rfl) rfl rfl HT.out (fun w h0 => by go_simp) ?_
          try simp only [Act.put, List.setIfInBounds_toArray, List.set_cons_zero, List.set_cons_succ]
          refine wa_done (by decide +kernel) ?_
          go_wp2_with fail
          go_ret2
          exact ⟨⟨v2, by rw [HADR.out]; rfl, by rw [HADL.out, HADR.out, if_pos rfl]; exact HFO.out⟩, below_t HZB.out HT.out⟩
      · obtain ⟨m, rfl⟩ : ∃ m, n = m + 1 := ⟨n - 1, by omega⟩
        obtain ⟨g, hg⟩ := get_lt (l := L) (i := m) (by rw [← HN.out]; omega)
        obtain ⟨b, o, rfl, hbb, x0, x1, x2, x3, x4, x5, x6, x7⟩ := (HGR.out _ HT.out).at8 hg
        have h1' := HKB.out _ HT.out
        have a0 := h1'.cell 0 _ rfl; have a1 := h1'.cell 1 _ rfl; have a2 := h1'.cell 2 _ rfl; have a3 := h1'.cell 3 _ rfl; have a4 := h1'.cell 4 _ rfl; have a5 := h1'.cell 5 _ rfl; have a6 := h1'.cell 6 _ rfl; have a7 := h1'.cell 7 _ rfl
        have hz2 : z = decide (0 ≤ ord g f) := by
          rw [hz]; unfold lastB
          rw [List.getLast?_eq_getElem?, ← HN.out, Nat.add_sub_cancel, hg]
        have OA := hid (fun W => order_any g f W)
        obtain ⟨y, hy⟩ : ∃ y, y = ord g f := ⟨_, rfl⟩
        rw [← hy] at OA hz2
        have hwm : IntKind.i64.wrap (m : Int) = (m : Int) := IntWalk.i64_in _ (by omega)
        clear hz hy hg
        have HZ2 := hid hz2
        have HBB := hid (show b < w2.drew.heap.size from Nat.lt_of_lt_of_le hbb HT.out.size)
        clear hbb
        by_cases hy0 : 0 ≤ y
        · have HZ3 := hid (show z = true by rw [HZ2.out]; exact decide_eq_true hy0)
          clear hz2 HFS HKB HGR VA
          have HY0 := hid hy0
          have HT6 := hid (show At8 w2.drew b (o + m * 8) g ∧ Blk w2.drew Bk 28 (fc f) from ⟨⟨x0, x1, x2, x3, x4, x5, x6, x7⟩, h1'⟩)
          have HWM := hid hwm; have HML := hid (show ¬ ((m : Int) + 1 ≤ (m : Int)) by omega)
          clear hwm x0 x1 x2 x3 x4 x5 x6 x7 a0 a1 a2 a3 a4 a5 a6 a7 hy0 h1'
          have e : z = true := HZ3.out
          subst e
          rw [if_pos rfl] at HADR
          go_upto_region 6 with fail
          refine wa_start (S := fun W => At8 W b (o + m * 8) g ∧ Blk W Bk 28 (fc f)) (by kernel_rfl) HT6.out ?_
          refine wa_tk 0 (some 15) (.slice (some ⟨b, o, none⟩) (m + 1) cap) rfl (by kernel_rfl) rfl rfl HT6.out (fun w h0 => by go_simp) ?_
          try simp only [Act.put, List.setIfInBounds_toArray, List.set_cons_zero, List.set_cons_succ]
          refine wa_tk 1 (some 16) (.int .i64 ((m + 1 : Nat) : Int)) rfl (by kernel_rfl) rfl rfl HT6.out (fun w h0 => by go_simp) ?_
          try simp only [Act.put, List.setIfInBounds_toArray, List.set_cons_zero, List.set_cons_succ]
          refine wa_tk 2 (some 17) (.bool true) rfl (by kernel_rfl) rfl rfl HT6.out (fun w h0 => by go_simp) ?_
          try simp only [Act.put, List.setIfInBounds_toArray, List.set_cons_zero, List.set_cons_succ]
          refine wa_tk 3 (some 18) (.bool true) rfl (by kernel_rfl) rfl rfl HT6.out (fun w h0 => by go_simp) ?_
          try simp only [Act.put, List.setIfInBounds_toArray, List.set_cons_zero, List.set_cons_succ]
          refine wa_tkg 4 (some 19) (.slice (some ⟨b, o, none⟩) (m + 1) cap) rfl (by kernel_rfl) rfl rfl HT6.out (fun w h0 => by go_simp) ?_
          try simp only [Act.put, List.setIfInBounds_toArray, List.set_cons_zero, List.set_cons_succ]
          refine wa_tkg 5 (some 20) (.slice (some ⟨b, o, none⟩) (m + 1) cap) rfl (by kernel_rfl) rfl rfl HT6.out (fun w h0 => by go_simp) ?_
          try simp only [Act.put, List.setIfInBounds_toArray, List.set_cons_zero, List.set_cons_succ]
          refine wa_tkg 6 (some 21) (.int .i64 ((m + 1 : Nat) : Int)) rfl (by kernel_rfl) rfl rfl HT6.out (fun w h0 => by go_simp) ?_
          try simp only [Act.put, List.setIfInBounds_toArray, List.set_cons_zero, List.set_cons_succ]
          refine wa_tkg 7 (some 22) (.int .i64 (m : Int)) rfl (by kernel_rfl) rfl rfl HT6.out (fun w h0 => by have hwm := HWM.out; go_simp) ?_
          try simp only [Act.put, List.setIfInBounds_toArray, List.set_cons_zero, List.set_cons_succ]
          refine wa_tkg 8 (some 23) (.pointer (some ⟨b, o + m * 8, none⟩)) rfl (by kernel_rfl) rfl rfl HT6.out (fun w h0 => by have hmlt := HML.out; go_simp) ?_
          try simp only [Act.put, List.setIfInBounds_toArray, List.set_cons_zero, List.set_cons_succ]
          refine wa_tkg 9 (some 24) (FV g) rfl (by kernel_rfl) rfl rfl HT6.out (fun w h0 => by obtain ⟨⟨x0, x1, x2, x3, x4, x5, x6, x7⟩, hk⟩ := h0; go_simp) ?_
          try simp only [Act.put, List.setIfInBounds_toArray, List.set_cons_zero, List.set_cons_succ]
          refine wa_tkg 10 (some 25) (FV f) rfl (by kernel_rfl) rfl rfl HT6.out (fun w h0 => by obtain ⟨hx, h1p⟩ := h0; have a0 := h1p.cell 0 _ rfl; have a1 := h1p.cell 1 _ rfl; have a2 := h1p.cell 2 _ rfl; have a3 := h1p.cell 3 _ rfl; have a4 := h1p.cell 4 _ rfl; have a5 := h1p.cell 5 _ rfl; have a6 := h1p.cell 6 _ rfl; have a7 := h1p.cell 7 _ rfl; go_simp) ?_
          try simp only [Act.put, List.setIfInBounds_toArray, List.set_cons_zero, List.set_cons_succ]
          refine wa_branch [11] (by decide +kernel) rfl ?_
          refine ar_opg 11 rfl rfl (fun K hK => ?_) ar_nil
          unfold Oper.wp
          go_simp
          go_at_call 33
          refine (OA.out _).mono ?_
          rintro e w3 ⟨rfl, q, os, hw3⟩
          have hb3 := below_os (B := w2.drew.heap.size) hw3 (Nat.le_refl _)
          have HT := hid (below_t HT.out (below_t (show Below w2.heap.size w2 w2.drew from (Below.refl _ w2).drew) hb3))
          have HT6 := hid (show At8 w3 b (o + m * 8) g ∧ Blk w3 Bk 28 (fc f) from ⟨HT6.out.1.up hb3 HBB.out, HT6.out.2.below hb3 HT6.out.2.lt⟩)
          clear hb3 hw3
          go_simp
          refine hK.out _ _ HT6.out ?_
          clear hK K
          try simp only [Act.put, List.setIfInBounds_toArray, List.set_cons_zero, List.set_cons_succ]
          refine wa_tkg 12 (some 27) (.bool true) rfl (by kernel_rfl) rfl rfl HT6.out (fun w h0 => by have hy0 := HY0.out; go_simp) ?_
          try simp only [Act.put, List.setIfInBounds_toArray, List.set_cons_zero, List.set_cons_succ]
          refine wa_tk 13 (some 28) (.bool true) rfl (by kernel_rfl) rfl rfl HT6.out (fun w h0 => by go_simp) ?_
          try simp only [Act.put, List.setIfInBounds_toArray, List.set_cons_zero, List.set_cons_succ]
          refine wa_done (by decide +kernel) ?_
          clear HT6 HWM HML HBB HZ2 OA
          have HB := hid (below_t HZB.out HT.out)
          go_wp2_with fail
          go_ret2
          exact ⟨⟨.slice none 0 0, by rw [HADR.out]; rfl, by rw [HADL.out, HADR.out]; exact .inl ⟨rfl, rfl⟩⟩, HB.out⟩
        · have HZ3 := hid (show z = false by rw [HZ2.out]; exact decide_eq_false hy0)
          clear hz2
          have HY0 := hid hy0
          have HT6 := hid (show At8 w2.drew b (o + m * 8) g ∧ Blk w2.drew Bk 28 (fc f) from ⟨⟨x0, x1, x2, x3, x4, x5, x6, x7⟩, h1'⟩)
          have HWM := hid hwm; have HML := hid (show ¬ ((m : Int) + 1 ≤ (m : Int)) by omega)
          clear hwm x0 x1 x2 x3 x4 x5 x6 x7 a0 a1 a2 a3 a4 a5 a6 a7 hy0 h1'
          have e : z = false := HZ3.out
          subst e
          rw [if_neg (by simp)] at HADR
          go_upto_region 6 with fail
          refine wa_start (S := fun W => At8 W b (o + m * 8) g ∧ Blk W Bk 28 (fc f)) (by kernel_rfl) HT6.out ?_
          refine wa_tk 0 (some 15) (.slice (some ⟨b, o, none⟩) (m + 1) cap) rfl (by kernel_rfl) rfl rfl HT6.out (fun w h0 => by go_simp) ?_
          try simp only [Act.put, List.setIfInBounds_toArray, List.set_cons_zero, List.set_cons_succ]
          refine wa_tk 1 (some 16) (.int .i64 ((m + 1 : Nat) : Int)) rfl (by kernel_rfl) rfl rfl HT6.out (fun w h0 => by go_simp) ?_
          try simp only [Act.put, List.setIfInBounds_toArray, List.set_cons_zero, List.set_cons_succ]
          refine wa_tk 2 (some 17) (.bool true) rfl (by kernel_rfl) rfl rfl HT6.out (fun w h0 => by go_simp) ?_
          try simp only [Act.put, List.setIfInBounds_toArray, List.set_cons_zero, List.set_cons_succ]
          refine wa_tk 3 (some 18) (.bool true) rfl (by kernel_rfl) rfl rfl HT6.out (fun w h0 => by go_simp) ?_
          try simp only [Act.put, List.setIfInBounds_toArray, List.set_cons_zero, List.set_cons_succ]
          refine wa_tkg 4 (some 19) (.slice (some ⟨b, o, none⟩) (m + 1) cap) rfl (by kernel_rfl) rfl rfl HT6.out (fun w h0 => by go_simp) ?_
          try simp only [Act.put, List.setIfInBounds_toArray, List.set_cons_zero, List.set_cons_succ]
          refine wa_tkg 5 (some 20) (.slice (some ⟨b, o, none⟩) (m + 1) cap) rfl (by kernel_rfl) rfl rfl HT6.out (fun w h0 => by go_simp) ?_
          try simp only [Act.put, List.setIfInBounds_toArray, List.set_cons_zero, List.set_cons_succ]
          refine wa_tkg 6 (some 21) (.int .i64 ((m + 1 : Nat) : Int)) rfl (by kernel_rfl) rfl rfl HT6.out (fun w h0 => by go_simp) ?_
          try simp only [Act.put, List.setIfInBounds_toArray, List.set_cons_zero, List.set_cons_succ]
          refine wa_tkg 7 (some 22) (.int .i64 (m : Int)) rfl (by kernel_rfl) rfl rfl HT6.out (fun w h0 => by have hwm := HWM.out; go_simp) ?_
          try simp only [Act.put, List.setIfInBounds_toArray, List.set_cons_zero, List.set_cons_succ]
          refine wa_tkg 8 (some 23) (.pointer (some ⟨b, o + m * 8, none⟩)) rfl (by kernel_rfl) rfl rfl HT6.out (fun w h0 => by have hmlt := HML.out; go_simp) ?_
          try simp only [Act.put, List.setIfInBounds_toArray, List.set_cons_zero, List.set_cons_succ]
          refine wa_tkg 9 (some 24) (FV g) rfl (by kernel_rfl) rfl rfl HT6.out (fun w h0 => by obtain ⟨⟨x0, x1, x2, x3, x4, x5, x6, x7⟩, hk⟩ := h0; go_simp) ?_
          try simp only [Act.put, List.setIfInBounds_toArray, List.set_cons_zero, List.set_cons_succ]
          refine wa_tkg 10 (some 25) (FV f) rfl (by kernel_rfl) rfl rfl HT6.out (fun w h0 => by obtain ⟨hx, h1p⟩ := h0; have a0 := h1p.cell 0 _ rfl; have a1 := h1p.cell 1 _ rfl; have a2 := h1p.cell 2 _ rfl; have a3 := h1p.cell 3 _ rfl; have a4 := h1p.cell 4 _ rfl; have a5 := h1p.cell 5 _ rfl; have a6 := h1p.cell 6 _ rfl; have a7 := h1p.cell 7 _ rfl; go_simp) ?_
          try simp only [Act.put, List.setIfInBounds_toArray, List.set_cons_zero, List.set_cons_succ]
          refine wa_branch [11] (by decide +kernel) rfl ?_
          refine ar_opg 11 rfl rfl (fun K hK => ?_) ar_nil
          unfold Oper.wp
          go_simp
          go_at_call 33
          refine (OA.out _).mono ?_
          rintro e w3 ⟨rfl, q, os, hw3⟩
          have hb3 := below_os (B := w2.drew.heap.size) hw3 (Nat.le_refl _)
          have HT := hid (below_t HT.out (below_t (show Below w2.heap.size w2 w2.drew from (Below.refl _ w2).drew) hb3))
          have HT6 := hid (show At8 w3 b (o + m * 8) g ∧ Blk w3 Bk 28 (fc f) from ⟨HT6.out.1.up hb3 HBB.out, HT6.out.2.below hb3 HT6.out.2.lt⟩)
          clear hb3 hw3
          go_simp
          refine hK.out _ _ HT6.out ?_
          clear hK K
          try simp only [Act.put, List.setIfInBounds_toArray, List.set_cons_zero, List.set_cons_succ]
          refine wa_tkg 12 (some 27) (.bool false) rfl (by kernel_rfl) rfl rfl HT6.out (fun w h0 => by have hy0 := HY0.out; go_simp) ?_
          try simp only [Act.put, List.setIfInBounds_toArray, List.set_cons_zero, List.set_cons_succ]
          refine wa_tk 13 (some 28) (.bool false) rfl (by kernel_rfl) rfl rfl HT6.out (fun w h0 => by go_simp) ?_
          try simp only [Act.put, List.setIfInBounds_toArray, List.set_cons_zero, List.set_cons_succ]
          refine wa_done (by decide +kernel) ?_
          clear HT6 HWM HML HBB HZ2 OA
          obtain ⟨WQ, hWQ⟩ : ∃ x, x = w3 := ⟨_, rfl⟩
          rw [← hWQ] at HT ⊢
          clear hWQ
          go_upto_region 8 with fail
          have HT := hid (show Below Z.heap.size Z WQ.drew from HT.out.drew)
          refine wa_start (S := fun W => Below Z.heap.size Z W) (by kernel_rfl) HT.out ?_
          obtain ⟨WD, hWD⟩ : ∃ x, x = WQ.drew := ⟨_, rfl⟩
          rw [← hWD] at HT ⊢
          clear hWD
          refine wa_tk 0 (some 29) (.slice (some ⟨b, o, none⟩) (m + 1) cap) rfl (by kernel_rfl) rfl rfl HT.out (fun w h0 => by go_simp) ?_
          try simp only [Act.put, List.setIfInBounds_toArray, List.set_cons_zero, List.set_cons_succ]
          refine wa_tk 2 (some 31) (FV f) rfl (by kernel_rfl) rfl rfl HT.out (fun w h0 => by have h1' := HKB.out _ h0; have a0 := h1'.cell 0 _ rfl; have a1 := h1'.cell 1 _ rfl; have a2 := h1'.cell 2 _ rfl; have a3 := h1'.cell 3 _ rfl; have a4 := h1'.cell 4 _ rfl; have a5 := h1'.cell 5 _ rfl; have a6 := h1'.cell 6 _ rfl; have a7 := h1'.cell 7 _ rfl; go_simp) ?_
          try simp only [Act.put, List.setIfInBounds_toArray, List.set_cons_zero, List.set_cons_succ]
          refine wa_branch [1, 3] (by decide +kernel) rfl ?_
          refine ar_op 1 rfl rfl (fun K hK => ?_) (ar_op 3 rfl rfl (fun K hK => ?_) ar_nil)
          · unfold Oper.wp
            go_simp
            go_at_call 34
            refine (clip_any (some ⟨b, o, none⟩) (m + 1) cap WD HCM.out).mono ?_
            rintro e WA1 ⟨rfl, hq⟩
            have HT := hid (show Below Z.heap.size Z WA1 from by obtain ⟨q, rfl⟩ := hq; exact HT.out.trans ((below_drewN q).mono HT.out.size))
            clear hq
            go_simp
            refine hK.out _ _ HT.out ?_
            clear hK K
            try simp only [Act.put, List.setIfInBounds_toArray, List.set_cons_zero, List.set_cons_succ]
            refine wa_branch [3] (by decide +kernel) rfl ?_
            refine ar_op 3 rfl rfl (fun K hK => ?_) ar_nil
            unfold Oper.wp
            go_simp
            obtain ⟨WA2, hWA2⟩ : ∃ x, x = WA1.alloc (.cells #[.int .i64 f.kind, .int .i64 f.subj, .int .i64 f.obj, .int .i64 f.val, .int .i64 f.frm, .int .i64 f.to, .int .i64 f.known, .int .i64 f.no] 28) := ⟨_, rfl⟩
            have HL := hid (show ∀ j u, (fc f)[j]? = some u → WA2.cell? ⟨WA1.heap.size, j, none⟩ = some u from fun j u hj => by rw [hWA2]; exact (Blk.new WA1 28 (fc f)).cell j u hj)
            have HT := hid (show Below Z.heap.size Z WA2 from by rw [hWA2]; exact HT.out.alloc HT.out.size _)
            rw [← hWA2]
            clear hWA2
            refine hK.out _ _ HT.out ?_
            clear hK K
            try simp only [Act.put, List.setIfInBounds_toArray, List.set_cons_zero, List.set_cons_succ]
            refine wa_branch [4] (by decide +kernel) rfl ?_
            refine ar_op 4 rfl rfl (fun K hK => ?_) ar_nil
            obtain ⟨v2, W2, happ, hfo, hb2⟩ := app_clip (HFS.out WA2 HT.out) f HL.out HLN.out
            have HT := hid (HT.out.trans (hb2.mono HT.out.size))
            have HFO := hid hfo.gs
            clear hfo hb2
            refine st_append (some 33) rfl (.tmp 30) (.tmp 32) 22 22 rfl rfl _ _ _ _ rfl rfl happ ?_
            clear happ
            refine hK.out _ _ HT.out ?_
            clear hK K
            try simp only [Act.put, List.setIfInBounds_toArray, List.set_cons_zero, List.set_cons_succ]
            refine wa_tk 5 (some 4) (v2) rfl (by kernel_rfl) rfl rfl HT.out (fun w h0 => by go_simp) ?_
            try simp only [Act.put, List.setIfInBounds_toArray, List.set_cons_zero, List.set_cons_succ]
            refine wa_tk 6 (some 5) (.int .i64 0) rfl (by kernel_rfl) rfl rfl HT.out (fun w h0 => by go_simp) ?_
            try simp only [Act.put, List.setIfInBounds_toArray, List.set_cons_zero, List.set_cons_succ]
            refine wa_done (by decide +kernel) ?_
            go_wp2_with fail
            go_ret2
            exact ⟨⟨v2, by rw [HADR.out]; rfl, by rw [HADL.out, HADR.out, if_pos rfl]; exact HFO.out⟩, below_t HZB.out HT.out⟩
          · unfold Oper.wp
            go_simp
            obtain ⟨WB1, hWB1⟩ : ∃ x, x = WD.alloc (.cells #[.int .i64 f.kind, .int .i64 f.subj, .int .i64 f.obj, .int .i64 f.val, .int .i64 f.frm, .int .i64 f.to, .int .i64 f.known, .int .i64 f.no] 28) := ⟨_, rfl⟩
            have HL := hid (show ∀ j u, (fc f)[j]? = some u → WB1.cell? ⟨WD.heap.size, j, none⟩ = some u from fun j u hj => by rw [hWB1]; exact (Blk.new WD 28 (fc f)).cell j u hj)
            have HT := hid (show Below Z.heap.size Z WB1 from by rw [hWB1]; exact HT.out.alloc HT.out.size _)
            rw [← hWB1]
            clear hWB1
            refine hK.out _ _ HT.out ?_
            clear hK K
            try simp only [Act.put, List.setIfInBounds_toArray, List.set_cons_zero, List.set_cons_succ]
            refine wa_branch [1] (by decide +kernel) rfl ?_
            refine ar_op 1 rfl rfl (fun K hK => ?_) ar_nil
            unfold Oper.wp
            go_simp
            go_at_call 34
            refine (clip_any (some ⟨b, o, none⟩) (m + 1) cap WB1 HCM.out).mono ?_
            rintro e WB2 ⟨rfl, hq⟩
            have HT := hid (show Below Z.heap.size Z WB2 from by obtain ⟨q, rfl⟩ := hq; exact HT.out.trans ((below_drewN q).mono HT.out.size))
            have HL := hid (show ∀ j u, (fc f)[j]? = some u → WB2.cell? ⟨WD.heap.size, j, none⟩ = some u from fun j u hj => by obtain ⟨q, rfl⟩ := hq; exact HL.out j u hj)
            clear hq
            go_simp
            refine hK.out _ _ HT.out ?_
            clear hK K
            try simp only [Act.put, List.setIfInBounds_toArray, List.set_cons_zero, List.set_cons_succ]
            refine wa_branch [4] (by decide +kernel) rfl ?_
            refine ar_op 4 rfl rfl (fun K hK => ?_) ar_nil
            obtain ⟨v2, W2, happ, hfo, hb2⟩ := app_clip (HFS.out WB2 HT.out) f HL.out HLN.out
            have HT := hid (HT.out.trans (hb2.mono HT.out.size))
            have HFO := hid hfo.gs
            clear hfo hb2
            refine st_append (some 33) rfl (.tmp 30) (.tmp 32) 22 22 rfl rfl _ _ _ _ rfl rfl happ ?_
            clear happ
            refine hK.out _ _ HT.out ?_
            clear hK K
            try simp only [Act.put, List.setIfInBounds_toArray, List.set_cons_zero, List.set_cons_succ]
            refine wa_tk 5 (some 4) (v2) rfl (by kernel_rfl) rfl rfl HT.out (fun w h0 => by go_simp) ?_
            try simp only [Act.put, List.setIfInBounds_toArray, List.set_cons_zero, List.set_cons_succ]
            refine wa_tk 6 (some 5) (.int .i64 0) rfl (by kernel_rfl) rfl rfl HT.out (fun w h0 => by go_simp) ?_
            try simp only [Act.put, List.setIfInBounds_toArray, List.set_cons_zero, List.set_cons_succ]
            refine wa_done (by decide +kernel) ?_
            go_wp2_with fail
            go_ret2
            exact ⟨⟨v2, by rw [HADR.out]; rfl, by rw [HADL.out, HADR.out, if_pos rfl]; exact HFO.out⟩, below_t HZB.out HT.out⟩
  · rw [if_neg hc0] at HADR
    have HB := hid (below_t HZB.out HT.out)
    go_wp2_with fail
    go_ret2
    exact ⟨⟨.slice none 0 0, by rw [HADR.out]; rfl, by rw [HADL.out, HADR.out, if_neg hc0]; exact .inl ⟨rfl, rfl⟩⟩, HB.out⟩
end Go.Proofs.Ytbejjindkcjecaa

/- Contract: Alike. -/
import Derived.Test.YtbejjindkcjecaaT
namespace Go.Proofs.Ytbejjindkcjecaa
open Go.RowKit Go
set_option linter.unusedVariables false
set_option linter.unusedSimpArgs false
/-- a read: the key and the terms -/
abbrev RD := KE × (Int × Int)
def rc (r : RD) : List Value := [.int .i64 r.1.1, .int .i64 r.1.2.1, .int .i64 r.1.2.2, .int .i64 r.2.1, .int .i64 r.2.2]
theorem rc_len (r : RD) : (rc r).length = 5 := rfl
abbrev RS (w : World) (v : Value) (l : List RD) : Prop := GS rc w v l
def WR (l : List RD) : Prop := ∀ r ∈ l, kwf r.1
theorem GR.at5 {p : Option Addr} {n0 : Nat} {l : List RD} {W : World} (h : GR rc 5 p n0 l W) {i : Nat} {r : RD} (hi : l[i]? = some r) : ∃ b o, p = some ⟨b, o, none⟩ ∧ b < n0 ∧ W.cell? ⟨b, o + i * 5, none⟩ = some (.int .i64 r.1.1) ∧ W.cell? ⟨b, o + i * 5 + 1, none⟩ = some (.int .i64 r.1.2.1) ∧ W.cell? ⟨b, o + i * 5 + 2, none⟩ = some (.int .i64 r.1.2.2) ∧
    W.cell? ⟨b, o + i * 5 + 3, none⟩ = some (.int .i64 r.2.1) ∧ W.cell? ⟨b, o + i * 5 + 4, none⟩ = some (.int .i64 r.2.2) := by
  obtain ⟨b, o, e, hl, h1⟩ := h i r hi
  exact ⟨b, o, e, hl, h1 0 _ rfl, h1 1 _ rfl, h1 2 _ rfl, h1 3 _ rfl, h1 4 _ rfl⟩
/-- the read is alike -/
def alk1 (q q' : Int) (L : List FA) (r : RD) : Bool := decide (F7.points r.1 r.2.1 r.2.2 q L = F7.points r.1 r.2.1 r.2.2 q' L)
def alk (q q' : Int) (L : List FA) (l : List RD) : Bool := l.all (alk1 q q' L)
theorem val_sel {k : KE} {x q q' : Int} {l m : List FA} (h : sel k q l = sel k q' m) : F7.val k x q l = F7.val k x q' m := by rw [val_vv, val_vv, h]
/-- what the map leads to -/
theorem points_touched {q q' : Int} {L : List FA} {r : RD} {lk : List FA} (h : (Tch q q' L r.1 = true ∧ lk = ofKey r.1 L) ∨ (Tch q q' L r.1 = false ∧ lk = [])) :
    decide (F7.points r.1 r.2.1 r.2.2 q lk = F7.points r.1 r.2.1 r.2.2 q' lk) = alk1 q q' L r := by
  unfold alk1
  rcases h with ⟨h1, rfl⟩ | ⟨h1, rfl⟩
  · have e : ∀ t, F7.points r.1 r.2.1 r.2.2 t (ofKey r.1 L) = F7.points r.1 r.2.1 r.2.2 t L := fun t => F7.points_congr (fun x _ _ _ => val_sel (sel_ofKey _ _ _))
    rw [e, e]
  · have e1 : F7.points r.1 r.2.1 r.2.2 q L = F7.points r.1 r.2.1 r.2.2 q' L := F7.points_congr (fun x _ _ _ => val_sel (sel_same h1))
    have e2 : F7.points r.1 r.2.1 r.2.2 q [] = F7.points r.1 r.2.1 r.2.2 q' [] := F7.points_congr (fun x _ _ _ => rfl)
    rw [decide_eq_true e1, decide_eq_true e2]
set_option maxRecDepth 100000 in
set_option maxHeartbeats 8000000 in
theorem alike_any (v vr : Value) (L : List FA) (rs : List RD) (q q' : Int) (w : World) (hv : FS w v L) (hr : RS w vr rs) (hL : L.length ≤ 19) (hwk : WK L) (hwr : WR rs) :
    Calls Try.prog 26 #[v, vr, .int .i64 q, .int .i64 q'] w fun e w' => e = .returned (.bool (alk q q' L rs)) ∧ Below w.heap.size w w' := by
  have HT0 := hid (touched_any v L q q' w hv (by omega) hwk)
  have HL := hid hL; have HWR := hid hwr
  obtain ⟨p, cp, hvf⟩ := hv.form
  obtain ⟨m0, hm0⟩ : ∃ m, m = L.length := ⟨_, rfl⟩
  rw [← hm0] at hvf
  subst hvf
  obtain ⟨pr, cr, hvr⟩ := hr.form
  subst hvr
  have hm := hr.len
  obtain ⟨m, hmm⟩ : ∃ m, m = rs.length := ⟨_, rfl⟩
  have HRR := hid (show GR rc 5 pr w.heap.size rs w from hr.gr 5 rc_len (by omega))
  rw [← hmm] at hm ⊢
  unfold maxLen at hm
  have HMM := hid hmm
  clear hv hL hwk hm0 hr hwr hmm
  go_enter Try.func26, Try.ntmps26
  go_wp2_with fail
  refine HT0.out.mono ?_
  rintro e w1 ⟨b, rfl, htm, hbl1, hbw⟩
  obtain ⟨nn, V, hnn, hmk, hF, hD⟩ := htm
  have HMK := hid hmk; have HF := hid hF; have HB1 := hid hbl1
  clear hmk hF hD hbl1 HT0 hbw hnn
  go_wp2_with fail
  go_loopw [20] (fun i wr => ∃ n : Nat, n ≤ m ∧ i = .int .i64 n ∧ Hid (alk q q' L (rs.take n) = true) ∧ Hid (Below w1.heap.size w1 wr)) (fun i _ => m - (intOf i).toNat)
  case atStart => exact ⟨0, by omega, rfl, hid (by simp [alk]), hid (Below.refl _ _)⟩
  case round =>
    obtain ⟨n, hn, rfl, hall, hbl⟩ := hrel
    by_cases hlt : n < m
    · obtain ⟨r, hr⟩ := get_lt (l := rs) (i := n) (by rw [← HMM.out]; exact hlt)
      have hww := below_t HB1.out hbl.out
      obtain ⟨bb, o, rfl, hbb, x0, x1, x2, x3, x4⟩ := (HRR.out.up hww).at5 hr
      have hkw := HWR.out r (List.mem_of_getElem? hr)
      have HTS := hid (take_snoc hr)
      have hmem := hid (List.mem_of_getElem? hr)
      obtain ⟨Z, hZ⟩ : ∃ Z, Z = wr.alloc (.cells #[.int .i64 r.1.1, .int .i64 r.1.2.1, .int .i64 r.1.2.2, .int .i64 r.2.1, .int .i64 r.2.2] 54) := ⟨_, rfl⟩
      have hzb : Below wr.heap.size wr Z := by rw [hZ]; exact (Below.refl _ wr).alloc (Nat.le_refl _) _
      have hzk : Blk Z wr.heap.size 54 (rc r) := by rw [hZ]; exact Blk.new wr 54 (rc r)
      have h1z : Below w1.heap.size w1 Z := below_t hbl.out hzb
      have hmz := HMK.out.below h1z
      obtain ⟨Vk, lk, hvk, hfz, hlk⟩ : ∃ Vk lk, Vk = ((if Tch q q' L r.1 = true then some (V r.1) else none : Option Value).getD (.slice none 0 0)) ∧ FS Z Vk lk ∧ ((Tch q q' L r.1 = true ∧ lk = ofKey r.1 L) ∨ (Tch q q' L r.1 = false ∧ lk = [])) := by
        cases hT : Tch q q' L r.1 with
        | true => exact ⟨V r.1, ofKey r.1 L, rfl, ((HF.out r.1 hT).ups h1z).gs, .inl ⟨rfl, rfl⟩⟩
        | false => exact ⟨.slice none 0 0, [], rfl, .inl ⟨rfl, rfl⟩, .inr ⟨rfl, rfl⟩⟩
      have hlz : ∀ W, Below Z.heap.size Z W → (Instr.lookup 71 (.map (some b)) (.agg #[.int .i64 r.1.1, .int .i64 r.1.2.1, .int .i64 r.1.2.2]) false).run Try.prog W = .ok Vk W := fun W hW => by
        have h := (hmz.below hW).look hkw
        rw [hvk]; exact h
      have hof : lk.length ≤ 19 := by
        rcases hlk with ⟨_, rfl⟩ | ⟨_, rfl⟩
        · exact Nat.le_trans (ofKey_length _ L) HL.out
        · simp
      have hsl : ∀ t, (sel r.1 t lk).length ≤ 19 := fun t => Nat.le_trans (List.length_filter_le _ _) hof
      have HP1 := hid (fun (W : World) (hW : Below Z.heap.size Z W) => points_any Vk lk r.1 r.2.1 r.2.2 q W (hfz.ups hW) (by omega) (hsl q))
      have HP2 := hid (fun (W : World) (hW : Below Z.heap.size Z W) => points_any Vk lk r.1 r.2.1 r.2.2 q' W (hfz.ups hW) (by omega) (hsl q'))
      have HE := hid (points_touched hlk)
      have HLK := hid hlz
      have HKB := hid (fun (W : World) (hW : Below Z.heap.size Z W) => hzk.below hW hzk.lt)
      have H1Z := hid h1z
      obtain ⟨Bk, hBk⟩ : ∃ Bk, Bk = wr.heap.size := ⟨_, rfl⟩
      rw [← hBk] at HKB
      have HT := hid (show Below Z.heap.size Z Z.drew from (Below.refl Z.heap.size Z).drew)
      clear hr hbb hzb hzk h1z hmz hfz hlz hof hsl hbl hvk hlk hww hkw
      go_upto_region 5 with fail
      rw [← hZ, ← hBk]
      clear hZ hBk x0 x1 x2 x3 x4
      refine wa_start (S := fun W => Below Z.heap.size Z W) (by kernel_rfl) HT.out ?_
      refine wa_tk 0 (some 24) (.map (some b)) rfl (by kernel_rfl) rfl rfl HT.out (fun w h0 => by go_simp) ?_
      try simp only [Act.put, List.setIfInBounds_toArray, List.set_cons_zero, List.set_cons_succ]
      refine wa_tk 1 (some 25) (.pointer (some ⟨Bk, 0, none⟩)) rfl (by kernel_rfl) rfl rfl HT.out (fun w h0 => by go_simp) ?_
      try simp only [Act.put, List.setIfInBounds_toArray, List.set_cons_zero, List.set_cons_succ]
      refine wa_tk 2 (some 26) (.agg #[.int .i64 r.1.1, .int .i64 r.1.2.1, .int .i64 r.1.2.2]) rfl (by kernel_rfl) rfl rfl HT.out (fun w h0 => by have h1' := HKB.out _ h0; have a0 := h1'.cell 0 _ rfl; have a1 := h1'.cell 1 _ rfl; have a2 := h1'.cell 2 _ rfl; have a3 := h1'.cell 3 _ rfl; have a4 := h1'.cell 4 _ rfl; go_simp) ?_
      try simp only [Act.put, List.setIfInBounds_toArray, List.set_cons_zero, List.set_cons_succ]
      refine wa_tk 3 (some 27) (Vk) rfl (by kernel_rfl) rfl rfl HT.out (fun w h0 => by have hl := HLK.out _ h0; go_simp) ?_
      try simp only [Act.put, List.setIfInBounds_toArray, List.set_cons_zero, List.set_cons_succ]
      refine wa_tk 4 (some 28) (.pointer (some ⟨Bk, 0, none⟩)) rfl (by kernel_rfl) rfl rfl HT.out (fun w h0 => by go_simp) ?_
      try simp only [Act.put, List.setIfInBounds_toArray, List.set_cons_zero, List.set_cons_succ]
      refine wa_tk 5 (some 29) (.agg #[.int .i64 r.1.1, .int .i64 r.1.2.1, .int .i64 r.1.2.2]) rfl (by kernel_rfl) rfl rfl HT.out (fun w h0 => by have h1' := HKB.out _ h0; have a0 := h1'.cell 0 _ rfl; have a1 := h1'.cell 1 _ rfl; have a2 := h1'.cell 2 _ rfl; have a3 := h1'.cell 3 _ rfl; have a4 := h1'.cell 4 _ rfl; go_simp) ?_
      try simp only [Act.put, List.setIfInBounds_toArray, List.set_cons_zero, List.set_cons_succ]
      refine wa_tk 6 (some 30) (.pointer (some ⟨Bk, 3, none⟩)) rfl (by kernel_rfl) rfl rfl HT.out (fun w h0 => by go_simp) ?_
      try simp only [Act.put, List.setIfInBounds_toArray, List.set_cons_zero, List.set_cons_succ]
      refine wa_tk 7 (some 31) (.int .i64 r.2.1) rfl (by kernel_rfl) rfl rfl HT.out (fun w h0 => by have h1' := HKB.out _ h0; have a0 := h1'.cell 0 _ rfl; have a1 := h1'.cell 1 _ rfl; have a2 := h1'.cell 2 _ rfl; have a3 := h1'.cell 3 _ rfl; have a4 := h1'.cell 4 _ rfl; go_simp) ?_
      try simp only [Act.put, List.setIfInBounds_toArray, List.set_cons_zero, List.set_cons_succ]
      refine wa_tk 8 (some 32) (.pointer (some ⟨Bk, 4, none⟩)) rfl (by kernel_rfl) rfl rfl HT.out (fun w h0 => by go_simp) ?_
      try simp only [Act.put, List.setIfInBounds_toArray, List.set_cons_zero, List.set_cons_succ]
      refine wa_tk 9 (some 33) (.int .i64 r.2.2) rfl (by kernel_rfl) rfl rfl HT.out (fun w h0 => by have h1' := HKB.out _ h0; have a0 := h1'.cell 0 _ rfl; have a1 := h1'.cell 1 _ rfl; have a2 := h1'.cell 2 _ rfl; have a3 := h1'.cell 3 _ rfl; have a4 := h1'.cell 4 _ rfl; go_simp) ?_
      try simp only [Act.put, List.setIfInBounds_toArray, List.set_cons_zero, List.set_cons_succ]
      refine wa_tk 10 (some 34) (.int .i64 q) rfl (by kernel_rfl) rfl rfl HT.out (fun w h0 => by go_simp) ?_
      try simp only [Act.put, List.setIfInBounds_toArray, List.set_cons_zero, List.set_cons_succ]
      refine wa_branch [11] (by decide +kernel) rfl ?_
      refine ar_op 11 rfl rfl (fun K hK => ?_) ar_nil
      unfold Oper.wp
      go_simp
      go_at_call 21
      refine (HP1.out _ HT.out).mono ?_
      rintro e W5 ⟨u5, rfl, hps, hbl⟩
      go_simp
      have HPS := hid hps
      have HT := hid (HT.out.trans (hbl.mono HT.out.size))
      clear hps hbl
      refine hK.out _ _ HT.out ?_
      clear hK K
      try simp only [Act.put, List.setIfInBounds_toArray, List.set_cons_zero, List.set_cons_succ]
      refine wa_branch [12] (by decide +kernel) rfl ?_
      refine ar_op 12 rfl rfl (fun K hK => ?_) ar_nil
      unfold Oper.wp
      go_simp
      refine hK.out _ _ HT.out ?_
      clear hK K
      try simp only [Act.put, List.setIfInBounds_toArray, List.set_cons_zero, List.set_cons_succ]
      refine wa_done (by decide +kernel) ?_
      obtain ⟨Z2, hZ2⟩ : ∃ Z2, Z2 = W5 := ⟨_, rfl⟩
      rw [← hZ2] at HPS HT ⊢
      clear hZ2
      have HKB := hid (fun (W : World) (hW : Below Z2.heap.size Z2 W) => HKB.out W (below_t HT.out hW))
      have HLK := hid (fun (W : World) (hW : Below Z2.heap.size Z2 W) => HLK.out W (below_t HT.out hW))
      have HP2 := hid (fun (W : World) (hW : Below Z2.heap.size Z2 W) => HP2.out W (below_t HT.out hW))
      have H1Z := hid (below_t H1Z.out HT.out)
      clear HP1 HT
      have HT := hid (show Below Z2.heap.size Z2 Z2.drew from (Below.refl Z2.heap.size Z2).drew)
      go_upto_region 6 with fail
      refine wa_start (S := fun W => Below Z2.heap.size Z2 W) (by kernel_rfl) HT.out ?_
      refine wa_tk 0 (some 36) (.map (some b)) rfl (by kernel_rfl) rfl rfl HT.out (fun w h0 => by go_simp) ?_
      try simp only [Act.put, List.setIfInBounds_toArray, List.set_cons_zero, List.set_cons_succ]
      refine wa_tk 1 (some 37) (.pointer (some ⟨Bk, 0, none⟩)) rfl (by kernel_rfl) rfl rfl HT.out (fun w h0 => by go_simp) ?_
      try simp only [Act.put, List.setIfInBounds_toArray, List.set_cons_zero, List.set_cons_succ]
      refine wa_tk 2 (some 38) (.agg #[.int .i64 r.1.1, .int .i64 r.1.2.1, .int .i64 r.1.2.2]) rfl (by kernel_rfl) rfl rfl HT.out (fun w h0 => by have h1' := HKB.out _ h0; have a0 := h1'.cell 0 _ rfl; have a1 := h1'.cell 1 _ rfl; have a2 := h1'.cell 2 _ rfl; have a3 := h1'.cell 3 _ rfl; have a4 := h1'.cell 4 _ rfl; go_simp) ?_
      try simp only [Act.put, List.setIfInBounds_toArray, List.set_cons_zero, List.set_cons_succ]
      refine wa_tk 3 (some 39) (Vk) rfl (by kernel_rfl) rfl rfl HT.out (fun w h0 => by have hl := HLK.out _ h0; go_simp) ?_
      try simp only [Act.put, List.setIfInBounds_toArray, List.set_cons_zero, List.set_cons_succ]
      refine wa_tk 4 (some 40) (.pointer (some ⟨Bk, 0, none⟩)) rfl (by kernel_rfl) rfl rfl HT.out (fun w h0 => by go_simp) ?_
      try simp only [Act.put, List.setIfInBounds_toArray, List.set_cons_zero, List.set_cons_succ]
      refine wa_tk 5 (some 41) (.agg #[.int .i64 r.1.1, .int .i64 r.1.2.1, .int .i64 r.1.2.2]) rfl (by kernel_rfl) rfl rfl HT.out (fun w h0 => by have h1' := HKB.out _ h0; have a0 := h1'.cell 0 _ rfl; have a1 := h1'.cell 1 _ rfl; have a2 := h1'.cell 2 _ rfl; have a3 := h1'.cell 3 _ rfl; have a4 := h1'.cell 4 _ rfl; go_simp) ?_
      try simp only [Act.put, List.setIfInBounds_toArray, List.set_cons_zero, List.set_cons_succ]
      refine wa_tk 6 (some 42) (.pointer (some ⟨Bk, 3, none⟩)) rfl (by kernel_rfl) rfl rfl HT.out (fun w h0 => by go_simp) ?_
      try simp only [Act.put, List.setIfInBounds_toArray, List.set_cons_zero, List.set_cons_succ]
      refine wa_tk 7 (some 43) (.int .i64 r.2.1) rfl (by kernel_rfl) rfl rfl HT.out (fun w h0 => by have h1' := HKB.out _ h0; have a0 := h1'.cell 0 _ rfl; have a1 := h1'.cell 1 _ rfl; have a2 := h1'.cell 2 _ rfl; have a3 := h1'.cell 3 _ rfl; have a4 := h1'.cell 4 _ rfl; go_simp) ?_
      try simp only [Act.put, List.setIfInBounds_toArray, List.set_cons_zero, List.set_cons_succ]
      refine wa_tk 8 (some 44) (.pointer (some ⟨Bk, 4, none⟩)) rfl (by kernel_rfl) rfl rfl HT.out (fun w h0 => by go_simp) ?_
      try simp only [Act.put, List.setIfInBounds_toArray, List.set_cons_zero, List.set_cons_succ]
      refine wa_tk 9 (some 45) (.int .i64 r.2.2) rfl (by kernel_rfl) rfl rfl HT.out (fun w h0 => by have h1' := HKB.out _ h0; have a0 := h1'.cell 0 _ rfl; have a1 := h1'.cell 1 _ rfl; have a2 := h1'.cell 2 _ rfl; have a3 := h1'.cell 3 _ rfl; have a4 := h1'.cell 4 _ rfl; go_simp) ?_
      try simp only [Act.put, List.setIfInBounds_toArray, List.set_cons_zero, List.set_cons_succ]
      refine wa_tk 10 (some 46) (.int .i64 q') rfl (by kernel_rfl) rfl rfl HT.out (fun w h0 => by go_simp) ?_
      try simp only [Act.put, List.setIfInBounds_toArray, List.set_cons_zero, List.set_cons_succ]
      refine wa_branch [11] (by decide +kernel) rfl ?_
      refine ar_op 11 rfl rfl (fun K hK => ?_) ar_nil
      unfold Oper.wp
      go_simp
      go_at_call 21
      refine (HP2.out _ HT.out).mono ?_
      rintro e W6 ⟨u6, rfl, hps, hbl⟩
      go_simp
      have HPS2 := hid hps
      have HT := hid (HT.out.trans (hbl.mono HT.out.size))
      clear hps hbl
      refine hK.out _ _ HT.out ?_
      clear hK K
      try simp only [Act.put, List.setIfInBounds_toArray, List.set_cons_zero, List.set_cons_succ]
      refine wa_branch [12] (by decide +kernel) rfl ?_
      refine ar_op 12 rfl rfl (fun K hK => ?_) ar_nil
      unfold Oper.wp
      go_simp
      refine hK.out _ _ HT.out ?_
      clear hK K
      try simp only [Act.put, List.setIfInBounds_toArray, List.set_cons_zero, List.set_cons_succ]
      refine wa_done (by decide +kernel) ?_
      have HQ := hid (below_t HB1.out (below_t H1Z.out HT.out))
      have H1Q := hid (below_t H1Z.out HT.out)
      have HC := hid (show Calls Try.prog 47 #[u5, u6] W6 fun e w' => e = .returned (.bool (alk1 q q' L r)) ∧ Below W6.heap.size W6 w' from by
        have h := equal_any u5 u6 _ _ W6 (HPS.out.ups HT.out) HPS2.out
        rwa [HE.out] at h)
      clear HPS HPS2 HE HT H1Z HLK HKB HP2
      cases hb : alk1 q q' L r with
      | true =>
        rw [hb] at HC
        go_wp2_with fail
        refine HC.out.mono ?_
        rintro e W7 ⟨rfl, hbl7⟩
        have HN := hid (show alk q q' L (rs.take (n + 1)) = true by
          rw [HTS.out]; unfold alk at hall ⊢; rw [List.all_append, hall.out]; simp [hb])
        have HB7 := hid (below_t H1Q.out hbl7)
        clear hbl7 HC HTS hmem hb hall
        go_wp2_with fail
        go_roundw
        case rel => exact ⟨n + 1, by omega, rfl, HN, HB7⟩
        case measure =>
          simp only [intOf, Int.toNat_natCast]
          have e : ((n : Int) + 1).toNat = n + 1 := by rw [← Int.natCast_succ, Int.toNat_natCast]
          rw [e]
          exact Nat.sub_lt_sub_left hlt (Nat.lt_succ_self n)
      | false =>
        rw [hb] at HC
        have HF2 := hid (show alk q q' L rs = false by
          unfold alk; rw [List.all_eq_false]; exact ⟨r, hmem.out, by simp [hb]⟩)
        go_wp2_with fail
        refine HC.out.mono ?_
        rintro e W7 ⟨rfl, hbl7⟩
        have HB7 := hid (below_t HQ.out hbl7)
        clear hbl7 HC HTS hmem hb hall
        go_wp2_with fail
        go_ret
        exact ⟨by rw [HF2.out]; rfl, HB7.out⟩
    · have HE := hid (show alk q q' L rs = true by
        have h := hall.out
        rwa [show n = rs.length by have := HMM.out; omega, List.take_length] at h)
      have HB := hid (below_t HB1.out hbl.out)
      clear hall hbl
      go_wp2
      go_ret
      exact ⟨by rw [HE.out]; rfl, HB.out⟩
end Go.Proofs.Ytbejjindkcjecaa

/- The law DigestTreeSpec: Tree, Path and Climb match the reference. -/
import Derived.Test.YtaoehkoffhnidaaDoorTE
namespace Go.Proofs.YtaoehkoffhnidaaDoor.Dg
open Go.RowKit Go
set_option linter.unusedVariables false
set_option maxRecDepth 20000
set_option linter.unusedSimpArgs false
theorem OE.da {w : World} {base : Nat} {v : Value} {ds : List (List UInt8)} (h : OE w base v ds) : DA w v ds := by
  rcases h with h | ⟨rfl, ad, rfl⟩
  · exact h.da
  · exact .inr ⟨ad, 0, rfl, by simp, fun j v hj => by simp at hj⟩
theorem OF.oe {w : World} {lo hi b : Nat} {v : Value} {ds : List (List UInt8)} (h : OF w lo hi v ds) (hb : b ≤ lo) : OE w b v ds := by
  rcases h with ⟨h, _⟩ | h
  · exact .inl (h.mono hb)
  · exact .inr h
theorem DS.pre {w : World} {q : Option Addr} {n c k : Nat} {ds : List (List UInt8)} (h : DS w (.slice q n c) ds) (hn : n = ds.length) (hk : k ≤ n) : DS w (.slice q k c) (ds.take k) := by
  by_cases h0 : 0 < ds.length
  · obtain ⟨g, o, cap, e, h1, h2, h3, h4, h5⟩ := h.pos h0
    simp only [Value.slice.injEq] at e
    obtain ⟨rfl, _, rfl⟩ := e
    exact DS.take h3 h4 h5 k (by omega) (by omega) h2
  · obtain rfl : ds = [] := List.eq_nil_of_length_eq_zero (by omega)
    obtain ⟨p, cc, e, h1, h2⟩ := h.form
    simp only [Value.slice.injEq] at e
    obtain ⟨rfl, _, rfl⟩ := e
    have : k = 0 := by simp at hn; omega
    subst this
    exact ⟨by simp, .inl ⟨by simp, _, _, rfl, h2⟩⟩
/-- Path and its reference answer alike -/
theorem path_both (ds : List (List UInt8)) (i : Int) (hm : ds.length ≤ 24) : ∃ (ps : List (List UInt8)) (e : Int), ps.length ≤ 5 ∧
    Hid (∀ w v, DS w v ds → Konst w → Calls Tryd.prog 36 #[v, .int .i64 i] w fun x w' => ∃ u, x = .returned (.tuple #[u, .int .i64 e]) ∧ OD w' w.heap.size u ps ∧ Below w.heap.size w w') ∧
    Hid (∀ w v, DS w v ds → Calls Tryd.prog 37 #[v, .int .i64 i] w fun x w' => ∃ u, x = .returned (.tuple #[u, .int .i64 e]) ∧ OE w' w.heap.size u ps ∧ Below w.heap.size w w') := by
  by_cases h : 0 ≤ i ∧ i < ds.length
  · obtain ⟨j, rfl⟩ := Int.eq_ofNat_of_zero_le h.1
    have hj : j < ds.length := by omega
    refine ⟨pathOf ds j, 0, ?_, hid fun w v hv hk => Path_ok ds v j w hj hv hk, hid fun w v hv => rPath_ok ds v j w (by omega) hj hv⟩
    rw [pathOf_length ds.length ds j (Nat.le_refl _)]
    exact plen_le 5 j ds.length (by omega)
  · refine ⟨[], 1, by simp, hid fun w v hv hk => (Path_bad ds v i w (by omega) hv).mono fun x w' ⟨h1, h2⟩ => ?_, hid fun w v hv => (rPath_bad ds v i w (by omega) hv).mono fun x w' ⟨h1, h2⟩ => ?_⟩
    · subst h2; exact ⟨_, h1, OD.nil _ _, Below.refl _ _⟩
    · subst h2; exact ⟨_, h1, .inl (OD.nil _ _), Below.refl _ _⟩
/-- Climb and its reference answer alike -/
theorem climb_both (p : List (List UInt8)) (i n : Int) (d : List UInt8) (vs : List Value) (hn : n < 9223372036854775808) (hp : p.length ≤ 1000) (hd : IsD d vs) : ∃ (x : List UInt8) (e : Int),
    Hid (∀ w v, DS w v p → Konst w → Calls Tryd.prog 39 #[.agg vs.toArray, .int .i64 i, .int .i64 n, v] w (RetC w x e)) ∧
    Hid (∀ w v, DS w v p → Calls Tryd.prog 40 #[.agg vs.toArray, .int .i64 i, .int .i64 n, v] w (RetC w x e)) := by
  by_cases h : 1 ≤ n ∧ n ≤ 1099511627776 ∧ 0 ≤ i ∧ i < n ∧ p.length = plen i.toNat n.toNat
  · obtain ⟨h1, h2, h3, h4, h5⟩ := h
    obtain ⟨n', rfl⟩ := Int.eq_ofNat_of_zero_le (by omega : 0 ≤ n)
    obtain ⟨i', rfl⟩ := Int.eq_ofNat_of_zero_le h3
    exact ⟨clm d i' n' p, 0, hid fun w v hv hk => Climb_ok p n' i' d vs v w h5 (by omega) (by omega) (by omega) hv hd hk, hid fun w v hv => rClimb_ok p n' i' d vs v w h5 (by omega) (by omega) (by omega) hv hd⟩
  · have hbad : n < 1 ∨ 1099511627776 < n ∨ i < 0 ∨ n ≤ i ∨ p.length ≠ plen i.toNat n.toNat := by
      apply Classical.byContradiction
      intro hh
      apply h
      refine ⟨by omega, by omega, by omega, by omega, ?_⟩
      apply Classical.byContradiction
      intro h6; exact hh (.inr (.inr (.inr (.inr h6))))
    refine ⟨zerosD, 1, hid fun w v hv hk => ?_, hid fun w v hv => ?_⟩
    · obtain ⟨q, cap, rfl, _, _⟩ := hv.form
      exact Climb_bad _ n i d vs q cap w hbad hd (by omega) hn
    · obtain ⟨q, cap, rfl, _, _⟩ := hv.form
      exact rClimb_bad _ n i d vs q cap w hbad hd (by omega) hn
section
variable {o : Oper} {a : Act} {w : World} {K : Act → World → Prop} {Q : Exit → Act → World → Prop}
/-- three lists in a list -/
theorem st_lists (dt : Option Tmp) (hd : o.dst = dt) (x y z : Operand) (ho : o.op = .buildSlice 52 3 #[(0, x), (1, y), (2, z)]) (p q r : Option Addr) (l m n c d e : Nat) (hx : a.eval x = .slice p l c) (hy : a.eval y = .slice q m d) (hz : a.eval z = .slice r n e)
    (h : ∀ W g, Cells W ⟨g, 0, none⟩ [.slice p l c, .slice q m d, .slice r n e] → g < W.heap.size → Below w.heap.size w W → K (a.put dt (.slice (some ⟨g, 0, none⟩) 3 3)) W) : Oper.wp Tryd.prog o a w K Q := by
  subst hd
  have hh := h _ _ (cells_alloc w [.slice p l c, .slice q m d, .slice r n e] 46) (by simp) (below_al _ _)
  unfold Oper.wp execOp
  simp only [ho]
  simp only [List.map_toArray, List.map_cons, List.map_nil, hx, hy, hz]
  go_simp
  exact hh
end
set_option maxRecDepth 100000 in
set_option maxHeartbeats 8000000 in
theorem trees_any (v : Value) (b : List UInt8) (at_ n : Int) (d : List UInt8) (vs : List Value) (w : World) (hv : BS w v b) (hk : Konst w) (hd : IsD d vs) (hn : n < 9223372036854775808) :
    Calls Tryd.prog 11 #[v, .int .i64 at_, .int .i64 n, .agg vs.toArray] w fun e w' => e = .returned (.bool true) ∧ Below w.heap.size w w' := by
  obtain ⟨p0, c0, rfl⟩ := hv.form
  have HV := hid hv; have HK := hid hk; have HD := hid hd; have HNB := hid hn
  obtain ⟨lb, hlb⟩ : ∃ lb, lb = b.length := ⟨_, rfl⟩
  rw [← hlb] at HV ⊢
  have hlv := info26 hd.len'
  have hu := Tryd.underlying35
  clear hv hk hd hn hlb
  go_enter Tryd.func11, Tryd.ntmps11
  go_upto_region 1 with fail
  refine code_alloc (zs := vs) ?_
  intro W0 hc hf hb hs
  obtain ⟨g7, hg7⟩ : ∃ g, g = w.heap.size := ⟨_, rfl⟩
  rw [← hg7] at hc ⊢
  have B0 := hid hb; have C0 := hid hc
  clear hc hf hb hs hg7
  go_wp2_with fail
  refine (sane_any _ (HK.out.ups B0.out)).mono ?_
  rintro e w1 ⟨rfl, hb⟩
  have B1 := hid (below_tr B0.out hb); have C1 := hid (C0.out.ups hb); clear hb C0 B0
  go_wp2_with fail
  refine (digestsOf_any _ b _ (HV.out.ups B1.out)).mono ?_
  rintro e w2 ⟨vl, rfl, hoe, hb⟩
  have B2 := hid (below_tr B1.out hb); have C2 := hid (C1.out.ups hb); have HL2 := hid hoe.ds; clear hb C1 B1 hoe
  have hlen := digs_len b
  obtain ⟨ds, hds⟩ : ∃ ds, ds = digs b := ⟨_, rfl⟩
  rw [← hds] at HL2 hlen
  clear hds
  obtain ⟨q9, c9, rfl, _, _⟩ := HL2.out.form
  obtain ⟨len, hln⟩ : ∃ len, len = ds.length := ⟨_, rfl⟩
  rw [← hln] at HL2 hlen ⊢
  have HLN := hid hln; have HLE := hid hlen
  clear hln hlen
  go_wp2_with fail
  refine (tree_any len ds _ _ (by rw [← HLN.out]; exact Nat.le_refl _) HL2.out (HK.out.ups B2.out)).mono ?_
  rintro e w3 ⟨ut, hdt, rfl, hb⟩
  have B3 := hid (below_tr B2.out hb); have C3 := hid (C2.out.ups hb); have HL3 := hid (HL2.out.ups hb); clear hb C2 B2 HL2
  go_wp2_with fail
  refine (rtree_any len ds _ _ (by rw [← HLN.out]; exact Nat.le_refl _) (by rw [← HLN.out]; have := HLE.out; omega) HL3.out).mono ?_
  rintro e w4 ⟨ur, hdr, rfl, hb⟩
  have B4 := hid (below_tr B3.out hb); have C4 := hid (C3.out.ups hb); have HL4 := hid (HL3.out.ups hb); clear hb C3 B3 HL3
  have hq := eqD_true hdt hdr rfl
  go_upto_region 7 with fail
  clear hq hdt hdr
  generalize bits BinOp.and IntKind.i64 at_ 15 = z
  refine code_alloc (zs := [.int .i64 at_, .int .i64 z]) ?_
  intro W5 hc hf hb hs
  obtain ⟨gi, hgi⟩ : ∃ g, g = w4.heap.size := ⟨_, rfl⟩
  rw [← hgi] at hc ⊢
  have B5 := hid (below_tr B4.out hb); have C5 := hid (C4.out.ups hb); have HL5 := hid (HL4.out.ups hb); have I5 := hid hc; have K5 := hid (HK.out.ups B5.out)
  clear hc hf hb hs hgi C4 B4 HL4 HV HK
  have hpart : ∀ j, j < 2 → ∃ n : Int, [Value.int .i64 at_, .int .i64 z][j]? = some (.int .i64 n) := by
    intro j hj
    rcases (by omega : j = 0 ∨ j = 1) with rfl | rfl
    · exact ⟨_, rfl⟩
    · exact ⟨_, rfl⟩
  have HP := hid hpart
  clear hpart
  go_loopw [38] (fun i w1 => ∃ j : Nat, j ≤ 2 ∧ i = .int .i64 j ∧ Hid (Below W5.heap.size W5 w1)) (fun i _ => 2 - (intOf i).toNat)
  case atStart => exact ⟨0, by omega, rfl, hid (Below.refl _ _)⟩
  case round =>
    obtain ⟨j, hj, rfl, hb⟩ := hrel
    by_cases hlt : j < 2
    · obtain ⟨i, hii⟩ := HP.out j hlt
      have hcell := (I5.out.ups hb.out).at0 hii
      obtain ⟨ps, pe, hps, P1, P2⟩ := path_both ds i (by rw [← HLN.out]; exact HLE.out)
      have HPS := hid hps
      have R0 := hid hb.out
      clear hii hb hps
      go_wp2_with fail
      clear hcell
      refine (P1.out _ _ (HL5.out.ups R0.out) (K5.out.ups R0.out)).mono ?_
      rintro e w6 ⟨up, rfl, hod, hb⟩
      have R1 := hid (below_tr R0.out hb); have OP := hid hod.ds; clear hb hod R0
      go_wp2_with fail
      refine (P2.out _ _ (HL5.out.ups R1.out)).mono ?_
      rintro e w7 ⟨uq, rfl, hoe, hb⟩
      have R2 := hid (below_tr R1.out hb); have OP2 := hid (OP.out.ups hb); have OQ := hid hoe; clear hb hoe R1 OP
      go_wp2_with fail
      refine (Same_any ps up uq _ OP2.out OQ.out.ds).mono ?_
      rintro e w8 ⟨rfl, hb⟩
      have R3 := hid (below_tr R2.out hb); have OQ3 := hid (OQ.out.ups hb); clear hb R2 OP2 OQ P1 P2
      obtain ⟨qq, qc, rfl, hqc, hqm⟩ := OQ3.out.ds.form
      have DQ := hid OQ3.out.ds; have DAQ := hid OQ3.out.da
      obtain ⟨pl, hpl⟩ : ∃ pl, pl = ps.length := ⟨_, rfl⟩
      rw [← hpl] at DQ DAQ OQ3 hqc ⊢
      have HPL := hid hpl; have HQC := hid hqc; have HQM := hid hqm
      have hpe : (pe != pe) = false := by simp
      clear hpl hqc hqm OQ3
      go_upto_region 14 with fail
      clear hpe
      refine code_alloc (zs := [.int .i64 n, .int .i64 (len : Int)]) ?_
      intro W9 hc hf hb hs
      obtain ⟨gm, hgm⟩ : ∃ g, g = w8.heap.size := ⟨_, rfl⟩
      rw [← hgm] at hc ⊢
      have R9 := hid (below_tr R3.out hb); have DQ9 := hid (DQ.out.ups hb); have DA9 := hid (DAQ.out.ups hb); have M9 := hid hc
      have C9 := hid (C5.out.ups R9.out); have K9 := hid (K5.out.ups R9.out)
      clear hc hf hb hs hgm R3 DQ DAQ
      have hparm : ∀ j, j < 2 → ∃ m : Int, [Value.int .i64 n, .int .i64 (len : Int)][j]? = some (.int .i64 m) ∧ m < 9223372036854775808 := by
        intro j hj
        rcases (by omega : j = 0 ∨ j = 1) with rfl | rfl
        · exact ⟨_, rfl, HNB.out⟩
        · exact ⟨_, rfl, by have := HLE.out; omega⟩
      have HM := hid hparm
      clear hparm
      go_loopw [68] (fun i w1 => ∃ j : Nat, j ≤ 2 ∧ i = .int .i64 j ∧ Hid (Below W9.heap.size W9 w1)) (fun i _ => 2 - (intOf i).toNat)
      case atStart => exact ⟨0, by omega, rfl, hid (Below.refl _ _)⟩
      case round =>
        obtain ⟨jm, hjm, rfl, hbm⟩ := hrel
        by_cases hltm : jm < 2
        · obtain ⟨m, hmm, hmb⟩ := HM.out jm hltm
          have HMB := hid hmb
          have hcell := (M9.out.ups hbm.out).at0 hmm
          have T0 := hid hbm.out
          clear hmm hbm hmb
          go_upto_region 16 with fail
          clear hcell
          have T1 := hid (C9.out.ups T0.out); have DA1 := hid (DA9.out.ups T0.out); have DQ1 := hid (DQ9.out.ups T0.out); have K1 := hid (K9.out.ups T0.out)
          obtain ⟨ph, hph⟩ : ∃ ph, ph = pl / 2 := ⟨_, rfl⟩
          have hd2 : (pl : Int) / 2 = (ph : Int) := by omega
          have hq1 : ph ≤ qc := by have := HQC.out; omega
          have hq2 : ph ≤ pl := by omega
          have hq3 : IntKind.i64.wrap (ph : Int) = (ph : Int) := IntWalk.i64_in _ (by have h1 := HPS.out; have h2 := HPL.out; omega)
          clear hph
          have HS := hid ((Below.refl wr.heap.size wr).drew)
          refine wa_start (S := fun W => Below wr.heap.size wr W) (by kernel_rfl) HS.out ?_
          refine wa_tk 0 (some 72) (.slice qq pl qc) rfl (by kernel_rfl) rfl rfl HS.out (fun w h0 => by go_simp) ?_
          try simp only [Act.put, List.setIfInBounds_toArray, List.set_cons_zero, List.set_cons_succ]
          refine wa_tk 2 (some 74) (.slice qq pl qc) rfl (by kernel_rfl) rfl rfl HS.out (fun w h0 => by go_simp) ?_
          try simp only [Act.put, List.setIfInBounds_toArray, List.set_cons_zero, List.set_cons_succ]
          refine wa_load 4 (some 76) 35 (.tmp 7) rfl rfl g7 0 rfl vs _ (fun w h => (T1.out.ups h).range) hu rfl hlv (by kernel_rfl) rfl rfl HS.out ?_
          try simp only [Act.put, List.setIfInBounds_toArray, List.set_cons_zero, List.set_cons_succ]
          refine wa_tk 7 (some 79) (.slice qq pl qc) rfl (by kernel_rfl) rfl rfl HS.out (fun w h0 => by go_simp) ?_
          try simp only [Act.put, List.setIfInBounds_toArray, List.set_cons_zero, List.set_cons_succ]
          refine wa_tk 8 (some 80) (.slice qq pl qc) rfl (by kernel_rfl) rfl rfl HS.out (fun w h0 => by go_simp) ?_
          try simp only [Act.put, List.setIfInBounds_toArray, List.set_cons_zero, List.set_cons_succ]
          refine wa_tk 9 (some 81) (.int .i64 pl) rfl (by kernel_rfl) rfl rfl HS.out (fun w h0 => by go_simp) ?_
          try simp only [Act.put, List.setIfInBounds_toArray, List.set_cons_zero, List.set_cons_succ]
          refine wa_tk 10 (some 82) (.int .i64 (ph : Int)) rfl (by kernel_rfl) rfl rfl HS.out (fun w h0 => by go_simp) ?_
          try simp only [Act.put, List.setIfInBounds_toArray, List.set_cons_zero, List.set_cons_succ]
          refine wa_tk 11 (some 83) (.slice qq ph qc) rfl (by kernel_rfl) rfl rfl HS.out (fun w h0 => by go_simp) ?_
          try simp only [Act.put, List.setIfInBounds_toArray, List.set_cons_zero, List.set_cons_succ]
          refine wa_tk 14 (some 86) (.int .i64 0) rfl (by kernel_rfl) rfl rfl HS.out (fun w h0 => by go_simp) ?_
          try simp only [Act.put, List.setIfInBounds_toArray, List.set_cons_zero, List.set_cons_succ]
          repeat' (first
            | exact ar_nil
            | (refine ar_op 1 rfl rfl (fun K hK => ?_) ?_; refine st_begin (some 73) rfl rfl ?_; intro W4 ad hb; have HS := hid (HS.out.trans (hb.mono HS.out.size)); (first | (have HO := hid (HO.out.ups hb)) | skip); (first | (have HX := hid (HX.out.ups hb)) | skip); refine hK.out _ _ HS.out ?_; clear hK K; clear hb; try simp only [Act.put, List.setIfInBounds_toArray, List.set_cons_zero, List.set_cons_succ])
            | (refine ar_op 3 rfl rfl (fun K hK => ?_) ?_; refine st_first (some 75) rfl (.tmp 73) (.tmp 74) rfl rfl _ rfl ps (DA1.out.ups HS.out) (by have := HPS.out; omega) ?_; intro v75 W6 lo hi hlo hhi ho hb; have HLB := hid (show wr.heap.size ≤ lo by rw [hlo]; exact HS.out.size); have HS := hid (HS.out.trans (hb.mono HS.out.size)); (first | (have HO := hid (HO.out.ups hb)) | skip); (first | (have HX := hid (HX.out.ups hb)) | skip); have HO := hid ho; clear ho hlo hhi; refine hK.out _ _ HS.out ?_; clear hK K; clear hb; try simp only [Act.put, List.setIfInBounds_toArray, List.set_cons_zero, List.set_cons_succ])
            | (refine ar_op 5 rfl rfl (fun K hK => ?_) ?_; refine st_one (some 77) rfl (.tmp 76) rfl vs d rfl HD.out ?_; intro W8 g8 hx hb; have HS := hid (HS.out.trans (hb.mono HS.out.size)); (first | (have HO := hid (HO.out.ups hb)) | skip); (first | (have HX := hid (HX.out.ups hb)) | skip); have HX := hid hx; clear hx; refine hK.out _ _ HS.out ?_; clear hK K; clear hb; try simp only [Act.put, List.setIfInBounds_toArray, List.set_cons_zero, List.set_cons_succ])
            | (refine ar_op 6 rfl rfl (fun K hK => ?_) ?_; refine st_oe (some 78) rfl (.tmp 75) (.tmp 77) rfl rfl wr.heap.size ps [d] (HO.out.oe HLB.out) HX.out (by have := HPS.out; simp; omega) HS.out.size ?_; intro v78 W9' ho hb; have HS := hid (HS.out.trans hb); have HO := hid ho.ds; clear ho HX; refine hK.out _ _ HS.out ?_; clear hK K; clear hb; try simp only [Act.put, List.setIfInBounds_toArray, List.set_cons_zero, List.set_cons_succ])
            | (refine wa_branch [1, 5] (by decide +kernel) rfl ?_)
            | (refine wa_branch [1] (by decide +kernel) rfl ?_)
            | (refine wa_branch [5] (by decide +kernel) rfl ?_)
            | (refine wa_branch [3, 5] (by decide +kernel) rfl ?_)
            | (refine wa_branch [3] (by decide +kernel) rfl ?_)
            | (refine wa_branch [6] (by decide +kernel) rfl ?_)
            | fail)
          all_goals
            obtain ⟨q78, c78, rfl, _, _⟩ := HO.out.form
            have HP3 := hid hq2
            rw [show (ps ++ [d]).length = pl + 1 by rw [List.length_append, HPL.out]; rfl] at HO
            try rw [show (ps ++ [d]).length = pl + 1 by rw [List.length_append, HPL.out]; rfl]
            refine wa_branch [12] (by decide +kernel) rfl ?_
            refine ar_op 12 rfl rfl (fun K hK => ?_) ar_nil
            refine st_lists (some 84) rfl (.tmp 72) (.tmp 78) (.tmp 83) rfl qq q78 qq pl (pl + 1) ph qc c78 qc rfl rfl rfl ?_
            intro W10 gp hc hg hb
            have HS := hid (HS.out.trans (hb.mono HS.out.size)); have HO := hid (HO.out.ups hb); have HC := hid hc
            clear hc hg hb
            refine hK.out _ _ HS.out ?_
            clear hK K
            try simp only [Act.put, List.setIfInBounds_toArray, List.set_cons_zero, List.set_cons_succ]
            refine wa_tk 13 (some 85) (.int .i64 3) rfl (by kernel_rfl) rfl rfl HS.out (fun w h0 => by go_simp) ?_
            try simp only [Act.put, List.setIfInBounds_toArray, List.set_cons_zero, List.set_cons_succ]
            refine wa_done (by decide +kernel) ?_
            have T2 := hid (T1.out.ups HS.out); have DQ2 := hid (DQ1.out.ups HS.out); have K2 := hid (K1.out.ups HS.out); have X0 := hid (below_tr T0.out HS.out)
            clear HS T1 DQ1 K1 DA1 T0 hd2 hq1 hq2 hq3
            have G7 := hid (T2.out.lt (by intro e; have := HD.out.len'; rw [e] at this; simp at this))
            have hparp : ∀ j, j < 3 → ∃ (q : Option Addr) (l c : Nat) (es : List (List UInt8)), [Value.slice qq pl qc, .slice q78 (pl + 1) c78, .slice qq ph qc][j]? = some (.slice q l c) ∧ DS W10 (.slice q l c) es ∧ es.length ≤ 1000 := by
              intro j hj
              rcases (by omega : j = 0 ∨ j = 1 ∨ j = 2) with rfl | rfl | rfl
              · exact ⟨_, _, _, _, rfl, DQ2.out, by have := HPS.out; omega⟩
              · exact ⟨_, _, _, _, rfl, HO.out, by have := HPS.out; rw [List.length_append]; simp; omega⟩
              · exact ⟨_, _, _, _, rfl, DQ2.out.pre HPL.out HP3.out, by have := HPS.out; rw [List.length_take]; omega⟩
            have HPP := hid hparp
            clear hparp HO DQ2 HP3
            go_wp2
            go_loopw [86] (fun i w1 => ∃ j : Nat, j ≤ 3 ∧ i = .int .i64 j ∧ Hid (Below W10.heap.size W10 w1)) (fun i _ => 3 - (intOf i).toNat)
            case atStart => exact ⟨0, by omega, rfl, hid (Below.refl _ _)⟩
            case round =>
              obtain ⟨jp, hjp, rfl, hbp⟩ := hrel
              by_cases hltp : jp < 3
              · obtain ⟨uq, ul, uc, es, hes, hds, hel⟩ := HPP.out jp hltp
                have hcell := (HC.out.ups hbp.out).at0 hes
                obtain ⟨x, ee, CB1, CB2⟩ := climb_both es i m d vs HMB.out hel HD.out
                have HDS := hid hds
                have Y0 := hid hbp.out
                have U0 := hid (T2.out.ups Y0.out)
                clear hes hds hel hbp
                go_wp2_with (refine wpList_load_mid rfl 35 (.tmp 7) rfl g7 0 rfl vs _ U0.out.range Tryd.underlying35 rfl hlv ?_)
                clear hcell
                refine (CB1.out _ _ (HDS.out.ups Y0.out) (K2.out.ups Y0.out)).mono ?_
                rintro e wa ⟨x1, hd1, rfl, hb⟩
                have Y1 := hid (below_tr Y0.out hb); have U1 := hid (U0.out.ups hb)
                clear hb
                go_wp2_with (first
                  | (refine wpl_alloc (some 20) rfl rfl rfl ?_; intro wb g20 hg hr hb hs; have R20 := hid hr; have E20 := hid (show wa.heap.size ≤ g20 by rw [hg]; exact Nat.le_refl _); have Y2 := hid (below_tr Y1.out hb); have U2 := hid (U1.out.ups hb); clear hg hr hb hs)
                  | (refine wpl_put (.tmp 20) (.tmp 96) rfl rfl g20 x1 _ rfl rfl R20.out hd1 ?_; intro wc hc hr ho; have Y3 := hid (ho.below Y2.out Y2.out.size (Nat.le_trans Y1.out.size E20.out)); have U3 := hid (ho.cells U2.out (by show g7 ≠ g20; have h1 := G7.out; have h2 := E20.out; have h3 := Y1.out.size; have h4 : g7 < W10.heap.size := h1; omega)); have C20 := hid hc; have L20 := hid hr.2.2; clear hc hr ho)
                  | (refine wpList_load_mid rfl 35 (.tmp 7) rfl g7 0 rfl vs _ U3.out.range Tryd.underlying35 rfl hlv ?_))
                clear R20 Y2 U2 Y1 U1
                refine (CB2.out _ _ (HDS.out.ups Y3.out)).mono ?_
                rintro e wd ⟨x2, hd2, rfl, hb⟩
                have Y4 := hid (below_tr Y3.out hb); have C21 := hid (C20.out.ups hb); have L21 := hid (Nat.lt_of_lt_of_le L20.out hb.size)
                have hl20 := info26 hd1.len'
                have hl22 := info26 hd2.len'
                have hq := eqD_true hd1 hd2 rfl
                have hee : (ee != ee) = false := by simp
                clear hb Y3 C20 L20 U3
                go_wp2_with (first
                  | (refine wpl_alloc (some 22) rfl rfl rfl ?_; intro we g22 hg hr hb hs; have R22 := hid hr; have E22 := hid (show wd.heap.size ≤ g22 by rw [hg]; exact Nat.le_refl _); have Y5 := hid (below_tr Y4.out hb); have C22 := hid (C21.out.ups hb); clear hg hr hb hs)
                  | (refine wpl_put (.tmp 22) (.tmp 104) rfl rfl g22 x2 _ rfl rfl R22.out hd2 ?_; intro wf hc hr ho; have Y6 := hid (ho.below Y5.out Y5.out.size (Nat.le_trans Y4.out.size E22.out)); have C23 := hid (ho.cells C22.out (by show g20 ≠ g22; have h1 := L21.out; have h2 := E22.out; omega)); have D22 := hid hc; clear hc hr ho)
                  | (refine wpList_load_mid rfl 35 (.tmp 20) rfl g20 0 rfl x1 _ C23.out.range Tryd.underlying35 rfl hl20 ?_)
                  | (refine wpList_load_mid rfl 35 (.tmp 22) rfl g22 0 rfl x2 _ D22.out.range Tryd.underlying35 rfl hl22 ?_))
                go_roundw
                case rel => exact ⟨jp + 1, by omega, by go_num, Y6⟩
                case measure => simp [intOf]; omega
              · have Z0 := hid (below_tr X0.out hbp.out)
                go_wp2
                go_roundw
                case rel => exact ⟨jm + 1, by omega, by go_num, Z0⟩
                case measure => simp [intOf]; omega
        · have Z0 := hid (below_tr R9.out hbm.out)
          go_wp2
          go_roundw
          case rel => exact ⟨j + 1, by omega, by go_num, Z0⟩
          case measure => simp [intOf]; omega
    · have Z0 := hid (below_tr B5.out hb.out)
      go_wp2
      go_ret
      exact ⟨rfl, Z0.out⟩
end Go.Proofs.YtaoehkoffhnidaaDoor.Dg

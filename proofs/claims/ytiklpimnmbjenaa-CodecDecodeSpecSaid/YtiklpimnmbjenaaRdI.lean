/- The reader of the reference: a list whose elements are read: the loop. -/
import Derived.Test.YtiklpimnmbjenaaRdH
import Derived.Deep.RegionLaw
namespace Go.Proofs.Ytiklpimnmbjenaa
open Go.RowKit Go
set_option linter.unusedVariables false
set_option linter.unusedSimpArgs false
theorem step_append_run {P : Program} {w w' : World} {ops : Array Oper} {o : Oper} {a : Act} {K : Act → World → Prop} {Q : Exit → Act → World → Prop} {E : Prop}
    (hg : o.guard = none) (s x : Operand) (t u : TypeId) (hop : o.op = Op.call { callee := Callee.builtin Builtin.append, args := #[s, x], argTypes := #[t, u] })
    (vs vx r : Value) (hs : a.eval s = vs) (hx : a.eval x = vx) (hrun : (Builtin.append_ #[t, u] o.type #[vs, vx]).run P w = .ok r w') (hK : K (a.put o.dst r) w') :
    if Region.wanted o (yielded ops a.tmps) = true then Oper.wp P o a w K Q else E := by
  have hw : Region.wanted o (yielded ops a.tmps) = true := by simp [Region.wanted, hg]
  rw [if_pos hw]
  unfold Oper.wp
  simp [execOp, hop, resolve, invoke, builtin, hs, hx, hrun, Result.andThen]
  exact hK
set_option maxRecDepth 100000 in
set_option maxHeartbeats 1000000 in
theorem rval_list_good (d : Nat) (hv : SaidRv d) (w : World) (b : Nat) (L : List Int) (at_ lev : Nat) (l : List Int) (u : Nat) (r : List Int) (hr : RR w b L at_ false) (hL : L.drop at_ = 3 :: l) (hn : rn 0 0 l = some (u, r)) (hbig : ¬ r.length < u) (hd : lev + (d + 1) = 16) :
    Calls Try.prog 30 #[.pointer (some ⟨b, 0, none⟩), .int .i64 lev] w fun e w' => OutW w w' b L (pv (d + 1) (L.drop at_)) e := by
  have HO : Hid (pv (d + 1) (L.drop at_) = (pl (pv d) u r).map fun y => (T.mk 3 0 ⟨#[]⟩ y.1, y.2)) := by
    show _ = _
    rw [hL, pv_three, hn]; rfl
  obtain ⟨hc, hl⟩ := drop_get hL
  have hu := rn_lt _ _ _ _ _ (by decide) (by decide) hn
  have HR : Hid (∀ o, RR (w.alloc o) b L at_ false) := fun o => hr.al o
  have hb := hr.lt
  have HC := hid hc
  have HN : Hid (rn 0 0 (L.drop (at_ + 1)) = some (u, r)) := by show _ = _; rw [hl, hn]
  have HV := hid hv
  clear hr hL hc hn hl hv
  go_enter Try.func30, Try.ntmps30
  go_wp2_with fail
  refine (next_byte b L at_ false _ _ (HR.out _) HC.out).mono ?_
  rintro e w1 ⟨rfl, hr1, hg1⟩
  have HR1 := hid hr1; clear hr1
  go_wp2_with fail
  refine (number_some b L _ _ u r HR1.out HN.out).mono ?_
  rintro e w2 ⟨rfl, ⟨n2, hn2, hd2, hr2⟩, hg2⟩
  have h19 := hr2.2.2.2.2.2.2.1
  have h18 := hr2.2.2.2.2.2.1
  have h110 := hr2.2.2.2.2.2.2.2.1
  have h111 := hr2.2.2.2.2.2.2.2.2
  obtain ⟨p, cap, h15, hcap, hcc⟩ := hr2.2.2.2.2.1
  have hl8 := hr2.2.2.2.1
  have hrl : r.length = L.length - n2 := by rw [← hd2]; simp
  rw [hrl] at hbig
  have HR2 := hid hr2; have HD2 := hid hd2; clear hr2 hd2 hrl hcc
  obtain ⟨len, hlen⟩ : ∃ n, n = L.length := ⟨_, rfl⟩
  rw [← hlen] at h15 hcap hl8 hbig hn2
  clear hlen
  have HU := hid (show u ≤ 100000000 by omega)
  have ew : IntKind.u64.wrap ((len : Int) - n2) = ((len - n2 : Nat) : Int) := by rw [IntWalk.u64_in _ (by omega)]; omega
  have hlt : decide ((u : Int) ≤ ((len - n2 : Nat) : Int)) = true := by simp; omega
  have hz := ((Zed.new w).grown hg1 (by omega)).grown hg2 (by omega)
  obtain ⟨⟨z0, z1, z2, z3⟩, f0, f1, f2, f3⟩ := hz.cells
  have HZ := hid hz; clear hz
  have HWL := hid (show IntKind.i64.wrap ((lev : Int) + 1) = ((lev + 1 : Nat) : Int) by rw [IntWalk.i64_in _ (by omega)]; omega)
  have hle : ((lev : Int) == 16) = false := by simp; omega
  go_wp2_with fail
  go_quiet (fail)
  obtain ⟨⟨y0, y1, y2, y3⟩, e0, e1, e2, e3⟩ := (show Zed ((w2.drewN nq).alloc (.cells #[.int .i64 0, .int .i64 0, .string ⟨#[]⟩, .slice none 0 0] 24)) w2.heap.size from Zed.new (w2.drewN nq)).cells
  go_wp2
  obtain ⟨W, hW⟩ : ∃ W, W = (((((w2.drewN nq).alloc (.cells #[.int .i64 0, .int .i64 0, .string ⟨#[]⟩, .slice none 0 0] 24)).setCell ⟨w2.heap.size, 0, none⟩ (.int .i64 3)).setCell ⟨w2.heap.size, 1, none⟩ (.int .i64 0)).setCell ⟨w2.heap.size, 2, none⟩ (.string ⟨#[]⟩)).setCell ⟨w2.heap.size, 3, none⟩ (.slice none 0 0) := ⟨_, rfl⟩
  have HST : Hid (RW w W d b w2.heap.size u L r (.slice none 0 0) 0 [] n2) := by
    have hb0 : Below w2.heap.size w2 ((w2.drewN nq).alloc (.cells #[.int .i64 0, .int .i64 0, .string ⟨#[]⟩, .slice none 0 0] 24)) := Below.alloc (show Below w2.heap.size w2 (w2.drewN nq) from ⟨rfl, rfl, rfl, Nat.le_refl _, fun _ _ => rfl⟩) (Nat.le_refl _) _
    refine RW.start HR2.out HD2.out (grown_trans (grown_trans (grown_alloc _ _ _) hg1) hg2) HZ.out hb ?_ ?_ ?_ ?_
    · have h1 := hg1.size; have h2 := hg2.size; simp at h1; omega
    · rw [hW]; exact (((hb0.setCell (p := ⟨w2.heap.size, 0, none⟩) (Nat.le_refl _) _).setCell (p := ⟨w2.heap.size, 1, none⟩) (Nat.le_refl _) _).setCell (p := ⟨w2.heap.size, 2, none⟩) (Nat.le_refl _) _).setCell (p := ⟨w2.heap.size, 3, none⟩) (Nat.le_refl _) _
    · rw [hW]; simp
    · rw [hW]
      refine ⟨?_, ?_, ?_, ?_, by simp only [World.frozen?_setCell]; exact e3⟩
      · rw [World.cell?_setCell_other (h := by simp), World.cell?_setCell_other (h := by simp), World.cell?_setCell_other (h := by simp)]
        exact World.cell?_setCell_same (h := y0) ..
      · rw [World.cell?_setCell_other (h := by simp), World.cell?_setCell_other (h := by simp)]
        exact World.cell?_setCell_same (h := by rw [World.cell?_setCell_other (h := by simp)]; exact y1) ..
      · rw [World.cell?_setCell_other (h := by simp)]
        exact World.cell?_setCell_same (h := by rw [World.cell?_setCell_other (h := by simp), World.cell?_setCell_other (h := by simp)]; exact y2) ..
      · exact World.cell?_setCell_same (h := by rw [World.cell?_setCell_other (h := by simp), World.cell?_setCell_other (h := by simp), World.cell?_setCell_other (h := by simp)]; exact y3) ..
  rw [← hW]
  obtain ⟨kv, hkv⟩ : ∃ k, k = w2.heap.size := ⟨_, rfl⟩
  rw [← hkv] at HST ⊢
  clear hW y0 y1 y2 y3 e0 e1 e2 e3 z0 z1 z2 z3 f0 f1 f2 f3 h15 h18 h19 h110 h111 HR2 HD2 HZ hcap hl8 hn2 ew hlt hg1 hg2 hkv
  go_loopg [9] u (fun m iv wr => ∃ i : Nat, m = u - i ∧ i ≤ u ∧ iv = .int .u64 i ∧ Hid ((∃ v ts n, RW w wr d b kv u L r v i ts n) ∨ (∃ v, RX w wr d b kv u L r v)))
  case atStart => exact ⟨0, by omega, by omega, rfl, .inl ⟨_, _, _, HST.out⟩⟩
  case round =>
    obtain ⟨i, rfl, hi, rfl, HH⟩ := hrel
    rcases HH.out with ⟨v, ts, n, hw⟩ | ⟨v, hx⟩
    · obtain ⟨p, cap, rfl⟩ := hw.vs.form
      have hlen := hw.len
      rw [hlen] at hw
      clear hlen
      have HW := hid hw
      have hb2 := hw.rr.2.2.2.2.2.2.1
      obtain ⟨l0, l1, l2, l3, l4⟩ := hw.lv
      have HNE := hid (show kv ≠ b by have := hw.new; have := hw.far; omega)
      clear hw
      by_cases hlt : i < u
      · cases hp : pv d (L.drop n) with
        | none =>
          have HPV := hid hp; clear hp
          go_wp2_with fail
          go_region_law (first | (refine step_append_run rfl (.tmp 129) (.tmp 134) 22 22 rfl _ _ _ rfl rfl HAPP.out ?_) | (go_simp; go_at_call 30; rw [HWL.out]; refine (HV.out _ b L n (lev + 1) (by omega) (show RR wr.drew b L n false from HW.out.rr)).mono ?_; rintro e w3 ⟨hg3, v3, rfl, ⟨k', n', s', p', len', cap', rfl⟩, hm⟩; rw [HPV.out] at hm; have HM := hid hm; obtain ⟨g, cap2, w4, happ, hvs, hb4⟩ := HW.out.app (k' := k') (n' := n') (s := s') (p := p') (len := len') (cap := cap') (by have := HU.out; omega) (grown_undrew hg3); have HAPP := hid happ; have HVS := hid hvs; have HB4 := hid hb4; obtain ⟨_, _, _, k33, f33⟩ := HW.out.lv.grown (grown_undrew hg3) HNE.out HW.out.lt; obtain ⟨_, _, _, ka3, fa3⟩ := (HW.out.lv.grown (grown_undrew hg3) HNE.out HW.out.lt).below ((Below.refl (kv + 1) w3).alloc (by have := HW.out.lt; have := (grown_undrew hg3).size; omega) (.cells #[.int .i64 k', .int .i64 n', .string s', .slice p' len' cap'] 24)); obtain ⟨_, _, _, k43, f43⟩ := (HW.out.lv.grown (grown_undrew hg3) HNE.out HW.out.lt).below hb4; clear hm happ hvs hb4))
          all_goals
            obtain ⟨n1, hn1⟩ := HM.out
            have HNX := hid (HW.out.stop hlt HPV.out (grown_undrew hg3) hn1 HB4.out (p := some ⟨g, 0, none⟩) (len := i + 1) (cap := cap2))
            clear hn1
            go_wp2
            go_roundg (u - (i + 1))
            case measure => omega
            case rel => exact ⟨i + 1, rfl, by omega, by go_num, .inr ⟨_, HNX.out⟩⟩
        | some x =>
          obtain ⟨t, r1⟩ := x
          have HPV := hid hp; clear hp
          go_wp2_with fail
          go_region_law (first | (refine step_append_run rfl (.tmp 129) (.tmp 134) 22 22 rfl _ _ _ rfl rfl HAPP.out ?_) | (go_simp; go_at_call 30; rw [HWL.out]; refine (HV.out _ b L n (lev + 1) (by omega) (show RR wr.drew b L n false from HW.out.rr)).mono ?_; rintro e w3 ⟨hg3, v3, rfl, ⟨k', n', s', p', len', cap', rfl⟩, hm⟩; rw [HPV.out] at hm; have HM := hid hm; obtain ⟨g, cap2, w4, happ, hvs, hb4⟩ := HW.out.app (k' := k') (n' := n') (s := s') (p := p') (len := len') (cap := cap') (by have := HU.out; omega) (grown_undrew hg3); have HAPP := hid happ; have HVS := hid hvs; have HB4 := hid hb4; obtain ⟨_, _, _, k33, f33⟩ := HW.out.lv.grown (grown_undrew hg3) HNE.out HW.out.lt; obtain ⟨_, _, _, ka3, fa3⟩ := (HW.out.lv.grown (grown_undrew hg3) HNE.out HW.out.lt).below ((Below.refl (kv + 1) w3).alloc (by have := HW.out.lt; have := (grown_undrew hg3).size; omega) (.cells #[.int .i64 k', .int .i64 n', .string s', .slice p' len' cap'] 24)); obtain ⟨_, _, _, k43, f43⟩ := (HW.out.lv.grown (grown_undrew hg3) HNE.out HW.out.lt).below hb4; clear hm happ hvs hb4))
          all_goals
            obtain ⟨n1, hd1, hn1, ha1⟩ := HM.out
            have HNX := hid (HW.out.next hlt (by rw [hd1]; exact HPV.out) (grown_undrew hg3) hn1 HB4.out (HVS.out t ha1))
            clear hd1 hn1 ha1
            go_wp2
            go_roundg (u - (i + 1))
            case measure => omega
            case rel => exact ⟨i + 1, rfl, by omega, by go_num, .inl ⟨_, _, _, HNX.out⟩⟩
      · obtain rfl : i = u := by omega
        obtain ⟨⟨z0, z1, z2, z3⟩, f0, f1, f2, f3⟩ := HW.out.zed.cells
        go_wp2
        refine bodyPost_ret (v := .agg #[.int .i64 3, .int .i64 0, .string ⟨#[]⟩, .slice p i cap]) (by simp [results, Try.results30, go_sem, z0, z1, z2, z3]) rfl ?_
        have hm := HW.out.more
        rw [Nat.sub_self] at hm
        have h1 := HW.out.new
        refine OutW.good (t := T.mk 3 0 ⟨#[]⟩ ts) (r := L.drop n) (n := n) (by rw [HO.out, hm.stop]; rfl) HW.out.grown HW.out.rr rfl (Nat.le_refl _) hb ?_
        refine AtP.kept (fun k hk => And.intro (And.intro (by omega) ?_) ?_) (HW.out.vs.at (P := fun k => kv + 1 ≤ k ∧ k < wr.heap.size) (fun k h1 h2 => ⟨h1, h2⟩))
        · exact Nat.lt_of_lt_of_le hk.2 (put4_below wr w.heap.size (.int .i64 3) (.int .i64 0) (.string ⟨#[]⟩) (.slice p i cap)).size
        · exact put4at_block wr w.heap.size 0 _ _ _ _ k (by have := hk.1; omega)
    · obtain ⟨p, len', cap, rfl⟩ := hx.shp
      obtain ⟨n, hrx⟩ := hx.rr
      have HX := hid hx
      have hb2 := hrx.2.2.2.2.2.2.1
      obtain ⟨l0, l1, l2, l3, l4⟩ := hx.lv
      obtain ⟨⟨z0, z1, z2, z3⟩, f0, f1, f2, f3⟩ := hx.zed.cells
      have HRX := hid hrx
      clear hx hrx
      by_cases hlt : i < u
      · go_wp2
        refine bodyPost_ret (v := .agg #[.int .i64 3, .int .i64 0, .string ⟨#[]⟩, .slice p len' cap]) (by simp [results, Try.results30, go_sem, z0, z1, z2, z3]) rfl ?_
        exact OutW.bad (by rw [HO.out, HX.out.none]; rfl) HX.out.grown HRX.out (Nat.le_refl _) hb
      · go_wp2
        refine bodyPost_ret (v := .agg #[.int .i64 3, .int .i64 0, .string ⟨#[]⟩, .slice p len' cap]) (by simp [results, Try.results30, go_sem, z0, z1, z2, z3]) rfl ?_
        exact OutW.bad (by rw [HO.out, HX.out.none]; rfl) HX.out.grown HRX.out (Nat.le_refl _) hb
end Go.Proofs.Ytiklpimnmbjenaa

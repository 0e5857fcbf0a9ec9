/- Contract: At of the reference. -/
import Derived.Test.YtbejjindkcjecaaA19key
import Derived.Test.YtbejjindkcjecaaA19neg
namespace Go.Proofs.Ytbejjindkcjecaa
open Go.RowKit Go
set_option linter.unusedVariables false
set_option linter.unusedSimpArgs false
/-- where the best one stands -/
def BI (k : KE) (t q : Int) (L : List FA) (i : Nat) (bi : Int) : Prop := (bi = -1 ∧ F7.best k t q (L.take i) = none) ∨ ∃ (j : Nat) (g : FA), bi = j ∧ L[j]? = some g ∧ F7.best k t q (L.take i) = some g
theorem bi_miss {k : KE} {t q : Int} {L : List FA} {i : Nat} {bi : Int} {f : FA} (hf : L[i]? = some f) (h : BI k t q L i bi) (hh : ¬ F7.hit k t q f) : BI k t q L (i + 1) bi := by
  unfold BI at *
  rw [take_snoc hf, F7.best_snoc, if_neg hh]
  exact h
set_option maxRecDepth 100000 in
set_option maxHeartbeats 8000000 in
theorem refAt_any (v : Value) (L : List FA) (k : KE) (t q : Int) (w : World) (hv : FS w v L) (hL : L.length ≤ 1000000) :
    Calls Try.prog 19 #[v, KV k, .int .i64 t, .int .i64 q] w fun e w' => e = .returned (.tuple #[.int .i64 (F7.val k t q L).1, .bool (F7.val k t q L).2]) ∧ Below w.heap.size w w' := by
  obtain ⟨p, c, hf⟩ := hv.form
  obtain ⟨n, hn⟩ : ∃ n, n = L.length := ⟨_, rfl⟩
  rw [← hn] at hf hL
  subst hf
  have hc1 := hv.cap.2.1
  have hc2 := hv.cap.2.2
  unfold maxLen at hc2
  have HCP := hid (show n ≤ c ∧ c ≤ 9223372036854775807 from ⟨hc1, by omega⟩)
  have HR := hid (show FR p w.heap.size L w from hv.gr 8 fc_len (by omega))
  have HN := hid hn
  clear hv hn hc2
  obtain ⟨k0, k1, k2⟩ := k
  obtain ⟨Y, hY⟩ : ∃ Z, Z = w.alloc (.cells #[.int .i64 k0, .int .i64 k1, .int .i64 k2] 24) := ⟨_, rfl⟩
  have HY := hid (show Below w.heap.size w Y from by rw [hY]; exact (Below.refl _ w).alloc (Nat.le_refl _) _)
  have bK : Blk Y w.heap.size 24 (kc (k0, k1, k2)) := by rw [hY]; exact Blk.new w 24 (kc (k0, k1, k2))
  have HBK := hid bK
  have HKC := hid (fun (W : World) (hW : Below Y.heap.size Y W) => show W.cell? ⟨w.heap.size, 0, none⟩ = some (.int .i64 k0) ∧ W.cell? ⟨w.heap.size, 1, none⟩ = some (.int .i64 k1) ∧ W.cell? ⟨w.heap.size, 2, none⟩ = some (.int .i64 k2) from ⟨(HBK.out.below hW HBK.out.lt).cell 0 _ rfl, (HBK.out.below hW HBK.out.lt).cell 1 _ rfl, (HBK.out.below hW HBK.out.lt).cell 2 _ rfl⟩)
  have HG := hid (show Try.prog.eqGuardType Try.prog.depth 24 = false by kernel_rfl)
  obtain ⟨Bk, hBk⟩ : ∃ x, x = w.heap.size := ⟨_, rfl⟩
  rw [← hBk] at HKC
  clear bK HBK
  go_enter Try.func19, Try.ntmps19
  go_upto_region 1 with fail
  rw [← hY, ← hBk]
  clear hY hBk
  go_wp2
  go_loopw [10, 11] (fun bb ii wr => ∃ (i : Nat) (bi : Int), i ≤ n ∧ ii = .int .i64 i ∧ bb = .int .i64 bi ∧ Below Y.heap.size Y wr ∧ Hid (BI (k0, k1, k2) t q L i bi)) (fun _ ii _ => n - (intOf ii).toNat)
  case atStart => exact ⟨0, -1, by omega, rfl, rfl, Below.refl _ _, hid (.inl ⟨rfl, rfl⟩)⟩
  case round =>
    obtain ⟨i, bi, hi, rfl, rfl, hbw, hbi⟩ := hrel
    have HBW := hid hbw
    have HWW := hid (HY.out.trans (hbw.mono HY.out.size))
    clear hbw
    have HCL := hid (fun (j : Nat) (g : FA) (hj : L[j]? = some g) => by
      have := GR.at8 (HR.out.up HWW.out) hj
      exact this)
    by_cases hlt : i < n
    · obtain ⟨f, hf⟩ := get_lt (l := L) (i := i) (by rw [← HN.out]; exact hlt)
      obtain ⟨b, o, rfl, hbl, y0, y1, y2, y3, y4, y5, y6, y7⟩ := HCL.out i f hf
      have HKE := hid (fun w => show (Op.equalIn 10000 24 (.agg #[.int .i64 f.kind, .int .i64 f.subj, .int .i64 f.obj]) (KV (k0, k1, k2))).run Try.prog w = _ from key_eq f.key (k0, k1, k2) w)
      have HMI := hid (fun h => bi_miss hf hbi.out h)
      have HF0 := hid hf
      clear hf
      go_upto_region 6 with fail
      obtain ⟨Z, hZ⟩ : ∃ Z, Z = wr.alloc (.cells #[.int .i64 f.kind, .int .i64 f.subj, .int .i64 f.obj, .int .i64 f.val, .int .i64 f.frm, .int .i64 f.to, .int .i64 f.known, .int .i64 f.no] 28) := ⟨_, rfl⟩
      have HAL := hid (show Below wr.heap.size wr Z from by rw [hZ]; exact (Below.refl _ _).alloc (Nat.le_refl _) _)
      have bF : Blk Z wr.heap.size 28 (fc f) := by rw [hZ]; exact Blk.new wr 28 (fc f)
      obtain ⟨Bx, hBx⟩ : ∃ x, x = wr.heap.size := ⟨_, rfl⟩
      rw [← hBx] at bF
      have HBF := hid bF
      have HA := hid (fun (W : World) (hW : Below Z.heap.size Z W) => show At8 W Bx 0 f from ⟨(HBF.out.below hW HBF.out.lt).cell 0 _ rfl, (HBF.out.below hW HBF.out.lt).cell 1 _ rfl, (HBF.out.below hW HBF.out.lt).cell 2 _ rfl, (HBF.out.below hW HBF.out.lt).cell 3 _ rfl, (HBF.out.below hW HBF.out.lt).cell 4 _ rfl, (HBF.out.below hW HBF.out.lt).cell 5 _ rfl, (HBF.out.below hW HBF.out.lt).cell 6 _ rfl, (HBF.out.below hW HBF.out.lt).cell 7 _ rfl⟩)
      have HKC2 := hid (fun (W : World) (hW : Below Z.heap.size Z W) => HKC.out W (below_t HBW.out (below_t HAL.out hW)))
      have HCB := hid (fun (j : Nat) (g : FA) (hj : L[j]? = some g) (W : World) (hW : Below Z.heap.size Z W) => show At8 W b (o + j * 8) g from by
        have hwW : Below w.heap.size w W := HWW.out.trans ((below_t HAL.out hW).mono HWW.out.size)
        obtain ⟨b', o', e', hl', z0, z1, z2, z3, z4, z5, z6, z7⟩ := GR.at8 (HR.out.up hwW) hj
        injection e' with e'
        injection e' with e1 e2 e3
        subst e1; subst e2
        exact ⟨z0, z1, z2, z3, z4, z5, z6, z7⟩)
      have HT := hid (Below.refl Z.heap.size Z)
      rw [← hZ, ← hBx]
      clear hZ hBx bF HBF y0 y1 y2 y3 y4 y5 y6 y7 hbl HCL
      by_cases d1 : f.key = (k0, k1, k2)
      · rw [show decide (f.key = (k0, k1, k2)) = true from decide_eq_true d1] at HKE
        by_cases d2 : f.frm ≤ t
        · by_cases d3 : t < f.to
          · by_cases d4 : f.known ≤ q
            · have hh : F7.hit (k0, k1, k2) t q f := ⟨d1, d2, d3, d4⟩
              have HF := hid d2; have HTT := hid d3; have HQ := hid d4
              clear d1 d2 d3 d4 HMI
              rcases hbi.out with ⟨rfl, hb⟩ | ⟨j, g, rfl, hj, hb⟩
              · have HM1 := hid (show BI (k0, k1, k2) t q L (i + 1) i from .inr ⟨i, f, rfl, HF0.out, by rw [take_snoc HF0.out, F7.best_snoc, if_pos hh, hb]; rfl⟩)
                clear hb hh hbi
                refine A19neg (Z := Z) HT HA HKC2 HG HCP HKE HF HTT HQ (fun W' hT' => ?_)
                have HT := hid hT'
                clear hT'
                go_wp2
                go_roundw
                case rel => exact ⟨i + 1, _, by omega, by go_num, rfl, below_t HBW.out (below_t HAL.out HT.out), HM1⟩
                case measure => simp [intOf]; omega
              · have HB := hid (HCB.out j g hj)
                have HJL := hid (show j < n by rw [HN.out]; exact (List.getElem?_eq_some_iff.1 hj).1)
                have B1 := hid (fun W => before_any f g W)
                by_cases e1 : F7.bef f g
                · rw [show decide (F7.bef f g) = true from decide_eq_true e1] at B1
                  have HM1 := hid (show BI (k0, k1, k2) t q L (i + 1) j from .inr ⟨j, g, rfl, hj, by rw [take_snoc HF0.out, F7.best_snoc, if_pos hh, hb]; exact if_pos e1⟩)
                  clear hb hh hbi hj e1
                  refine A19bef (Z := Z) HT HA HKC2 HG HCP HKE HF HTT HQ HB HJL B1 (fun W' hT' => ?_)
                  have HT := hid hT'
                  clear hT'
                  go_wp2
                  go_roundw
                  case rel => exact ⟨i + 1, _, by omega, by go_num, rfl, below_t HBW.out (below_t HAL.out HT.out), HM1⟩
                  case measure => simp [intOf]; omega
                · rw [show decide (F7.bef f g) = false from decide_eq_false e1] at B1
                  have HM1 := hid (show BI (k0, k1, k2) t q L (i + 1) i from .inr ⟨i, f, rfl, HF0.out, by rw [take_snoc HF0.out, F7.best_snoc, if_pos hh, hb]; exact if_neg e1⟩)
                  clear hb hh hbi hj e1
                  refine A19nbef (Z := Z) HT HA HKC2 HG HCP HKE HF HTT HQ HB HJL B1 (fun W' hT' => ?_)
                  have HT := hid hT'
                  clear hT'
                  go_wp2
                  go_roundw
                  case rel => exact ⟨i + 1, _, by omega, by go_num, rfl, below_t HBW.out (below_t HAL.out HT.out), HM1⟩
                  case measure => simp [intOf]; omega
            · have HF := hid d2; have HTT := hid d3; have HQ := hid d4
              have HM1 := hid (HMI.out (fun h => d4 h.2.2.2))
              clear d1 d2 d3 d4 HMI hbi
              refine A19known (Z := Z) HT HA HKC2 HG HCP HKE HF HTT HQ (fun W' hT' => ?_)
              have HT := hid hT'
              clear hT'
              go_wp2
              go_roundw
              case rel => exact ⟨i + 1, _, by omega, by go_num, rfl, below_t HBW.out (below_t HAL.out HT.out), HM1⟩
              case measure => simp [intOf]; omega
          · have HF := hid d2; have HTT := hid d3
            have HM1 := hid (HMI.out (fun h => d3 h.2.2.1))
            clear d1 d2 d3 HMI hbi
            refine A19to (Z := Z) HT HA HKC2 HG HCP HKE HF HTT (fun W' hT' => ?_)
            have HT := hid hT'
            clear hT'
            go_wp2
            go_roundw
            case rel => exact ⟨i + 1, _, by omega, by go_num, rfl, below_t HBW.out (below_t HAL.out HT.out), HM1⟩
            case measure => simp [intOf]; omega
        · have HF := hid d2
          have HM1 := hid (HMI.out (fun h => d2 h.2.1))
          clear d1 d2 HMI hbi
          refine A19frm (Z := Z) HT HA HKC2 HG HCP HKE HF (fun W' hT' => ?_)
          have HT := hid hT'
          clear hT'
          go_wp2
          go_roundw
          case rel => exact ⟨i + 1, _, by omega, by go_num, rfl, below_t HBW.out (below_t HAL.out HT.out), HM1⟩
          case measure => simp [intOf]; omega
      · rw [show decide (f.key = (k0, k1, k2)) = false from decide_eq_false d1] at HKE
        have HM1 := hid (HMI.out (fun h => d1 h.1))
        clear d1 HMI hbi
        refine A19key (Z := Z) HT HA HKC2 HG HCP HKE (fun W' hT' => ?_)
        have HT := hid hT'
        clear hT'
        go_wp2
        go_roundw
        case rel => exact ⟨i + 1, _, by omega, by go_num, rfl, below_t HBW.out (below_t HAL.out HT.out), HM1⟩
        case measure => simp [intOf]; omega
    · have htk : L.take i = L := by rw [List.take_of_length_le]; have := HN.out; omega
      have hbi2 := hbi.out
      unfold BI at hbi2
      rw [htk] at hbi2
      rcases hbi2 with ⟨rfl, hb⟩ | ⟨j, g, rfl, hj, hb⟩
      · have HVL := hid (show F7.val (k0, k1, k2) t q L = (0, false) by unfold F7.val; rw [hb])
        clear hb hbi htk
        go_wp2
        go_ret2
        exact ⟨by rw [HVL.out]; rfl, HWW.out⟩
      · obtain ⟨b, o, rfl, hbl, y0, y1, y2, y3, y4, y5, y6, y7⟩ := HCL.out j g hj
        have hjl : j < n := by rw [HN.out]; exact (List.getElem?_eq_some_iff.1 hj).1
        have hval : F7.val (k0, k1, k2) t q L = if g.val < 0 then (0, false) else (g.val, true) := by unfold F7.val; rw [hb]
        by_cases hneg : g.val < 0
        · rw [if_pos hneg] at hval
          have HVL := hid hval
          clear hb hbi htk hval hj
          go_wp2
          go_ret2
          exact ⟨by rw [HVL.out]; rfl, HWW.out⟩
        · rw [if_neg hneg] at hval
          have HVL := hid hval
          clear hb hbi htk hval hj
          go_wp2
          go_ret2
          exact ⟨by rw [HVL.out]; rfl, HWW.out⟩
end Go.Proofs.Ytbejjindkcjecaa

/- The law Points, walked. -/
import Derived.Test.YtbejjindkcjecaaL2
import Derived.Test.YtbejjindkcjecaaWup
import Derived.Test.YtbejjindkcjecaaSane
import Derived.Laws.Bits128
namespace Go.Proofs.Ytbejjindkcjecaa
open Go.RowKit Go
set_option linter.unusedVariables false
set_option linter.unusedSimpArgs false
theorem and31 (n : Int) : bits .and .i64 n 31 = n % 32 := by
  have h31 : (BitVec.ofInt 64 31).toNat = 2 ^ 5 - 1 := by decide
  have key : (BitVec.ofInt 64 n &&& BitVec.ofInt 64 31).toNat = (n % ((2 ^ 64 : Nat) : Int)).toNat % 2 ^ 5 := by
    rw [BitVec.toNat_and, BitVec.toNat_ofInt, h31, Nat.and_two_pow_sub_one_eq_mod]
  show IntKind.i64.wrap ((BitVec.ofInt 64 n &&& BitVec.ofInt 64 31).toNat : Nat) = n % 32
  rw [key, IntKind.wrap_i64]
  omega
/-- a point, where the term has one -/
def upf (k : KE) (a b q : Int) (L : List FA) (t : Nat) : Option (Int × Int) := if a ≤ (t : Int) ∧ (t : Int) < b ∧ (F7.val k t q L).2 = true then some ((t : Int), (F7.val k t q L).1) else none
/-- the points in the terms below n -/
def upt (k : KE) (a b q : Int) (L : List FA) (n : Nat) : List (Int × Int) := (List.range n).filterMap (upf k a b q L)
theorem upt_succ (k : KE) (a b q : Int) (L : List FA) (n : Nat) : upt k a b q L (n + 1) = upt k a b q L n ++ (match upf k a b q L n with | none => [] | some x => [x]) := by
  unfold upt
  rw [List.range_succ, List.filterMap_append]
  congr 1
  cases h : upf k a b q L n <;> simp [h]
theorem upt_all (k : KE) (a b q : Int) (L : List FA) : upt k a b q L 1024 = F7.points k a b q L := rfl
theorem upt_le (k : KE) (a b q : Int) (L : List FA) : ∀ d n, ∃ r, upt k a b q L (n + d) = upt k a b q L n ++ r
  | 0, n => ⟨[], by simp⟩
  | d + 1, n => by
    obtain ⟨r, hr⟩ := upt_le k a b q L d n
    rw [show n + (d + 1) = (n + d) + 1 from rfl, upt_succ, hr]
    exact ⟨_, by rw [List.append_assoc]⟩
theorem upt_at {k : KE} {a b q : Int} {L : List FA} {n : Nat} {x : Int × Int} (hn : n < 1024) (h : upf k a b q L n = some x) : (F7.points k a b q L)[(upt k a b q L n).length]? = some x ∧ (upt k a b q L (n + 1)).length = (upt k a b q L n).length + 1 := by
  obtain ⟨r, hr⟩ := upt_le k a b q L (1024 - (n + 1)) (n + 1)
  rw [show n + 1 + (1024 - (n + 1)) = 1024 by omega, upt_all, upt_succ, h] at hr
  refine ⟨?_, by rw [upt_succ, h]; simp⟩
  rw [hr]
  simp
theorem upt_no {k : KE} {a b q : Int} {L : List FA} {n : Nat} (h : upf k a b q L n = none) : (upt k a b q L (n + 1)).length = (upt k a b q L n).length := by rw [upt_succ, h]; simp
theorem upt_len (k : KE) (a b q : Int) (L : List FA) (n : Nat) : (upt k a b q L n).length ≤ n := by
  unfold upt
  exact Nat.le_trans (List.length_filterMap_le _ _) (by simp)
set_option maxRecDepth 100000 in
set_option maxHeartbeats 32000000 in
theorem points_law (v : Value) (L : List FA) (k : KE) (a b q : Int) (w : World) (hv : FS w v L) (hwf : WF L) : Calls Try.prog 10 #[v, KV k, .int .i64 a, .int .i64 b, .int .i64 q] w fun e w' => e = .returned (.bool true) ∧ Below w.heap.size w w' := by
  obtain ⟨p, c, hf⟩ := hv.form
  obtain ⟨n, hn⟩ : ∃ n, n = L.length := ⟨_, rfl⟩
  rw [← hn] at hf
  subst hf
  have HV := hid hv; have HN := hid hn; have HWF := hid hwf
  have hc1 := hv.cap.2.1
  have hc2 := hv.cap.2.2
  unfold maxLen at hc2
  have HCP := hid (show n ≤ c ∧ c ≤ 9223372036854775807 from ⟨hc1, by omega⟩)
  have SA := hid sane_any
  have FEW := hid (fun W (h : Below w.heap.size w W) => few_any _ L W (HV.out.ups h))
  rw [← hn] at FEW
  clear hv hn hwf hc1 hc2
  obtain ⟨k0, k1, k2⟩ := k
  obtain ⟨Z, hZ⟩ : ∃ Z, Z = w.alloc (.cells #[.int .i64 k0, .int .i64 k1, .int .i64 k2] 24) := ⟨_, rfl⟩
  have HZ := hid (show Below w.heap.size w Z from by rw [hZ]; exact (Below.refl _ w).alloc (Nat.le_refl _) _)
  have bK : Blk Z w.heap.size 24 (kc (k0, k1, k2)) := by rw [hZ]; exact Blk.new w 24 (kc (k0, k1, k2))
  have HBK := hid bK
  clear bK
  go_enter Try.func10, Try.ntmps10
  go_upto_region 1 with fail
  rw [← hZ]
  clear hZ
  go_wp2_with fail
  refine (SA.out _).mono ?_
  rintro e wn ⟨rfl, hb⟩
  have HT := hid hb
  clear hb
  go_wp2_with fail
  refine (FEW.out _ (HZ.out.trans (HT.out.mono HZ.out.size))).mono ?_
  rintro e wn ⟨rfl, hb⟩
  have HT := hid (below_t HT.out hb)
  clear hb
  by_cases hfew : n ≤ 30
  · rw [show decide (n ≤ 30) = true from decide_eq_true hfew]
    have hwW : Below w.heap.size w wn := HZ.out.trans (HT.out.mono HZ.out.size)
    have bK2 := HBK.out.below HT.out HBK.out.lt
    have HF30 := hid hfew
    go_upto_if 23 with fail
    go_cut [] (fun wx => ∃ K : KE, Hid (Blk wx w.heap.size 24 (kc K)) ∧ Hid (Below w.heap.size w wx))
    case first =>
      by_cases hn0 : 0 < n
      · obtain ⟨b, o, rfl⟩ : ∃ b o, p = some ⟨b, o, none⟩ := by
          obtain ⟨f, hf⟩ := get_lt (l := L) (i := 0) (by rw [← HN.out]; exact hn0)
          have hr : FR p w.heap.size L w := HV.out.gr 8 fc_len (by omega)
          obtain ⟨b, o, e, _⟩ := GR.at8 hr hf
          exact ⟨b, o, e⟩
        obtain ⟨jx, hjx, hjn⟩ : ∃ jx : Nat, (k1 % 32).tmod (n : Int) = (jx : Int) ∧ jx < n := by
          refine ⟨((k1 % 32).tmod (n : Int)).toNat, ?_, ?_⟩
          · rw [Int.tmod_eq_emod_of_nonneg (by omega)]
            have := Int.emod_nonneg (k1 % 32) (show (n : Int) ≠ 0 by omega)
            omega
          · rw [Int.tmod_eq_emod_of_nonneg (by omega)]
            have := Int.emod_nonneg (k1 % 32) (show (n : Int) ≠ 0 by omega)
            have := Int.emod_lt_of_pos (k1 % 32) (show (0 : Int) < (n : Int) by omega)
            omega
        have hand := and31 k1
        obtain ⟨m, hm⟩ : ∃ m, m = k1 % 32 := ⟨_, rfl⟩
        rw [← hm] at hjx hand
        clear hm
        obtain ⟨F, hF⟩ := get_lt (l := L) (i := jx) (by rw [← HN.out]; exact hjn)
        have hcells : ∀ i f, L[i]? = some f → ∀ W, Below w.heap.size w W → At8 W b (o + i * 8) f := fun i f hi W hW => by
          have hr : FR (some ⟨b, o, none⟩) w.heap.size L w := HV.out.gr 8 fc_len (by omega)
          obtain ⟨b', o', e', hl, y0, y1, y2, y3, y4, y5, y6, y7⟩ := GR.at8 (hr.up hW) hi
          injection e' with e'
          injection e' with e1 e2 e3
          subst e1; subst e2
          exact ⟨y0, y1, y2, y3, y4, y5, y6, y7⟩
        obtain ⟨y0, y1, y2, y3, y4, y5, y6, y7⟩ := hcells jx F hF wn hwW
        have kk0 := bK2.cell 0 _ rfl; have kk1 := bK2.cell 1 _ rfl; have kk2 := bK2.cell 2 _ rfl
        have kf0 := bK2.frozen 0; have kf1 := bK2.frozen 1; have kf2 := bK2.frozen 2
        clear hcells hF
        have hcp := HCP.out.1
        have h0d : decide ((0 : Int) < (n : Int)) = true := decide_eq_true (by omega)
        have h0n : decide (0 < n) = true := decide_eq_true hn0
        go_wp2_with fail
        go_meet
        exact ⟨(F.kind, F.subj, F.obj), hid (((bK2.set 0 _).set 1 _).set 2 _), hid (((hwW.setCell (p := ⟨w.heap.size, 0, none⟩) (Nat.le_refl _) _).setCell (p := ⟨w.heap.size, 1, none⟩) (Nat.le_refl _) _).setCell (p := ⟨w.heap.size, 2, none⟩) (Nat.le_refl _) _)⟩
      · obtain rfl : n = 0 := by omega
        go_wp2_with fail
        go_meet
        exact ⟨(k0, k1, k2), hid bK2, hid hwW⟩
    case rest =>
      obtain ⟨⟨K0, K1, K2⟩, hK, hB⟩ := hcut
      obtain ⟨Bk, hBk⟩ : ∃ x, x = w.heap.size := ⟨_, rfl⟩
      rw [← hBk] at hK ⊢
      obtain ⟨Z, hZZ⟩ : ∃ Z, Z = wc := ⟨_, rfl⟩
      rw [← hZZ] at hK hB ⊢
      have HKC := hid (fun (W : World) (hW : Below Z.heap.size Z W) => show W.cell? ⟨Bk, 0, none⟩ = some (.int .i64 K0) ∧ W.cell? ⟨Bk, 1, none⟩ = some (.int .i64 K1) ∧ W.cell? ⟨Bk, 2, none⟩ = some (.int .i64 K2) from ⟨(hK.out.below hW hK.out.lt).cell 0 _ rfl, (hK.out.below hW hK.out.lt).cell 1 _ rfl, (hK.out.below hW hK.out.lt).cell 2 _ rfl⟩)
      have hL : L.length ≤ 30 := by rw [← HN.out]; exact HF30.out
      have AT := hid (fun (t : Int) (W : World) (hW : Below Z.heap.size Z W) => at_any (.slice p n c) L (K0, K1, K2) t q W (HV.out.ups (hB.out.trans (hW.mono hB.out.size))) HWF.out)
      have PT := hid (points_any2 (.slice p n c) L (K0, K1, K2) a b q Z (HV.out.ups hB.out) (by omega) (Nat.le_trans (List.length_filter_le _ _) (by omega)))
      have HB := hid hB.out
      have HWE := hid hBk
      clear hBk hZZ hK hB hwW bK2 HT HBK HZ FEW SA HV HWF HCP hL hfew HN HF30
      obtain ⟨u0, u1, u2⟩ := HKC.out _ (Below.refl _ _)
      go_wp2_with fail
      refine PT.out.mono ?_
      rintro e wa ⟨pv, rfl, hps, hba⟩
      clear u0 u1 u2 PT
      obtain ⟨pp, cpp, hpv⟩ := hps.form
      subst hpv
      obtain ⟨lp, hlp⟩ : ∃ lp, lp = (F7.points (K0, K1, K2) a b q L).length := ⟨_, rfl⟩
      have hpr : PR pp wa.heap.size (F7.points (K0, K1, K2) a b q L) wa := hps.gr 2 pc_len (by omega)
      have HPR := hid (fun (W : World) (hW : Below wa.heap.size wa W) => hpr.up hW)
      rw [← hlp]
      have HLP := hid hlp
      have hlp1 : lp ≤ 1024 := by
        have := upt_len (K0, K1, K2) a b q L 1024
        rw [upt_all] at this; omega
      have HBA := hid hba
      clear hba hps hpr hlp
      go_wp2_with fail
      go_loopw [12, 13] (fun nn tt wr => ∃ t : Nat, t ≤ 1024 ∧ tt = .int .i64 t ∧ nn = .int .i64 ((upt (K0, K1, K2) a b q L t).length : Nat) ∧ Hid (Below wa.heap.size wa wr)) (fun _ tt _ => 1024 - (intOf tt).toNat)
      case atStart => exact ⟨0, by omega, rfl, rfl, hid (Below.refl _ _)⟩
      case round =>
        obtain ⟨t, ht, rfl, rfl, hbl⟩ := hrel
        by_cases hlt : t < 1024
        · have hltz : (t : Int) < 1024 := by omega
          have HTZ := hid (below_t HBA.out hbl.out)
          obtain ⟨u0, u1, u2⟩ := HKC.out _ HTZ.out
          have AT1 := hid (AT.out (t : Int) _ HTZ.out)
          obtain ⟨vv, hvv⟩ : ∃ x, x = F7.val (K0, K1, K2) (t : Int) q L := ⟨_, rfl⟩
          rw [← hvv] at AT1
          obtain ⟨v1, v2⟩ := vv
          have HVV := hid hvv
          obtain ⟨m, hm⟩ : ∃ m, m = (upt (K0, K1, K2) a b q L t).length := ⟨_, rfl⟩
          have hmt : m ≤ t := by rw [hm]; exact upt_len _ _ _ _ _ _
          rw [← hm]
          have HM := hid hm
          clear hvv hm
          go_wp2_with fail
          refine AT1.out.mono ?_
          rintro e wn ⟨rfl, hb⟩
          have hbl := hid (below_t hbl.out hb)
          clear hb AT1 u0 u1 u2 HTZ
          by_cases hin : v2 = true ∧ a ≤ (t : Int) ∧ (t : Int) < b
          · obtain ⟨rfl, h1, h2⟩ := hin
            have hup : upf (K0, K1, K2) a b q L t = some ((t : Int), v1) := by
              unfold upf; rw [← HVV.out]; rw [if_pos ⟨h1, h2, rfl⟩]
            obtain ⟨hat, hsuc⟩ := upt_at hlt hup
            rw [← HM.out] at hat hsuc
            have hml : m < lp := by rw [HLP.out]; exact (List.getElem?_eq_some_iff.1 hat).1
            obtain ⟨bp, op, rfl, hbp, x0, x1⟩ := (HPR.out _ hbl.out).at2 hat
            have HREL := hid hsuc
            have g1 : ¬ ((t : Int) < a) := by omega
            have g2 : ¬ (b ≤ (t : Int)) := by omega
            have g3 : ¬ ((lp : Int) ≤ (m : Int)) := by omega
            have g4 : decide ((lp : Int) ≤ (m : Int)) = false := decide_eq_false g3
            have g5 : decide ((t : Int) < a) = false := decide_eq_false g1
            have g6 : decide (b ≤ (t : Int)) = false := decide_eq_false g2
            clear hat hsuc hup hbp hml
            go_wp2_with fail
            go_roundw
            case rel => exact ⟨t + 1, by omega, by go_num, by rw [HREL.out]; go_num, hbl⟩
            case measure => simp [intOf]; omega
          · have hup : upf (K0, K1, K2) a b q L t = none := by
              unfold upf; rw [← HVV.out]; rw [if_neg]; rintro ⟨h1, h2, h3⟩; exact hin ⟨h3, h1, h2⟩
            have hsuc := upt_no hup
            rw [← HM.out] at hsuc
            have HREL := hid hsuc
            clear hsuc hup
            cases v2 with
            | false =>
              clear hin
              go_wp2_with fail
              go_roundw
              case rel => exact ⟨t + 1, by omega, by go_num, by rw [HREL.out], hbl⟩
              case measure => simp [intOf]; omega
            | true =>
              by_cases h1 : (t : Int) < a
              · have g5 : decide ((t : Int) < a) = true := decide_eq_true h1
                clear hin
                go_wp2_with fail
                go_roundw
                case rel => exact ⟨t + 1, by omega, by go_num, by rw [HREL.out], hbl⟩
                case measure => simp [intOf]; omega
              · have g5 : decide ((t : Int) < a) = false := decide_eq_false h1
                have h2 : b ≤ (t : Int) := by
                  refine Int.not_lt.1 fun h => hin ⟨rfl, by omega, h⟩
                have g6 : decide (b ≤ (t : Int)) = true := decide_eq_true h2
                clear hin
                go_wp2_with fail
                go_roundw
                case rel => exact ⟨t + 1, by omega, by go_num, by rw [HREL.out], hbl⟩
                case measure => simp [intOf]; omega
        · obtain rfl : t = 1024 := by omega
          have HE := hid (show (upt (K0, K1, K2) a b q L 1024).length = lp by rw [upt_all, HLP.out])
          rw [HE.out]
          rw [show ((1024 : Nat) : Int) = 1024 from rfl]
          have HBB := hid (show Below w.heap.size w wr from HB.out.trans ((HBA.out.trans (hbl.out.mono HBA.out.size)).mono HB.out.size))
          clear AT HKC HPR
          go_wp2_with fail
          go_ret
          exact ⟨by simp, HBB.out⟩
  · have h30 : ¬ n ≤ 30 := hfew
    rw [show decide (n ≤ 30) = false from decide_eq_false hfew]
    have HB := hid (HZ.out.trans (HT.out.mono HZ.out.size))
    go_wp2_with fail
    go_ret
    exact ⟨rfl, HB.out⟩
end Go.Proofs.Ytbejjindkcjecaa

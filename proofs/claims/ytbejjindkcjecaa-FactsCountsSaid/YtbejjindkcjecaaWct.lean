/- The law Counts: its loops, over a key that the box holds. -/
import Derived.Test.YtbejjindkcjecaaWup
import Derived.Test.YtbejjindkcjecaaRefA
import Derived.Laws.Bits128
import Derived.Test.YtbejjindkcjecaaC12key
import Derived.Test.YtbejjindkcjecaaC12frm
import Derived.Test.YtbejjindkcjecaaC12to
import Derived.Test.YtbejjindkcjecaaC12known
import Derived.Test.YtbejjindkcjecaaC12hit
import Derived.Test.YtbejjindkcjecaaC17key
import Derived.Test.YtbejjindkcjecaaC17frm
import Derived.Test.YtbejjindkcjecaaC17to
import Derived.Test.YtbejjindkcjecaaC17known
import Derived.Test.YtbejjindkcjecaaC17b1
import Derived.Test.YtbejjindkcjecaaC17le
import Derived.Test.YtbejjindkcjecaaC17gy
import Derived.Test.YtbejjindkcjecaaC17gn
namespace Go.Proofs.Ytbejjindkcjecaa
open Go.RowKit Go
set_option linter.unusedVariables false
set_option linter.unusedSimpArgs false
theorem i64_and31 (n : Int) : bits .and .i64 n 31 = n % 32 := by
  have h31 : (BitVec.ofInt 64 31).toNat = 2 ^ 5 - 1 := by decide
  have key : (BitVec.ofInt 64 n &&& BitVec.ofInt 64 31).toNat = (n % ((2 ^ 64 : Nat) : Int)).toNat % 2 ^ 5 := by
    rw [BitVec.toNat_and, BitVec.toNat_ofInt, h31, Nat.and_two_pow_sub_one_eq_mod]
  show IntKind.i64.wrap ((BitVec.ofInt 64 n &&& BitVec.ofInt 64 31).toNat : Nat) = n % 32
  rw [key, IntKind.wrap_i64]
  omega
/-- one fact more of those behind which f may stand -/
theorem ahead_next {k : KE} {t q : Int} {L : List FA} {i j : Nat} {f g : FA} {lb : Bool} (hg : L[j]? = some g) (hl : lb = true ↔ ∀ j' g, j' < j → L[j']? = some g → F7.hit k t q g → ¬ F7.bef f g ∧ (i < j' → F7.bef g f)) :
    ((¬ F7.hit k t q g ∨ (¬ F7.bef f g ∧ (i < j → F7.bef g f))) → (lb = true ↔ ∀ j' g, j' < j + 1 → L[j']? = some g → F7.hit k t q g → ¬ F7.bef f g ∧ (i < j' → F7.bef g f))) ∧
    ((F7.hit k t q g ∧ ¬ (¬ F7.bef f g ∧ (i < j → F7.bef g f))) → (false = true ↔ ∀ j' g, j' < j + 1 → L[j']? = some g → F7.hit k t q g → ¬ F7.bef f g ∧ (i < j' → F7.bef g f))) := by
  constructor
  · intro h
    rw [hl]
    constructor
    · intro h1 j' g' hj hg' hh
      by_cases e : j' = j
      · subst e
        rw [hg] at hg'; cases hg'
        rcases h with h | h
        · exact absurd hh h
        · exact h
      · exact h1 j' g' (by omega) hg' hh
    · intro h1 j' g' hj hg' hh
      exact h1 j' g' (by omega) hg' hh
  · rintro ⟨h1, h2⟩
    constructor
    · intro h; cases h
    · intro h; exact absurd (h j g (by omega) hg h1) h2
set_option maxRecDepth 100000 in
set_option maxHeartbeats 32000000 in
theorem counts_law (v : Value) (L : List FA) (k : KE) (t q : Int) (w : World) (hv : FS w v L) (hwf : WF L) : Calls Try.prog 8 #[v, KV k, .int .i64 t, .int .i64 q] w fun e w' => e = .returned (.bool true) ∧ Below w.heap.size w w' := by
  obtain ⟨p, c, hf⟩ := hv.form
  obtain ⟨n, hn⟩ : ∃ n, n = L.length := ⟨_, rfl⟩
  rw [← hn] at hf
  subst hf
  have HV := hid hv; have HN := hid hn; have HWF := hid hwf
  have hc1 := hv.cap.2.1
  have hc2 := hv.cap.2.2
  unfold maxLen at hc2
  have HCP := hid (show n ≤ c ∧ c ≤ 9223372036854775807 from ⟨hc1, by omega⟩)
  have SA := hid sane_any
  have FEW := hid (fun W (h : Below w.heap.size w W) => few_any _ L W (HV.out.ups h))
  rw [← hn] at FEW
  clear hv hn hwf hc1 hc2
  obtain ⟨k0, k1, k2⟩ := k
  obtain ⟨Z, hZ⟩ : ∃ Z, Z = w.alloc (.cells #[.int .i64 k0, .int .i64 k1, .int .i64 k2] 24) := ⟨_, rfl⟩
  have HZ := hid (show Below w.heap.size w Z from by rw [hZ]; exact (Below.refl _ w).alloc (Nat.le_refl _) _)
  have bK : Blk Z w.heap.size 24 (kc (k0, k1, k2)) := by rw [hZ]; exact Blk.new w 24 (kc (k0, k1, k2))
  have HBK := hid bK
  clear bK
  go_enter Try.func8, Try.ntmps8
  go_upto_region 1 with fail
  rw [← hZ]
  clear hZ
  go_wp2_with fail
  refine (SA.out _).mono ?_
  rintro e wn ⟨rfl, hb⟩
  have HT := hid hb
  clear hb
  go_wp2_with fail
  refine (FEW.out _ (HZ.out.trans (HT.out.mono HZ.out.size))).mono ?_
  rintro e wn ⟨rfl, hb⟩
  have HT := hid (below_t HT.out hb)
  clear hb
  by_cases hfew : n ≤ 30
  · rw [show decide (n ≤ 30) = true from decide_eq_true hfew]
    by_cases hn0 : 0 < n
    · obtain ⟨b, o, rfl⟩ : ∃ b o, p = some ⟨b, o, none⟩ := by
        obtain ⟨f, hf⟩ := get_lt (l := L) (i := 0) (by rw [← HN.out]; exact hn0)
        have hr : FR p w.heap.size L w := HV.out.gr 8 fc_len (by omega)
        obtain ⟨b, o, e, _⟩ := GR.at8 hr hf
        exact ⟨b, o, e⟩
      obtain ⟨jx, hjx, hjn⟩ : ∃ jx : Nat, (k1 % 32).tmod (n : Int) = (jx : Int) ∧ jx < n := by
        refine ⟨((k1 % 32).tmod (n : Int)).toNat, ?_, ?_⟩
        · rw [Int.tmod_eq_emod_of_nonneg (by omega)]
          have := Int.emod_nonneg (k1 % 32) (show (n : Int) ≠ 0 by omega)
          omega
        · rw [Int.tmod_eq_emod_of_nonneg (by omega)]
          have := Int.emod_nonneg (k1 % 32) (show (n : Int) ≠ 0 by omega)
          have := Int.emod_lt_of_pos (k1 % 32) (show (0 : Int) < (n : Int) by omega)
          omega
      have hand := i64_and31 k1
      obtain ⟨m, hm⟩ : ∃ m, m = k1 % 32 := ⟨_, rfl⟩
      rw [← hm] at hjx hand
      clear hm
      obtain ⟨F, hF⟩ := get_lt (l := L) (i := jx) (by rw [← HN.out]; exact hjn)
      have hcells : ∀ i f, L[i]? = some f → ∀ W, Below w.heap.size w W → At8 W b (o + i * 8) f := fun i f hi W hW => by
        have hr : FR (some ⟨b, o, none⟩) w.heap.size L w := HV.out.gr 8 fc_len (by omega)
        obtain ⟨b', o', e', hl, y0, y1, y2, y3, y4, y5, y6, y7⟩ := GR.at8 (hr.up hW) hi
        injection e' with e'
        injection e' with e1 e2 e3
        subst e1; subst e2
        exact ⟨y0, y1, y2, y3, y4, y5, y6, y7⟩
      have HCE := hid hcells
      have hwW : Below w.heap.size w wn := HZ.out.trans (HT.out.mono HZ.out.size)
      obtain ⟨y0, y1, y2, y3, y4, y5, y6, y7⟩ := HCE.out jx F hF wn hwW
      have bK2 := HBK.out.below HT.out HBK.out.lt
      have kk0 := bK2.cell 0 _ rfl; have kk1 := bK2.cell 1 _ rfl; have kk2 := bK2.cell 2 _ rfl
      have kf0 := bK2.frozen 0; have kf1 := bK2.frozen 1; have kf2 := bK2.frozen 2
      clear hcells hF
      have hcp := HCP.out.1
      go_upto_region 7 with fail
      obtain ⟨Z2, hZ2⟩ : ∃ Z2, Z2 = ((wn.setCell ⟨w.heap.size, 0, none⟩ (.int .i64 F.kind)).setCell ⟨w.heap.size, 1, none⟩ (.int .i64 F.subj)).setCell ⟨w.heap.size, 2, none⟩ (.int .i64 F.obj) := ⟨_, rfl⟩
      rw [← hZ2]
      have HK2 := hid (show Blk Z2 w.heap.size 24 (kc (F.kind, F.subj, F.obj)) from by rw [hZ2]; exact ((bK2.set 0 _).set 1 _).set 2 _)
      have HW2 := hid (show Below w.heap.size w Z2 from by rw [hZ2]; exact ((hwW.setCell (p := ⟨w.heap.size, 0, none⟩) (Nat.le_refl _) _).setCell (p := ⟨w.heap.size, 1, none⟩) (Nat.le_refl _) _).setCell (p := ⟨w.heap.size, 2, none⟩) (Nat.le_refl _) _)
      clear hZ2 HT HBK HZ FEW SA
      obtain ⟨Z, hZZ⟩ : ∃ Z, Z = Z2 := ⟨_, rfl⟩
      rw [← hZZ] at HK2 HW2 ⊢
      obtain ⟨K0, hK0⟩ : ∃ x, x = F.kind := ⟨_, rfl⟩
      obtain ⟨K1, hK1⟩ : ∃ x, x = F.subj := ⟨_, rfl⟩
      obtain ⟨K2, hK2⟩ : ∃ x, x = F.obj := ⟨_, rfl⟩
      rw [← hK0, ← hK1, ← hK2] at HK2 ⊢
      obtain ⟨Bk, hBk⟩ : ∃ x, x = w.heap.size := ⟨_, rfl⟩
      rw [← hBk] at HK2 ⊢
      have HKC := hid (fun (W : World) (hW : Below Z.heap.size Z W) => show W.cell? ⟨Bk, 0, none⟩ = some (.int .i64 K0) ∧ W.cell? ⟨Bk, 1, none⟩ = some (.int .i64 K1) ∧ W.cell? ⟨Bk, 2, none⟩ = some (.int .i64 K2) from ⟨(HK2.out.below hW HK2.out.lt).cell 0 _ rfl, (HK2.out.below hW HK2.out.lt).cell 1 _ rfl, (HK2.out.below hW HK2.out.lt).cell 2 _ rfl⟩)
      have HCZ := hid (fun i f (hi : L[i]? = some f) W (hW : Below Z.heap.size Z W) => HCE.out i f hi W (HW2.out.trans (hW.mono HW2.out.size)))
      have HWB := hid (show Below Bk w Z from by rw [hBk]; exact HW2.out)
      have HFS := hid (HV.out.ups HW2.out)
      have HWE := hid hBk
      clear hBk hZZ hK0 hK1 hK2 y0 y1 y2 y3 y4 y5 y6 y7 kk0 kk1 kk2 kf0 kf1 kf2 bK2 hwW HCE HV hjx hand
      have AT := hid (at_any _ L (K0, K1, K2) t q Z HFS.out HWF.out)
      have HVAL := hid (show F7.val (K0, K1, K2) t q L = F7.val (K0, K1, K2) t q L from rfl)
      obtain ⟨vv, hvv⟩ : ∃ x, x = (F7.val (K0, K1, K2) t q L).1 := ⟨_, rfl⟩
      obtain ⟨ok, hok⟩ : ∃ x, x = (F7.val (K0, K1, K2) t q L).2 := ⟨_, rfl⟩
      rw [← hvv, ← hok] at AT
      have HVV := hid hvv; have HOK := hid hok
      clear hvv hok HVAL
      obtain ⟨u0, u1, u2⟩ := HKC.out _ (Below.refl _ _)
      go_wp2_with fail
      refine AT.out.mono ?_
      rintro e wa ⟨rfl, hba⟩
      have HBA := hid hba
      clear hba u0 u1 u2 AT
      go_wp2_with fail
      go_loopw [11, 12, 13] (fun mm ss ii wr => ∃ (i : Nat) (mb sb : Bool), i ≤ n ∧ ii = .int .i64 i ∧ mm = .bool mb ∧ ss = .bool sb ∧ Below Z.heap.size Z wr ∧ Hid (mb = true ↔ ∃ j f, j < i ∧ F7.last (K0, K1, K2) t q L j f) ∧ Hid (sb = true ↔ ∃ j f, j < i ∧ L[j]? = some f ∧ F7.hit (K0, K1, K2) t q f)) (fun _ _ ii _ => n - (intOf ii).toNat)
      case atStart => exact ⟨0, false, false, by omega, rfl, rfl, rfl, HBA.out, hid ⟨(fun h => by cases h), fun ⟨j, f, h, _⟩ => by omega⟩, hid ⟨(fun h => by cases h), fun ⟨j, f, h, _⟩ => by omega⟩⟩
      case round =>
        obtain ⟨i, mb, sb, hi, rfl, rfl, rfl, hbw, hm, hs⟩ := hrel
        have HT := hid hbw
        clear hbw
        by_cases hlt : i < n
        · obtain ⟨f, hf⟩ := get_lt (l := L) (i := i) (by rw [← HN.out]; exact hlt)
          have HA := hid (HCZ.out i f hf)
          have HIL := hid hlt
          have HG := hid (show Try.prog.eqGuardType Try.prog.depth 24 = false by kernel_rfl)
          have HKE := hid (fun w => show (Op.equalIn 10000 24 (.agg #[.int .i64 f.kind, .int .i64 f.subj, .int .i64 f.obj]) (KV (K0, K1, K2))).run Try.prog w = _ from key_eq f.key (K0, K1, K2) w)
          have HMN := hid (show ¬ F7.hit (K0, K1, K2) t q f → (mb = true ↔ ∃ j f, j < i + 1 ∧ F7.last (K0, K1, K2) t q L j f) ∧ (sb = true ↔ ∃ j f, j < i + 1 ∧ L[j]? = some f ∧ F7.hit (K0, K1, K2) t q f) from fun hh => by
            refine ⟨hm.out.trans ⟨fun ⟨j, g, h1, h2⟩ => ⟨j, g, by omega, h2⟩, fun ⟨j, g, h1, h2⟩ => ?_⟩, hs.out.trans ⟨fun ⟨j, g, h1, h2⟩ => ⟨j, g, by omega, h2⟩, fun ⟨j, g, h1, h2, h3⟩ => ?_⟩⟩
            · by_cases e : j = i
              · subst e; have h3 := h2.1; rw [hf] at h3; cases h3; exact absurd h2.2.1 hh
              · exact ⟨j, g, by omega, h2⟩
            · by_cases e : j = i
              · subst e; rw [hf] at h2; cases h2; exact absurd h3 hh
              · exact ⟨j, g, by omega, h2, h3⟩)
          have HF0 := hid hf
          clear hf
          by_cases d1 : f.key = (K0, K1, K2)
          · rw [show decide (f.key = (K0, K1, K2)) = true from decide_eq_true d1] at HKE
            by_cases d2 : f.frm ≤ t
            · by_cases d3 : t < f.to
              · by_cases d4 : f.known ≤ q
                · have HH := hid (show F7.hit (K0, K1, K2) t q f from ⟨d1, d2, d3, d4⟩)
                  have HF := hid d2; have HTT := hid d3; have HQ := hid d4
                  clear d1 d2 d3 d4 HMN
                  go_upto_region 12 with fail
                  refine c12_hit (Z := Z) HT HA HKC HG HCP HIL HKE HF HTT HQ (fun W' hT' => ?_)
                  have HT := hid hT'
                  clear hT'
                  have HI2 := hid hi
                  have HWO := hid HT.out
                  clear hi hlt
                  go_wp2_with fail
                  go_loopw [14, 15] (fun aa jj wr => ∃ (j : Nat) (lb : Bool), j ≤ n ∧ jj = .int .i64 j ∧ aa = .bool lb ∧ Below Z.heap.size Z wr ∧ Hid (lb = true ↔ ∀ j' g, j' < j → L[j']? = some g → F7.hit (K0, K1, K2) t q g → ¬ F7.bef f g ∧ (i < j' → F7.bef g f))) (fun _ jj _ => n - (intOf jj).toNat)
                  case atStart => exact ⟨0, true, by omega, rfl, rfl, HT.out, hid ⟨fun _ j g h => by omega, fun _ => rfl⟩⟩
                  case round =>
                    obtain ⟨j, lb, hj, rfl, rfl, hbw2, hl⟩ := hrel
                    have HT := hid hbw2
                    clear hbw2
                    by_cases hlt2 : j < n
                    · obtain ⟨g, hg⟩ := get_lt (l := L) (i := j) (by rw [← HN.out]; exact hlt2)
                      have HB := hid (HCZ.out j g hg)
                      have HJL := hid hlt2
                      have HKG := hid (fun w => show (Op.equalIn 10000 24 (.agg #[.int .i64 g.kind, .int .i64 g.subj, .int .i64 g.obj]) (KV (K0, K1, K2))).run Try.prog w = _ from key_eq g.key (K0, K1, K2) w)
                      have hnx := ahead_next (i := i) (f := f) hg hl.out
                      have B1 := hid (fun W => before_any f g W)
                      have B2 := hid (fun W => before_any g f W)
                      clear hg hl
                      by_cases d1 : g.key = (K0, K1, K2)
                      · rw [show decide (g.key = (K0, K1, K2)) = true from decide_eq_true d1] at HKG
                        by_cases d2 : g.frm ≤ t
                        · by_cases d3 : t < g.to
                          · by_cases d4 : g.known ≤ q
                            · have HH2 : F7.hit (K0, K1, K2) t q g := ⟨d1, d2, d3, d4⟩
                              have HF2 := hid d2; have HT2 := hid d3; have HQ2 := hid d4
                              clear d1 d2 d3 d4
                              by_cases e1 : F7.bef f g
                              · rw [show decide (F7.bef f g) = true from decide_eq_true e1] at B1
                                have HN1 := hid (hnx.2 ⟨HH2, fun h => h.1 e1⟩)
                                clear hnx HH2 e1 B2
                                go_upto_region 17 with fail
                                refine c17_b1 (Z := Z) HT HA HB HKC HG HCP HIL HJL HKG HF2 HT2 HQ2 B1 (fun W' hT' => ?_)
                                have HT := hid hT'
                                clear hT'
                                go_wp2
                                go_roundw
                                case rel => exact ⟨j + 1, false, by have := HJL.out; omega, by go_num, rfl, HT.out, HN1⟩
                                case measure => have := HJL.out; simp [intOf]; omega
                              · rw [show decide (F7.bef f g) = false from decide_eq_false e1] at B1
                                by_cases e2 : i < j
                                · have HIJ := hid e2
                                  by_cases e3 : F7.bef g f
                                  · rw [show decide (F7.bef g f) = true from decide_eq_true e3] at B2
                                    have HN1 := hid (hnx.1 (.inr ⟨e1, fun _ => e3⟩))
                                    clear hnx HH2 e1 e2 e3
                                    go_upto_region 17 with fail
                                    refine c17_gy (Z := Z) HT HA HB HKC HG HCP HIL HJL HKG HF2 HT2 HQ2 B1 HIJ B2 (fun W' hT' => ?_)
                                    have HT := hid hT'
                                    clear hT'
                                    go_wp2
                                    go_roundw
                                    case rel => exact ⟨j + 1, lb, by have := HJL.out; omega, by go_num, rfl, HT.out, HN1⟩
                                    case measure => have := HJL.out; simp [intOf]; omega
                                  · rw [show decide (F7.bef g f) = false from decide_eq_false e3] at B2
                                    have HN1 := hid (hnx.2 ⟨HH2, fun h => e3 (h.2 e2)⟩)
                                    clear hnx HH2 e1 e2 e3
                                    go_upto_region 17 with fail
                                    refine c17_gn (Z := Z) HT HA HB HKC HG HCP HIL HJL HKG HF2 HT2 HQ2 B1 HIJ B2 (fun W' hT' => ?_)
                                    have HT := hid hT'
                                    clear hT'
                                    go_wp2
                                    go_roundw
                                    case rel => exact ⟨j + 1, false, by have := HJL.out; omega, by go_num, rfl, HT.out, HN1⟩
                                    case measure => have := HJL.out; simp [intOf]; omega
                                · have HIJ := hid e2
                                  have HN1 := hid (hnx.1 (.inr ⟨e1, fun h => absurd h e2⟩))
                                  clear hnx HH2 e1 e2 B2
                                  go_upto_region 17 with fail
                                  refine c17_le (Z := Z) HT HA HB HKC HG HCP HIL HJL HKG HF2 HT2 HQ2 B1 HIJ (fun W' hT' => ?_)
                                  have HT := hid hT'
                                  clear hT'
                                  go_wp2
                                  go_roundw
                                  case rel => exact ⟨j + 1, lb, by have := HJL.out; omega, by go_num, rfl, HT.out, HN1⟩
                                  case measure => have := HJL.out; simp [intOf]; omega
                            · have HF2 := hid d2; have HT2 := hid d3; have HQ2 := hid d4
                              have HN1 := hid (hnx.1 (.inl (fun h => d4 h.2.2.2)))
                              clear d1 d2 d3 d4 hnx B1 B2
                              go_upto_region 17 with fail
                              refine c17_known (Z := Z) HT HA HB HKC HG HCP HIL HJL HKG HF2 HT2 HQ2 (fun W' hT' => ?_)
                              have HT := hid hT'
                              clear hT'
                              go_wp2
                              go_roundw
                              case rel => exact ⟨j + 1, lb, by have := HJL.out; omega, by go_num, rfl, HT.out, HN1⟩
                              case measure => have := HJL.out; simp [intOf]; omega
                          · have HF2 := hid d2; have HT2 := hid d3
                            have HN1 := hid (hnx.1 (.inl (fun h => d3 h.2.2.1)))
                            clear d1 d2 d3 hnx B1 B2
                            go_upto_region 17 with fail
                            refine c17_to (Z := Z) HT HA HB HKC HG HCP HIL HJL HKG HF2 HT2 (fun W' hT' => ?_)
                            have HT := hid hT'
                            clear hT'
                            go_wp2
                            go_roundw
                            case rel => exact ⟨j + 1, lb, by have := HJL.out; omega, by go_num, rfl, HT.out, HN1⟩
                            case measure => have := HJL.out; simp [intOf]; omega
                        · have HF2 := hid d2
                          have HN1 := hid (hnx.1 (.inl (fun h => d2 h.2.1)))
                          clear d1 d2 hnx B1 B2
                          go_upto_region 17 with fail
                          refine c17_frm (Z := Z) HT HA HB HKC HG HCP HIL HJL HKG HF2 (fun W' hT' => ?_)
                          have HT := hid hT'
                          clear hT'
                          go_wp2
                          go_roundw
                          case rel => exact ⟨j + 1, lb, by have := HJL.out; omega, by go_num, rfl, HT.out, HN1⟩
                          case measure => have := HJL.out; simp [intOf]; omega
                      · rw [show decide (g.key = (K0, K1, K2)) = false from decide_eq_false d1] at HKG
                        have HN1 := hid (hnx.1 (.inl (fun h => d1 h.1)))
                        clear d1 hnx B1 B2
                        go_upto_region 17 with fail
                        refine c17_key (Z := Z) HT HA HB HKC HG HCP HIL HJL HKG (fun W' hT' => ?_)
                        have HT := hid hT'
                        clear hT'
                        go_wp2
                        go_roundw
                        case rel => exact ⟨j + 1, lb, by have := HJL.out; omega, by go_num, rfl, HT.out, HN1⟩
                        case measure => have := HJL.out; simp [intOf]; omega
                    · obtain rfl : j = n := by omega
                      have hle : lb = true ↔ F7.last (K0, K1, K2) t q L i f := by
                        refine hl.out.trans ⟨fun h => ⟨HF0.out, HH.out, fun j' g hg hh => h j' g (by rw [HN.out]; exact (List.getElem?_eq_some_iff.1 hg).1) hg hh⟩, fun h j' g _ hg hh => h.2.2 j' g hg hh⟩
                      have HS1 := hid (show true = true ↔ ∃ j f, j < i + 1 ∧ L[j]? = some f ∧ F7.hit (K0, K1, K2) t q f from ⟨fun _ => ⟨i, f, by omega, HF0.out, HH.out⟩, fun _ => rfl⟩)
                      have hi3 := HIL.out; have hi4 := HI2.out
                      obtain ⟨x0, x1, x2, x3, x4, x5, x6, x7⟩ := HA.out _ HT.out
                      cases lb with
                      | true =>
                        have hlast := hle.1 rfl
                        have HM1 := hid (show true = true ↔ ∃ j f, j < i + 1 ∧ F7.last (K0, K1, K2) t q L j f from ⟨fun _ => ⟨i, f, by omega, hlast⟩, fun _ => rfl⟩)
                        have hb := F7.best_of_last hlast
                        have hvl : F7.val (K0, K1, K2) t q L = if f.val < 0 then (0, false) else (f.val, true) := by unfold F7.val; rw [hb]
                        have h1 := HVV.out; have h2 := HOK.out
                        rw [hvl] at h1 h2
                        clear hle hl hlast hb hvl HVV HOK hm hs
                        by_cases hneg : f.val < 0
                        · rw [if_pos hneg] at h1 h2
                          simp only at h1 h2
                          subst h1; subst h2
                          have hge : ¬ 0 ≤ f.val := by omega
                          go_wp2
                          go_roundw
                          case rel => exact ⟨i + 1, true, true, by omega, by go_num, rfl, rfl, HT.out, HM1, HS1⟩
                          case measure => simp [intOf]; omega
                        · rw [if_neg hneg] at h1 h2
                          simp only at h1 h2
                          subst h1; subst h2
                          have hge : 0 ≤ f.val := by omega
                          go_wp2
                          go_roundw
                          case rel => exact ⟨i + 1, true, true, by omega, by go_num, rfl, rfl, HT.out, HM1, HS1⟩
                          case measure => simp [intOf]; omega
                      | false =>
                        have hnl : ¬ F7.last (K0, K1, K2) t q L i f := fun h => by have := hle.2 h; cases this
                        have HM1 := hid (show mb = true ↔ ∃ j f, j < i + 1 ∧ F7.last (K0, K1, K2) t q L j f from hm.out.trans ⟨fun ⟨j, g, h1, h2⟩ => ⟨j, g, by omega, h2⟩, fun ⟨j, g, h1, h2⟩ => by
                          by_cases e : j = i
                          · subst e; have h3 := h2.1; rw [HF0.out] at h3; cases h3; exact absurd h2 hnl
                          · exact ⟨j, g, by omega, h2⟩⟩)
                        clear hle hl hnl hm hs
                        go_wp2
                        go_roundw
                        case rel => exact ⟨i + 1, mb, true, by omega, by go_num, rfl, rfl, HT.out, HM1, HS1⟩
                        case measure => simp [intOf]; omega
                · have HF := hid d2; have HTT := hid d3; have HQ := hid d4
                  obtain ⟨h1, h2⟩ := HMN.out (fun h => d4 h.2.2.2)
                  have HM1 := hid h1; have HS1 := hid h2
                  clear d1 d2 d3 d4 HMN h1 h2
                  go_upto_region 12 with fail
                  refine c12_known (Z := Z) HT HA HKC HG HCP HIL HKE HF HTT HQ (fun W' hT' => ?_)
                  have HT := hid hT'
                  clear hT'
                  go_wp2
                  go_roundw
                  case rel => exact ⟨i + 1, mb, sb, by have := HIL.out; omega, by go_num, rfl, rfl, HT.out, HM1, HS1⟩
                  case measure => have := HIL.out; simp [intOf]; omega
              · have HF := hid d2; have HTT := hid d3
                obtain ⟨h1, h2⟩ := HMN.out (fun h => d3 h.2.2.1)
                have HM1 := hid h1; have HS1 := hid h2
                clear d1 d2 d3 HMN h1 h2
                go_upto_region 12 with fail
                refine c12_to (Z := Z) HT HA HKC HG HCP HIL HKE HF HTT (fun W' hT' => ?_)
                have HT := hid hT'
                clear hT'
                go_wp2
                go_roundw
                case rel => exact ⟨i + 1, mb, sb, by have := HIL.out; omega, by go_num, rfl, rfl, HT.out, HM1, HS1⟩
                case measure => have := HIL.out; simp [intOf]; omega
            · have HF := hid d2
              obtain ⟨h1, h2⟩ := HMN.out (fun h => d2 h.2.1)
              have HM1 := hid h1; have HS1 := hid h2
              clear d1 d2 HMN h1 h2
              go_upto_region 12 with fail
              refine c12_frm (Z := Z) HT HA HKC HG HCP HIL HKE HF (fun W' hT' => ?_)
              have HT := hid hT'
              clear hT'
              go_wp2
              go_roundw
              case rel => exact ⟨i + 1, mb, sb, by have := HIL.out; omega, by go_num, rfl, rfl, HT.out, HM1, HS1⟩
              case measure => have := HIL.out; simp [intOf]; omega
          · rw [show decide (f.key = (K0, K1, K2)) = false from decide_eq_false d1] at HKE
            obtain ⟨h1, h2⟩ := HMN.out (fun h => d1 h.1)
            have HM1 := hid h1; have HS1 := hid h2
            clear d1 HMN h1 h2
            go_upto_region 12 with fail
            refine c12_key (Z := Z) HT HA HKC HG HCP HIL HKE (fun W' hT' => ?_)
            have HT := hid hT'
            clear hT'
            go_wp2
            go_roundw
            case rel => exact ⟨i + 1, mb, sb, by have := HIL.out; omega, by go_num, rfl, rfl, HT.out, HM1, HS1⟩
            case measure => have := HIL.out; simp [intOf]; omega
        · obtain rfl : i = n := by omega
          have hca : (mb = true ∧ sb = true) ∨ (mb = false ∧ sb = false ∧ vv = 0 ∧ ok = false) := by
            cases hb : F7.best (K0, K1, K2) t q L with
            | none =>
              have hno := F7.best_none.1 hb
              have hvl : F7.val (K0, K1, K2) t q L = (0, false) := by unfold F7.val; rw [hb]
              refine .inr ⟨?_, ?_, by rw [HVV.out, hvl], by rw [HOK.out, hvl]⟩
              · cases mb with
                | false => rfl
                | true =>
                  obtain ⟨j, f, _, h⟩ := hm.out.1 rfl
                  exact absurd h.2.1 (hno f (List.mem_of_getElem? h.1))
              · cases sb with
                | false => rfl
                | true =>
                  obtain ⟨j, f, _, h, h2⟩ := hs.out.1 rfl
                  exact absurd h2 (hno f (List.mem_of_getElem? h))
            | some f =>
              obtain ⟨j, hj⟩ := F7.best_last hb
              have hjn : j < i := by rw [HN.out]; exact (List.getElem?_eq_some_iff.1 hj.1).1
              exact .inl ⟨hm.out.2 ⟨j, f, hjn, hj⟩, hs.out.2 ⟨j, f, hjn, hj.1, hj.2.1⟩⟩
          have hov : ok = false → vv = 0 := fun h => by rw [HVV.out]; exact F7.val_false (by rw [← HOK.out]; exact h)
          clear hm hs HVV HOK
          have HBE := hid HWB.out
          rcases hca with ⟨rfl, rfl⟩ | ⟨rfl, rfl, rfl, rfl⟩
          · cases ok with
            | true =>
              clear hov
              go_wp2
              go_ret
              exact ⟨rfl, HW2.out.trans (HT.out.mono HW2.out.size)⟩
            | false =>
              have hv0 := hov rfl
              subst hv0
              clear hov
              go_wp2
              go_ret
              exact ⟨rfl, HW2.out.trans (HT.out.mono HW2.out.size)⟩
          · clear hov
            go_wp2
            go_ret
            exact ⟨rfl, HW2.out.trans (HT.out.mono HW2.out.size)⟩
    · obtain rfl : n = 0 := by omega
      have hL : L = [] := List.eq_nil_of_length_eq_zero HN.out.symm
      subst hL
      have AT := hid (fun W (h : Below w.heap.size w W) => at_any _ [] (k0, k1, k2) t q W (HV.out.ups h) HWF.out)
      rw [show F7.val (k0, k1, k2) t q [] = (0, false) from rfl] at AT
      have hkc := (HBK.out.below HT.out HBK.out.lt)
      have u0 := hkc.cell 0 _ rfl; have u1 := hkc.cell 1 _ rfl; have u2 := hkc.cell 2 _ rfl
      have hcp := HCP.out.1
      clear hkc
      go_wp2_with fail
      refine (AT.out _ (HZ.out.trans (HT.out.mono HZ.out.size))).mono ?_
      rintro e wn2 ⟨rfl, hb⟩
      have HT := hid (below_t HT.out hb)
      clear hb u0 u1 u2
      go_wp2_with fail
      go_loopw [11, 12, 13] (fun mm ss ii wr => mm = .bool false ∧ ss = .bool false ∧ ii = .int .i64 0 ∧ Below w.heap.size w wr) (fun _ _ _ _ => 0)
      case atStart => exact ⟨rfl, rfl, rfl, HZ.out.trans (HT.out.mono HZ.out.size)⟩
      case round =>
        obtain ⟨rfl, rfl, rfl, hbw⟩ := hrel
        have HBW := hid hbw
        clear hbw
        go_wp2
        go_ret
        exact ⟨rfl, HBW.out⟩
  · rw [show decide (n ≤ 30) = false from decide_eq_false hfew]
    clear hfew
    go_wp2
    go_ret
    exact ⟨rfl, HZ.out.trans (HT.out.mono HZ.out.size)⟩
end Go.Proofs.Ytbejjindkcjecaa

/- values: what counts in each term, of up to 39 facts of the key. -/
import Derived.Test.YtbejjindkcjecaaL
import Derived.Test.YtbejjindkcjecaaJ2
import Derived.Test.YtbejjindkcjecaaM
namespace Go.Proofs.Ytbejjindkcjecaa
open Go.RowKit Go
set_option linter.unusedVariables false
set_option linter.unusedSimpArgs false
set_option maxRecDepth 100000 in
set_option maxHeartbeats 4000000 in
theorem values_any2 (v : Value) (L : List FA) (k : KE) (a : Int) (c : Nat) (b q : Int) (w : World) (hv : FS w v L) (ha : 0 ≤ a) (hb0 : b = a + (c : Int)) (hb : b ≤ 1024) (hc : 1 ≤ c) (hL : L.length ≤ 1000000) (h20 : (sel k q L).length ≤ 39) :
    Calls Try.prog 38 #[v, KV k, .int .i64 a, .int .i64 b, .int .i64 q] w fun e w' => ∃ g, e = .returned (.slice (some ⟨g, 0, none⟩) c c) ∧ w.heap.size ≤ g ∧ Blk w' g 3 (rowOf (fun t => vv t (sel k q L)) a c) ∧ Below w.heap.size w w' := by
  obtain ⟨p, cp, rfl⟩ := hv.form
  have hr : FR p w.heap.size L w := hv.gr 8 fc_len (by omega)
  obtain ⟨m, hn⟩ : ∃ m, m = L.length := ⟨_, rfl⟩
  rw [← hn] at hL ⊢
  have HR := hid hr; have HN := hid hn; have H20 := hid h20
  have hba : b - a = (c : Int) := by omega
  have HBA := hid hb0
  clear hr hv hn h20 hb0
  obtain ⟨W0, hW0⟩ : ∃ W0, W0 = (w.alloc (.cells #[.int .i64 k.1, .int .i64 k.2.1, .int .i64 k.2.2] 24)).alloc (.cells #[.int .i64 (-1)] 3) := ⟨_, rfl⟩
  have bk : Blk W0 w.heap.size 24 (kc k) := by rw [hW0]; exact (Blk.new w 24 (kc k)).alloc _
  have b1 : Blk W0 (w.heap.size + 1) 3 [.int .i64 (-1)] := by
    have h := Blk.new (w.alloc (.cells #[.int .i64 k.1, .int .i64 k.2.1, .int .i64 k.2.2] 24)) 3 [.int .i64 (-1)]
    rw [World.size_alloc] at h; rw [hW0]; exact h
  have hsz : W0.heap.size = w.heap.size + 2 := by rw [hW0]; simp
  have hB0 : Below w.heap.size w W0 := by rw [hW0]; exact ((Below.refl _ w).alloc (Nat.le_refl _) _).alloc (by simp) _
  have HREP := hid (repeat_any (w.heap.size + 1) c W0 hc (by omega) (b1.cell 0 _ rfl) (by omega))
  have BK := hid bk; have HB0 := hid hB0; have HSZ := hid hsz
  clear b1 bk hB0 hsz
  go_enter Try.func38, Try.ntmps38
  go_wp2_with fail
  rw [← hW0]
  clear hW0
  refine HREP.out.mono ?_
  rintro e w1 ⟨g, rfl, hg, hbg, hbl⟩
  have hsz1 := hbl.size
  have hB1 : Below w.heap.size w w1 := HB0.out.trans (hbl.mono (by have := HSZ.out; omega))
  have bk1 : Blk w1 w.heap.size 24 (kc k) := BK.out.below hbl (by have := HSZ.out; omega)
  have k0 := bk1.cell 0 _ rfl; have k1 := bk1.cell 1 _ rfl; have k2 := bk1.cell 2 _ rfl
  have hgs := hbg.lt
  have hgw : w.heap.size + 2 ≤ g := by have := HSZ.out; omega
  have HBG := hid hbg; have HB1 := hid hB1
  clear hbg hbl hB1 bk1 BK HREP HB0
  have OF := hid (of_any (.slice p m cp) k q w1 ⟨_, _, _, rfl⟩)
  go_wp2_with fail
  refine OF.out.mono ?_
  rintro e w2 ⟨rfl, hw2⟩
  clear OF k0 k1 k2
  have d1 : Blk w2 w1.heap.size 22 [.slice p m cp] := by rw [hw2]; exact ((Blk.new w1 22 [.slice p m cp]).alloc _).alloc _
  have d2 : Blk w2 (w1.heap.size + 1) 24 (kc k) := by
    have h := Blk.new (w1.alloc (.cells #[.slice p m cp] 22)) 24 (kc k)
    rw [World.size_alloc] at h; rw [hw2]; exact h.alloc _
  have d3 : Blk w2 (w1.heap.size + 2) 3 [.int .i64 q] := by
    have h := Blk.new ((w1.alloc (.cells #[.slice p m cp] 22)).alloc (.cells #[.int .i64 k.1, .int .i64 k.2.1, .int .i64 k.2.2] 24)) 3 [.int .i64 q]
    rw [World.size_alloc, World.size_alloc] at h; rw [hw2]; exact h
  have hB2 : Below w1.heap.size w1 w2 := by rw [hw2]; exact (((Below.refl _ w1).alloc (Nat.le_refl _) _).alloc (by simp) _).alloc (by simp; omega) _
  have hsz2 : w2.heap.size = w1.heap.size + 3 := by rw [hw2]; simp
  clear hw2
  have hBw2 : Below w.heap.size w w2 := below_t HB1.out hB2
  have SS := hid (sortedStable_any2 w1.heap.size (w1.heap.size + 1) (w1.heap.size + 2) p cp m L HN.out hL k q w2 (by omega) (by omega) (by omega) (d1.cell 0 _ rfl) ⟨d2.cell 0 _ rfl, d2.cell 1 _ rfl, d2.cell 2 _ rfl, d3.cell 0 _ rfl⟩
    (fun i x hi => by
      obtain ⟨bb, o, e, hl, h1⟩ := (HR.out.up hBw2) i x hi
      exact ⟨bb, o, e, by have := hBw2.size; omega, h1⟩) H20.out)
  have HB2 := hid hBw2; have HBG2 := hid (HBG.out.below hB2 hgs)
  clear d1 d2 d3 hB2 hBw2 HBG
  go_wp2_with fail
  refine SS.out.mono ?_
  rintro e w3 ⟨v3, S, rfl, h1, h2, h3, h4, h5⟩
  obtain ⟨p3, c3, rfl⟩ := h1.form
  have hB3 : Below w.heap.size w w3 := below_t HB2.out h4
  have hr3 : FRg p3 g S w3 := fun i x hi => by
    obtain ⟨bb, o, e, hl, hA⟩ := (h1.gr 8 fc_len (by omega)).at8 hi
    refine ⟨bb, o, e, fun e2 => ?_, hA⟩
    have hj := h5 bb (by rw [e]; rfl)
    omega
  have HS := hid hr3; have HB3 := hid hB3; have HSRT := hid h3; have HEQ := hid h2
  have HBG3 := hid (HBG2.out.below h4 (by have := HB2.out.size; omega))
  have hnS : S.length ≤ maxLen := Nat.le_trans h1.cap.2.1 h1.cap.2.2
  have hs3 := h4.size
  obtain ⟨n, hnn⟩ : ∃ n, n = S.length := ⟨_, rfl⟩
  rw [← hnn] at hnS ⊢
  unfold maxLen at hnS
  have HNN := hid hnn
  clear hr3 hB3 h1 h2 h3 h4 h5 SS HB2 HBG2 hnn
  go_wp2_with fail
  go_loopw [26] (fun s wr => ∃ i : Nat, i ≤ n ∧ s = .int .i64 i ∧ Hid (Blk wr g 3 (rowOf (fun t => vv t (S.take i)) a c)) ∧ Hid (FRg p3 g S wr) ∧ Hid (Below w.heap.size w wr)) (fun s _ => n - (intOf s).toNat)
  case atStart => exact ⟨0, by omega, rfl, hid (by rw [List.take_zero, ← fill_row]; exact HBG3.out), HS, HB3⟩
  case round =>
    obtain ⟨i, hi, rfl, hrow, hfs, hbl⟩ := hrel
    by_cases hlt : i < n
    · obtain ⟨f, hf⟩ := get_lt (l := S) (i := i) (by rw [← HNN.out]; exact hlt)
      obtain ⟨bb, o, rfl, hbg, hA⟩ := hfs.out i f hf
      obtain ⟨x0, x1, x2, x3, x4, x5, x6, x7⟩ := hA
      have hsrt : Srt (S.take i ++ [f]) := by
        rw [← take_snoc hf]
        exact HSRT.out.sublist (List.take_sublist _ _)
      have HTS := hid (take_snoc hf)
      have HV := hid (fun t => vv_snoc (t := t) hsrt)
      have hgl := hrow.out.lt
      have HROW := hid (hrow.out.alloc (.cells #[.int .i64 f.kind, .int .i64 f.subj, .int .i64 f.obj, .int .i64 f.val, .int .i64 f.frm, .int .i64 f.to, .int .i64 f.known, .int .i64 f.no] 28))
      have HBX := hid (Blk.new wr 28 (fc f))
      have hkp := kpN_alloc (S := fun j => j ≠ g) wr (.cells #[.int .i64 f.kind, .int .i64 f.subj, .int .i64 f.obj, .int .i64 f.val, .int .i64 f.frm, .int .i64 f.to, .int .i64 f.known, .int .i64 f.no] 28)
      have HFS := hid (hfs.out.kp hkp)
      have HBL := hid (hbl.out.alloc hbl.out.size (.cells #[.int .i64 f.kind, .int .i64 f.subj, .int .i64 f.obj, .int .i64 f.val, .int .i64 f.frm, .int .i64 f.to, .int .i64 f.known, .int .i64 f.no] 28))
      clear hf hsrt hkp hrow hfs hbl
      go_wp2_with fail
      obtain ⟨lo, hlo⟩ : ∃ lo, lo = max a f.frm := ⟨_, rfl⟩
      obtain ⟨x0', hx0⟩ : ∃ x0', x0' = max f.val (-1) := ⟨_, rfl⟩
      obtain ⟨hi', hhi⟩ : ∃ hi', hi' = min b f.to := ⟨_, rfl⟩
      rw [← hlo]
      have hloa : a ≤ lo := by omega
      have hhb : hi' ≤ b := by omega
      have hbc := HBA.out
      have HLO := hid hlo; have HX0 := hid hx0; have HHI := hid hhi
      obtain ⟨Bx, hBx⟩ : ∃ Bx, Bx = wr.heap.size := ⟨_, rfl⟩
      rw [← hBx] at HBX ⊢
      have hbxg : Bx ≠ g := by omega
      obtain ⟨j0, hj0⟩ : ∃ j0 : Nat, lo = a + (j0 : Int) := ⟨(lo - a).toNat, by omega⟩
      rw [hj0]
      have HJ0 := hid hj0
      clear x0 x1 x2 x3 x4 x5 x6 x7 hlo hx0 hhi hBx hj0 hbc
      go_loopw [14] (fun T wr' => ∃ j : Nat, T = .int .i64 (a + (j : Int)) ∧ lo ≤ a + (j : Int) ∧ a + (j : Int) ≤ max lo hi' ∧ Hid (Blk wr' g 3 (rowOf (mid lo (a + (j : Int)) x0' (S.take i)) a c)) ∧ Hid (FRg (some ⟨bb, o, none⟩) g S wr') ∧ Hid (Below w.heap.size w wr') ∧ Hid (Blk wr' Bx 28 (fc f))) (fun T _ => (1024 - intOf T).toNat)
      case atStart =>
        exact ⟨j0, rfl, by have := HJ0.out; omega, by have := HJ0.out; omega, hid (by
          rw [rowOf_congr (h' := fun t => vv t (S.take i)) (fun j' _ => by
            unfold mid; rw [if_neg (by have := HJ0.out; omega)])]
          exact HROW.out), HFS, HBL, HBX⟩
      case round =>
        obtain ⟨j, rfl, hj1, hj2, hrow, hfs, hbl, hbx⟩ := hrel
        have y5 := hbx.out.cell 5 _ rfl
        have y3 := hbx.out.cell 3 _ rfl
        by_cases hth : a + (j : Int) < hi'
        · have hjc : j < c := by have := HBA.out; omega
          have hcell := hrow.out.cell j _ (rowOf_get _ a c j hjc)
          have hfrz := hrow.out.frozen j
          have hdec : decide (a + (j : Int) < min b f.to) = true := decide_eq_true (by rw [← HHI.out]; exact hth)
          have HR2 := hid (show Blk (wr.setCell ⟨g, j, none⟩ (.int .i64 (max f.val (-1)))) g 3 (rowOf (mid lo (a + ((j + 1 : Nat) : Int)) x0' (S.take i)) a c) from by
            have h := hrow.out.set j (.int .i64 (max f.val (-1)))
            rw [rowOf_set (max f.val (-1)) hjc (h' := mid lo (a + ((j + 1 : Nat) : Int)) x0' (S.take i)) (by unfold mid; rw [if_pos ⟨by omega, by omega⟩]; exact HX0.out) (fun i' hi' hne => by
              unfold mid
              by_cases hc1 : lo ≤ a + (i' : Int) ∧ a + (i' : Int) < a + (j : Int)
              · rw [if_pos hc1, if_pos ⟨hc1.1, by omega⟩]
              · rw [if_neg hc1, if_neg (fun e => hc1 ⟨e.1, by omega⟩)])] at h
            exact h)
          have HF2 := hid (hfs.out.kp (kpN_set (j := j) (.int .i64 (max f.val (-1)))))
          have HB2 := hid (hbl.out.setCell (p := ⟨g, j, none⟩) (by show w.heap.size ≤ g; omega) (.int .i64 (max f.val (-1))))
          have HX2 := hid (hbx.out.other (j := j) hbxg (.int .i64 (max f.val (-1))))
          have h1 := HBA.out
          have hle : a + (j : Int) + 1 ≤ max lo hi' := by omega
          have HLE := hid hle
          have hj3 : (j : Int) < (c : Int) := by omega
          have hcb : a + (c : Int) ≤ 1024 := by omega
          have hsub : a + (j : Int) - a = (j : Int) := by omega
          clear hrow hfs hbl hbx h1 hle hhb hj2 hth
          go_wp2
          go_roundw
          case rel => exact ⟨j + 1, by rw [show a + (j : Int) + 1 = a + ((j + 1 : Nat) : Int) from by omega], by omega, by have := HLE.out; omega, HR2, HF2, HB2, HX2⟩
          case measure => simp [intOf]; omega
        · have hdec : decide (a + (j : Int) < min b f.to) = false := decide_eq_false (by rw [← HHI.out]; exact hth)
          have hfin := hid (show Blk wr g 3 (rowOf (fun t => vv t (S.take (i + 1))) a c) from by
            have h := hrow.out
            rw [rowOf_congr (h' := fun t => vv t (S.take (i + 1))) (fun j' hj' => by
              have hh := HV.out (a + (j' : Int))
              rw [← HTS.out] at hh
              rw [hh]
              unfold mid
              have e1 := HLO.out; have e2 := HHI.out; have e3 := HBA.out
              by_cases hc1 : f.frm ≤ a + (j' : Int) ∧ a + (j' : Int) < f.to
              · rw [if_pos hc1, if_pos ⟨by omega, by omega⟩]; exact HX0.out
              · rw [if_neg hc1, if_neg (fun e => hc1 ⟨by omega, by omega⟩)])] at h
            exact h)
          have HF2 := hid hfs.out; have HB2 := hid hbl.out
          clear hrow hfs hbl hbx hth hj1 hj2 hhb
          go_wp2
          go_roundw
          case rel => exact ⟨i + 1, by omega, by go_num, hfin, HF2, HB2⟩
          case measure => simp [intOf]; omega
    · have hd : (fun t => vv t (S.take i)) = fun t => vv t (sel k q L) := by
        funext t
        rw [show i = S.length by have := HNN.out; omega, List.take_length, vv_eqv HEQ.out]
      rw [hd] at hrow
      have HROW := hid hrow.out; have HBL := hid hbl.out
      clear hd hrow hfs hbl
      go_wp2
      go_ret
      exact ⟨g, rfl, by omega, HROW.out, HBL.out⟩
end Go.Proofs.Ytbejjindkcjecaa
namespace Go.Proofs.Ytbejjindkcjecaa
open Go.RowKit Go
set_option linter.unusedVariables false
set_option linter.unusedSimpArgs false
set_option maxRecDepth 100000 in
set_option maxHeartbeats 4000000 in
theorem points_any2 (v : Value) (L : List FA) (k : KE) (a b q : Int) (w : World) (hv : FS w v L) (hL : L.length ≤ 1000000) (h20 : (sel k q L).length ≤ 39) :
    Calls Try.prog 21 #[v, KV k, .int .i64 a, .int .i64 b, .int .i64 q] w fun e w' => ∃ u, e = .returned u ∧ PS w' u (F7.points k a b q L) ∧ Below w.heap.size w w' := by
  obtain ⟨p, cp, hvf⟩ := hv.form
  obtain ⟨m, hm⟩ : ∃ m, m = L.length := ⟨_, rfl⟩
  rw [← hm] at hvf
  subst hvf
  have HV := hid hv; have HL := hid hL; have H20 := hid h20
  clear hv hL h20 hm
  by_cases hab : min b 1024 ≤ max a 0
  · have HP := hid (points_none (k := k) (q := q) (l := L) hab)
    have hdec : decide (min b 1024 ≤ max a 0) = true := decide_eq_true hab
    have hB0 := hid ((Below.refl _ w).alloc (Nat.le_refl _) (.cells #[.int .i64 k.1, .int .i64 k.2.1, .int .i64 k.2.2] 24))
    go_enter Try.func21, Try.ntmps21
    go_wp2
    go_ret
    exact ⟨_, rfl, .inl ⟨rfl, HP.out⟩, hB0.out⟩
  · obtain ⟨s, hs⟩ : ∃ s : Nat, (s : Int) = max a 0 := ⟨(max a 0).toNat, by omega⟩
    obtain ⟨c, hc⟩ : ∃ c : Nat, (s : Int) + (c : Int) = min b 1024 := ⟨(min b 1024 - max a 0).toNat, by omega⟩
    have hc1 : 1 ≤ c := by omega
    have hle : (s : Int) + (c : Int) ≤ 1024 := by omega
    have HP := hid (points_pts (k := k) (q := q) (l := L) hs hc)
    have HSa : max a 0 = (s : Int) := hs.symm
    have HCb : min b 1024 = (s : Int) + (c : Int) := hc.symm
    have hB0 := (Below.refl _ w).alloc (Nat.le_refl _) (.cells #[.int .i64 k.1, .int .i64 k.2.1, .int .i64 k.2.2] 24)
    have HB0 := hid hB0
    have VV := hid (values_any2 (.slice p m cp) L k (s : Int) c ((s : Int) + (c : Int)) q (w.alloc (.cells #[.int .i64 k.1, .int .i64 k.2.1, .int .i64 k.2.2] 24)) (HV.out.ups hB0) (by omega) rfl hle hc1 HL.out H20.out)
    have hdec : decide ((s : Int) + (c : Int) ≤ (s : Int)) = false := decide_eq_false (by omega)
    clear hab hs hc hB0
    go_enter Try.func21, Try.ntmps21
    go_wp2_with fail
    refine VV.out.mono ?_
    rintro e w2 ⟨g, rfl, hg, hbg, hbl⟩
    have hgs := hbg.lt
    have HBG := hid hbg
    have HB2 := hid (below_t HB0.out hbl)
    obtain ⟨h, hh⟩ : ∃ h, h = fun t => vv t (sel k q L) := ⟨_, rfl⟩
    rw [← hh] at HBG HP
    clear hbg hbl hg VV HV HL H20 HB0 hh hdec HSa HCb
    go_wp2_with fail
    go_loopw [27, 10] (fun i u wr => ∃ n : Nat, n ≤ c ∧ i = .int .i64 n ∧ Hid (PO wr w2.heap.size u (pts h (s : Int) n)) ∧ Hid (Below w2.heap.size w2 wr)) (fun i _ _ => c - (intOf i).toNat)
    case atStart => exact ⟨0, by omega, rfl, hid (go_nil _ _), hid (Below.refl _ _)⟩
    case round =>
      obtain ⟨n, hn, rfl, hpo, hbl⟩ := hrel
      by_cases hlt : n < c
      · have hcell := (HBG.out.below hbl.out hgs).cell n _ (rowOf_get h (s : Int) c n hlt)
        have hps := pts_succ h (s : Int) n
        obtain ⟨z, hz⟩ : ∃ z, z = h ((s : Int) + (n : Int)) := ⟨_, rfl⟩
        rw [← hz] at hcell hps
        clear hz
        by_cases hz : 0 ≤ z
        · rw [if_pos hz] at hps
          obtain ⟨g', cap', w3, happ, ho, hb3⟩ := app_point' hpo.out ((s : Int) + (n : Int), z) (by have := pts_length h (s : Int) n; omega) hbl.out.size
          rw [← hps] at ho
          have HAPP := hid happ; have HO := hid ho; have HB3 := hid (hbl.out.trans hb3)
          have hzd : decide (-1 < z) = true := decide_eq_true (by omega)
          clear happ ho hb3 hps hpo hbl hz
          go_wp2_with (at_builtin; refine wpList_append_run rfl (.tmp 34) (.tmp 40) 41 41 rfl _ _ _ ?_ ?_ HAPP.out ?_; exact rfl; exact rfl)
          go_roundw
          case rel => exact ⟨n + 1, by omega, by go_num, HO, HB3⟩
          case measure => simp [intOf]; omega
        · rw [if_neg hz, List.append_nil] at hps
          rw [← hps] at hpo
          have hzd : decide (-1 < z) = false := decide_eq_false (by omega)
          clear hps hz
          go_wp2
          go_roundw
          case rel => exact ⟨n + 1, by omega, by go_num, hpo, hbl⟩
          case measure => simp [intOf]; omega
      · obtain rfl : n = c := by omega
        rw [← HP.out] at hpo
        have HF := hid (below_t HB2.out hbl.out)
        clear hbl
        go_wp2
        go_ret
        exact ⟨_, rfl, hpo.out.gs, HF.out⟩
end Go.Proofs.Ytbejjindkcjecaa

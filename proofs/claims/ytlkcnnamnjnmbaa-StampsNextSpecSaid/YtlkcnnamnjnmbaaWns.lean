/- The law NextSpec. -/
import Derived.Test.YtlkcnnamnjnmbaaSane
import Derived.Test.YtlkcnnamnjnmbaaFr
import Derived.Test.YtlkcnnamnjnmbaaL
namespace Go.Proofs.Ytlkcnnamnjnmbaa
open Go.RowKit Go
set_option linter.unusedVariables false
set_option linter.unusedSimpArgs false
set_option maxRecDepth 100000 in
set_option maxHeartbeats 8000000 in
theorem next_law (s : St) (n : Int) (va vb : Value) (a b : List St) (w : World) (ha : KS w va a) (hb : KS w vb b) : Calls Try.prog 4 #[KV s, .int .i64 n, va, vb] w fun e w' => e = .returned (.bool true) ∧ Below w.heap.size w w' := by
  have SA := hid sane_any
  have FA := hid (fun W (h : Below w.heap.size w W) => few_any va a W (ha.ups h))
  have FB := hid (fun W (h : Below w.heap.size w W) => few_any vb b W (hb.ups h))
  have NX := hid (fun W => Next_any s n W)
  have RX := hid (fun W => rNext_any s n W)
  have HPE := hid (fun w => st_eq (S8.nxt s n) (S8.nxt s n) w)
  rw [show decide (S8.nxt s n = S8.nxt s n) = true by simp] at HPE
  obtain ⟨⟨x0, x1, x2⟩, hx⟩ : ∃ t, t = S8.nxt s n := ⟨_, rfl⟩
  rw [← hx] at NX RX HPE
  obtain ⟨xe, hxe⟩ : ∃ t, t = S8.nxe s n := ⟨_, rfl⟩
  rw [← hxe] at NX RX
  clear hx hxe
  obtain ⟨s0, s1, s2⟩ := s
  by_cases hla : a.length ≤ 40
  · rw [show decide (a.length ≤ 40) = true from decide_eq_true hla] at FA
    by_cases hlb : b.length ≤ 40
    · rw [show decide (b.length ≤ 40) = true from decide_eq_true hlb] at FB
      have hl : (a ++ b).length ≤ 10000 := by rw [List.length_append]; omega
      have MM := hid (fun W (h : Below w.heap.size w W) => Merge_any va vb a b W (ha.ups h) (hb.ups h) hl)
      have RM := hid (fun W (h : Below w.heap.size w W) => rMerge_any va vb a b W (ha.ups h) (hb.ups h) hl)
      obtain ⟨me, hme⟩ : ∃ t, t = S8.mge a b := ⟨_, rfl⟩
      rw [← hme] at MM RM
      clear hme hl hla hlb ha hb
      go_enter Try.func4, Try.ntmps4
      go_upto_region 1 with fail
      obtain ⟨Z, hZ⟩ : ∃ Z, Z = (w.alloc (.cells #[.int .i64 s0, .int .i64 s1, .int .i64 s2] 23)) := ⟨_, rfl⟩
      have HZ := hid (show Below w.heap.size w Z from by rw [hZ]; exact (Below.refl _ w).alloc (Nat.le_refl _) _)
      have bs : Blk Z (w.heap.size) 23 (kc (s0, s1, s2)) := by
        have h := Blk.new w 23 (kc (s0, s1, s2))
        rw [hZ]; exact h
      have HsC := hid (fun (W : World) (hW : Below Z.heap.size Z W) => show At3 W (w.heap.size) 0 (s0, s1, s2) from ⟨(bs.below hW bs.lt).cell 0 _ rfl, (bs.below hW bs.lt).cell 1 _ rfl, (bs.below hW bs.lt).cell 2 _ rfl⟩)
      have HT := hid (Below.refl Z.heap.size Z)
      rw [← hZ]
      clear hZ bs
      go_wp2_with fail
      refine (SA.out _).mono ?_
      rintro e wn ⟨rfl, hb⟩
      have HT := hid (below_t HT.out hb)
      clear hb
      go_wp2_with fail
      refine (FA.out _ (HZ.out.trans (HT.out.mono HZ.out.size))).mono ?_
      rintro e wn ⟨rfl, hb⟩
      have HT := hid (below_t HT.out hb)
      clear hb
      go_wp2_with fail
      refine (FB.out _ (HZ.out.trans (HT.out.mono HZ.out.size))).mono ?_
      rintro e wn ⟨rfl, hb⟩
      have HT := hid (below_t HT.out hb)
      clear hb
      obtain ⟨sc0, sc1, sc2⟩ := HsC.out _ HT.out
      go_wp2_with fail
      refine (NX.out _).mono ?_
      rintro e wn ⟨rfl, hb⟩
      have HT := hid (below_t HT.out hb)
      clear hb
      clear sc0 sc1 sc2
      go_upto_region 6 with fail
      obtain ⟨Y5, hY⟩ : ∃ Y, Y = wn.alloc (.cells #[.int .i64 x0, .int .i64 x1, .int .i64 x2] 23) := ⟨_, rfl⟩
      have HT := hid (show Below Z.heap.size Z Y5 from by rw [hY]; exact HT.out.alloc HT.out.size _)
      have bF : Blk Y5 wn.heap.size 23 (kc (x0, x1, x2)) := by rw [hY]; exact Blk.new wn 23 (kc (x0, x1, x2))
      have HY5 := hid (fun (W : World) (hW : Below Y5.heap.size Y5 W) => show At3 W wn.heap.size 0 (x0, x1, x2) from ⟨(bF.below hW bF.lt).cell 0 _ rfl, (bF.below hW bF.lt).cell 1 _ rfl, (bF.below hW bF.lt).cell 2 _ rfl⟩)
      obtain ⟨xF5, hxF⟩ : ∃ x, x = wn.heap.size := ⟨_, rfl⟩
      rw [← hxF] at HY5
      rw [← hY, ← hxF]
      clear hY bF hxF
      have HTY5 := hid (Below.refl Y5.heap.size Y5)
      obtain ⟨sc0, sc1, sc2⟩ := HsC.out _ HT.out
      go_wp2_with fail
      refine (RX.out _).mono ?_
      rintro e wn ⟨rfl, hb⟩
      have HTY5 := hid (below_t HTY5.out hb)
      have HT := hid (below_t HT.out hb)
      clear hb
      clear sc0 sc1 sc2
      go_upto_region 7 with fail
      obtain ⟨Y6, hY⟩ : ∃ Y, Y = wn.alloc (.cells #[.int .i64 x0, .int .i64 x1, .int .i64 x2] 23) := ⟨_, rfl⟩
      have HT := hid (show Below Z.heap.size Z Y6 from by rw [hY]; exact HT.out.alloc HT.out.size _)
      have HTY5 := hid (show Below Y5.heap.size Y5 Y6 from by rw [hY]; exact HTY5.out.alloc HTY5.out.size _)
      have bF : Blk Y6 wn.heap.size 23 (kc (x0, x1, x2)) := by rw [hY]; exact Blk.new wn 23 (kc (x0, x1, x2))
      have HY6 := hid (fun (W : World) (hW : Below Y6.heap.size Y6 W) => show At3 W wn.heap.size 0 (x0, x1, x2) from ⟨(bF.below hW bF.lt).cell 0 _ rfl, (bF.below hW bF.lt).cell 1 _ rfl, (bF.below hW bF.lt).cell 2 _ rfl⟩)
      obtain ⟨xF6, hxF⟩ : ∃ x, x = wn.heap.size := ⟨_, rfl⟩
      rw [← hxF] at HY6
      rw [← hY, ← hxF]
      clear hY bF hxF
      have HTY6 := hid (Below.refl Y6.heap.size Y6)
      go_wp2_with fail
      refine (MM.out _ (HZ.out.trans (HT.out.mono HZ.out.size))).mono ?_
      rintro e wn ⟨⟨u1, rfl, hu⟩, hb⟩
      obtain ⟨pu1, cu1, hf⟩ := hu.form
      obtain ⟨nu1, hn⟩ : ∃ n, n = (S8.mg a b).length := ⟨_, rfl⟩
      rw [← hn] at hf
      subst hf
      have HU1 := hid hu
      have HT := hid (below_t HT.out hb)
      have HTY5 := hid (below_t HTY5.out hb)
      have HTY6 := hid (below_t HTY6.out hb)
      clear hb hu hn
      go_wp2_with fail
      refine (RM.out _ (HZ.out.trans (HT.out.mono HZ.out.size))).mono ?_
      rintro e wn ⟨⟨u2, rfl, hu⟩, hb⟩
      have HU1 := hid (HU1.out.ups hb)
      obtain ⟨pu2, cu2, hf⟩ := hu.form
      obtain ⟨nu2, hn⟩ : ∃ n, n = (S8.mg a b).length := ⟨_, rfl⟩
      rw [← hn] at hf
      subst hf
      have HU2 := hid hu
      have HT := hid (below_t HT.out hb)
      have HTY5 := hid (below_t HTY5.out hb)
      have HTY6 := hid (below_t HTY6.out hb)
      clear hb hu hn
      obtain ⟨yc0, yc1, yc2⟩ := HY5.out _ HTY5.out
      obtain ⟨zc0, zc1, zc2⟩ := HY6.out _ HTY6.out
      have hpe := HPE.out
      have hg60 : Try.prog.eqGuardType Try.prog.depth 23 = false := by kernel_rfl
      have HSM := hid (same_any _ _ _ _ _ HU1.out HU2.out)
      rw [show decide (S8.mg a b = S8.mg a b) = true by simp] at HSM
      go_wp2_with fail
      refine (HSM.out).mono ?_
      rintro e wn ⟨rfl, hb⟩
      have HT := hid (below_t HT.out hb)
      clear hb
      go_wp2
      all_goals (go_ret; exact ⟨rfl, below_t HZ.out HT.out⟩)
    · rw [show decide (b.length ≤ 40) = false from decide_eq_false hlb] at FB
      clear hla hlb ha hb
      go_enter Try.func4, Try.ntmps4
      go_upto_region 1 with fail
      obtain ⟨Z, hZ⟩ : ∃ Z, Z = (w.alloc (.cells #[.int .i64 s0, .int .i64 s1, .int .i64 s2] 23)) := ⟨_, rfl⟩
      have HZ := hid (show Below w.heap.size w Z from by rw [hZ]; exact (Below.refl _ w).alloc (Nat.le_refl _) _)
      have bs : Blk Z (w.heap.size) 23 (kc (s0, s1, s2)) := by
        have h := Blk.new w 23 (kc (s0, s1, s2))
        rw [hZ]; exact h
      have HsC := hid (fun (W : World) (hW : Below Z.heap.size Z W) => show At3 W (w.heap.size) 0 (s0, s1, s2) from ⟨(bs.below hW bs.lt).cell 0 _ rfl, (bs.below hW bs.lt).cell 1 _ rfl, (bs.below hW bs.lt).cell 2 _ rfl⟩)
      have HT := hid (Below.refl Z.heap.size Z)
      rw [← hZ]
      clear hZ bs
      go_wp2_with fail
      refine (SA.out _).mono ?_
      rintro e wn ⟨rfl, hb⟩
      have HT := hid (below_t HT.out hb)
      clear hb
      go_wp2_with fail
      refine (FA.out _ (HZ.out.trans (HT.out.mono HZ.out.size))).mono ?_
      rintro e wn ⟨rfl, hb⟩
      have HT := hid (below_t HT.out hb)
      clear hb
      go_wp2_with fail
      refine (FB.out _ (HZ.out.trans (HT.out.mono HZ.out.size))).mono ?_
      rintro e wn ⟨rfl, hb⟩
      have HT := hid (below_t HT.out hb)
      clear hb
      go_wp2
      all_goals (go_ret; exact ⟨rfl, below_t HZ.out HT.out⟩)
  · rw [show decide (a.length ≤ 40) = false from decide_eq_false hla] at FA
    clear hla ha hb
    go_enter Try.func4, Try.ntmps4
    go_upto_region 1 with fail
    obtain ⟨Z, hZ⟩ : ∃ Z, Z = (w.alloc (.cells #[.int .i64 s0, .int .i64 s1, .int .i64 s2] 23)) := ⟨_, rfl⟩
    have HZ := hid (show Below w.heap.size w Z from by rw [hZ]; exact (Below.refl _ w).alloc (Nat.le_refl _) _)
    have bs : Blk Z (w.heap.size) 23 (kc (s0, s1, s2)) := by
      have h := Blk.new w 23 (kc (s0, s1, s2))
      rw [hZ]; exact h
    have HsC := hid (fun (W : World) (hW : Below Z.heap.size Z W) => show At3 W (w.heap.size) 0 (s0, s1, s2) from ⟨(bs.below hW bs.lt).cell 0 _ rfl, (bs.below hW bs.lt).cell 1 _ rfl, (bs.below hW bs.lt).cell 2 _ rfl⟩)
    have HT := hid (Below.refl Z.heap.size Z)
    rw [← hZ]
    clear hZ bs
    go_wp2_with fail
    refine (SA.out _).mono ?_
    rintro e wn ⟨rfl, hb⟩
    have HT := hid (below_t HT.out hb)
    clear hb
    go_wp2_with fail
    refine (FA.out _ (HZ.out.trans (HT.out.mono HZ.out.size))).mono ?_
    rintro e wn ⟨rfl, hb⟩
    have HT := hid (below_t HT.out hb)
    clear hb
    go_wp2
    all_goals (go_ret; exact ⟨rfl, below_t HZ.out HT.out⟩)
end Go.Proofs.Ytlkcnnamnjnmbaa

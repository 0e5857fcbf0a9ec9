/- The law Later. -/
import Derived.Test.YtlkcnnamnjnmbaaSane
import Derived.Test.YtlkcnnamnjnmbaaFr
namespace Go.Proofs.Ytlkcnnamnjnmbaa
open Go.RowKit Go
set_option linter.unusedVariables false
set_option linter.unusedSimpArgs false
set_option maxRecDepth 100000 in
set_option maxHeartbeats 8000000 in
theorem later_law (a o : St) (n : Int) (w : World) : Calls Try.prog 7 #[KV a, .int .i64 n, KV o] w fun e w' => e = .returned (.bool true) ∧ Below w.heap.size w w' := by
  have SA := hid sane_any
  have NX := hid (fun W => Next_any a n W)
  have KO := hid (fun W => Known_any o W)
  have HO := hid (chk_eq o)
  have HKO := hid (show S8.ok o → S8.knw o = 8 * o.1 + o.2.1 from fun h => if_pos h)
  have HKN := hid (fun (s : St) (h : S8.ok s) => show S8.knw s = 8 * s.1 + s.2.1 from if_pos h)
  have HOB := hid (show S8.ok o → 0 ≤ o.2.1 ∧ o.2.1 ≤ 6 from fun h => ⟨h.2.2.1, h.2.2.2.1⟩)
  by_cases hx : S8.nxe a n = 0
  · obtain ⟨h1, h2, h3, h4⟩ := S8.nxt_ok hx
    rw [hx] at NX
    have hkn := HKN.out _ h2
    have CS := hid (fun W => Check_any (S8.nxt a n) W)
    rw [show S8.chk (S8.nxt a n) = 0 from if_pos h2] at CS
    have CP := hid (fun W => Compare_any a (S8.nxt a n) W)
    rw [S8.cp_lt h3] at CP
    have KS1 := hid (fun W => Known_any (S8.nxt a n) W)
    rw [show S8.chk (S8.nxt a n) = 0 from if_pos h2] at KS1
    obtain ⟨ks, hks⟩ : ∃ ks, ks = S8.knw (S8.nxt a n) := ⟨_, rfl⟩
    rw [← hks] at KS1 hkn
    clear hks hx h2 h3
    rw [h1] at NX CS CP KS1 hkn
    clear h1
    obtain ⟨a0, a1, a2⟩ := a
    obtain ⟨o0, o1, o2⟩ := o
    unfold S8.nin at h4
    obtain ⟨i1, i2, i3, i4, i5, i6, i7, i8⟩ := h4
    simp only at HKO HOB NX CS CP KS1 hkn i1 i2 i3 i4 i7 i8
    obtain ⟨m, hm, hmc⟩ : ∃ m, max a0 n = m ∧ ((n ≤ a0 ∧ m = a0) ∨ (a0 < n ∧ m = n)) := ⟨_, rfl, by omega⟩
    rw [hm] at NX CS CP KS1 hkn
    have hm2 : max n a0 = m := by rw [Int.max_comm]; exact hm
    have HWR := hid (show IntKind.i64.wrap (a2 + 1 - a2) = 1 by rw [show a2 + 1 - a2 = 1 by omega]; rfl)
    obtain ⟨ko, hko⟩ : ∃ ko, ko = S8.knw (o0, o1, o2) := ⟨_, rfl⟩
    obtain ⟨f, hf⟩ : ∃ f, f = S8.chk (o0, o1, o2) := ⟨_, rfl⟩
    rw [← hko] at KO HKO; rw [← hf] at KO HO
    clear hko hf hm HKN
    have hd : f = 80 ∨ (f = 0 ∧ m < o0) ∨ (f = 0 ∧ ¬ m < o0 ∧ ko < ks) := by
      rcases HO.out with ⟨rfl, ho⟩ | ⟨rfl, ho⟩
      · have h1 := HKO.out ho; have h2 := HOB.out ho
        by_cases hl : m < o0
        · exact .inr (.inl ⟨rfl, hl⟩)
        · exact .inr (.inr ⟨rfl, hl, by omega⟩)
      · exact .inl rfl
    have hmb : 0 ≤ m ∧ m ≤ 1048576 := by omega
    clear hkn HKO HOB HO
    rcases hd with rfl | ⟨rfl, hl⟩ | ⟨rfl, hl, hl2⟩
    · clear i1 i2 i3 i4 i5 i6
      go_enter Try.func7, Try.ntmps7
      go_upto_region 1 with fail
      obtain ⟨Z, hZ⟩ : ∃ Z, Z = ((w.alloc (.cells #[.int .i64 a0, .int .i64 a1, .int .i64 a2] 23)).alloc (.cells #[.int .i64 o0, .int .i64 o1, .int .i64 o2] 23)) := ⟨_, rfl⟩
      have HZ := hid (show Below w.heap.size w Z from by rw [hZ]; exact ((Below.refl _ w).alloc (Nat.le_refl _) _).alloc (by simp) _)
      have ba : Blk Z (w.heap.size) 23 (kc (a0, a1, a2)) := by
        have h := Blk.new w 23 (kc (a0, a1, a2))
        rw [hZ]; exact h.alloc _
      have HaC := hid (fun (W : World) (hW : Below Z.heap.size Z W) => show At3 W (w.heap.size) 0 (a0, a1, a2) from ⟨(ba.below hW ba.lt).cell 0 _ rfl, (ba.below hW ba.lt).cell 1 _ rfl, (ba.below hW ba.lt).cell 2 _ rfl⟩)
      have bo : Blk Z (w.heap.size + 1) 23 (kc (o0, o1, o2)) := by
        have h := Blk.new (w.alloc (.cells #[.int .i64 a0, .int .i64 a1, .int .i64 a2] 23)) 23 (kc (o0, o1, o2))
        rw [World.size_alloc] at h
        rw [hZ]; exact h
      have HoC := hid (fun (W : World) (hW : Below Z.heap.size Z W) => show At3 W (w.heap.size + 1) 0 (o0, o1, o2) from ⟨(bo.below hW bo.lt).cell 0 _ rfl, (bo.below hW bo.lt).cell 1 _ rfl, (bo.below hW bo.lt).cell 2 _ rfl⟩)
      have HT := hid (Below.refl Z.heap.size Z)
      rw [← hZ]
      clear hZ ba bo
      go_wp2_with fail
      refine (SA.out _).mono ?_
      rintro e wn ⟨rfl, hb⟩
      have HT := hid (below_t HT.out hb)
      clear hb
      obtain ⟨ac0, ac1, ac2⟩ := HaC.out _ HT.out; obtain ⟨oc0, oc1, oc2⟩ := HoC.out _ HT.out
      go_wp2_with fail
      refine (NX.out _).mono ?_
      rintro e wn ⟨rfl, hb⟩
      have HT := hid (below_t HT.out hb)
      clear hb
      clear ac0 ac1 ac2 oc0 oc1 oc2
      go_upto_region 4 with fail
      obtain ⟨Y, hY⟩ : ∃ Y, Y = wn.alloc (.cells #[.int .i64 (m + 1), .int .i64 (a1), .int .i64 (a2 + 1)] 23) := ⟨_, rfl⟩
      have HT := hid (show Below Z.heap.size Z Y from by rw [hY]; exact HT.out.alloc HT.out.size _)
      have bF : Blk Y wn.heap.size 23 (kc (m + 1, a1, a2 + 1)) := by rw [hY]; exact Blk.new wn 23 (kc (m + 1, a1, a2 + 1))
      have HsC0 := hid (fun (W : World) (hW : Below Y.heap.size Y W) => show At3 W wn.heap.size 0 (m + 1, a1, a2 + 1) from ⟨(bF.below hW bF.lt).cell 0 _ rfl, (bF.below hW bF.lt).cell 1 _ rfl, (bF.below hW bF.lt).cell 2 _ rfl⟩)
      obtain ⟨xF, hxF⟩ : ∃ x, x = wn.heap.size := ⟨_, rfl⟩
      rw [← hxF] at HsC0
      rw [← hY, ← hxF]
      clear hY bF hxF
      have HTY := hid (Below.refl Y.heap.size Y)
      obtain ⟨ac0, ac1, ac2⟩ := HaC.out _ HT.out; obtain ⟨oc0, oc1, oc2⟩ := HoC.out _ HT.out
      obtain ⟨sc0, sc1, sc2⟩ := HsC0.out _ HTY.out
      go_wp2_with fail
      refine (CS.out _).mono ?_
      rintro e wn2 ⟨rfl, hb⟩
      have HT := hid (below_t HT.out hb)
      have HTY := hid (below_t HTY.out hb)
      clear hb
      clear ac0 ac1 ac2 oc0 oc1 oc2
      clear sc0 sc1 sc2
      obtain ⟨ac0, ac1, ac2⟩ := HaC.out _ HT.out; obtain ⟨oc0, oc1, oc2⟩ := HoC.out _ HT.out
      obtain ⟨sc0, sc1, sc2⟩ := HsC0.out _ HTY.out
      have hwr := HWR.out
      go_wp2_with fail
      refine (CP.out _).mono ?_
      rintro e wn2 ⟨rfl, hb⟩
      have HT := hid (below_t HT.out hb)
      have HTY := hid (below_t HTY.out hb)
      clear hb
      clear ac0 ac1 ac2 oc0 oc1 oc2
      clear sc0 sc1 sc2
      obtain ⟨ac0, ac1, ac2⟩ := HaC.out _ HT.out; obtain ⟨oc0, oc1, oc2⟩ := HoC.out _ HT.out
      obtain ⟨sc0, sc1, sc2⟩ := HsC0.out _ HTY.out
      go_wp2_with fail
      refine (KS1.out _).mono ?_
      rintro e wn2 ⟨rfl, hb⟩
      have HT := hid (below_t HT.out hb)
      have HTY := hid (below_t HTY.out hb)
      clear hb
      clear ac0 ac1 ac2 oc0 oc1 oc2
      clear sc0 sc1 sc2
      obtain ⟨ac0, ac1, ac2⟩ := HaC.out _ HT.out; obtain ⟨oc0, oc1, oc2⟩ := HoC.out _ HT.out
      obtain ⟨sc0, sc1, sc2⟩ := HsC0.out _ HTY.out
      go_wp2_with fail
      refine (KO.out _).mono ?_
      rintro e wn2 ⟨rfl, hb⟩
      have HT := hid (below_t HT.out hb)
      have HTY := hid (below_t HTY.out hb)
      clear hb
      clear ac0 ac1 ac2 oc0 oc1 oc2
      clear sc0 sc1 sc2
      obtain ⟨ac0, ac1, ac2⟩ := HaC.out _ HT.out; obtain ⟨oc0, oc1, oc2⟩ := HoC.out _ HT.out
      obtain ⟨sc0, sc1, sc2⟩ := HsC0.out _ HTY.out
      go_wp2
      all_goals (go_ret; exact ⟨rfl, below_t HZ.out HT.out⟩)
    · clear i1 i2 i3 i4 i5 i6
      go_enter Try.func7, Try.ntmps7
      go_upto_region 1 with fail
      obtain ⟨Z, hZ⟩ : ∃ Z, Z = ((w.alloc (.cells #[.int .i64 a0, .int .i64 a1, .int .i64 a2] 23)).alloc (.cells #[.int .i64 o0, .int .i64 o1, .int .i64 o2] 23)) := ⟨_, rfl⟩
      have HZ := hid (show Below w.heap.size w Z from by rw [hZ]; exact ((Below.refl _ w).alloc (Nat.le_refl _) _).alloc (by simp) _)
      have ba : Blk Z (w.heap.size) 23 (kc (a0, a1, a2)) := by
        have h := Blk.new w 23 (kc (a0, a1, a2))
        rw [hZ]; exact h.alloc _
      have HaC := hid (fun (W : World) (hW : Below Z.heap.size Z W) => show At3 W (w.heap.size) 0 (a0, a1, a2) from ⟨(ba.below hW ba.lt).cell 0 _ rfl, (ba.below hW ba.lt).cell 1 _ rfl, (ba.below hW ba.lt).cell 2 _ rfl⟩)
      have bo : Blk Z (w.heap.size + 1) 23 (kc (o0, o1, o2)) := by
        have h := Blk.new (w.alloc (.cells #[.int .i64 a0, .int .i64 a1, .int .i64 a2] 23)) 23 (kc (o0, o1, o2))
        rw [World.size_alloc] at h
        rw [hZ]; exact h
      have HoC := hid (fun (W : World) (hW : Below Z.heap.size Z W) => show At3 W (w.heap.size + 1) 0 (o0, o1, o2) from ⟨(bo.below hW bo.lt).cell 0 _ rfl, (bo.below hW bo.lt).cell 1 _ rfl, (bo.below hW bo.lt).cell 2 _ rfl⟩)
      have HT := hid (Below.refl Z.heap.size Z)
      rw [← hZ]
      clear hZ ba bo
      go_wp2_with fail
      refine (SA.out _).mono ?_
      rintro e wn ⟨rfl, hb⟩
      have HT := hid (below_t HT.out hb)
      clear hb
      obtain ⟨ac0, ac1, ac2⟩ := HaC.out _ HT.out; obtain ⟨oc0, oc1, oc2⟩ := HoC.out _ HT.out
      go_wp2_with fail
      refine (NX.out _).mono ?_
      rintro e wn ⟨rfl, hb⟩
      have HT := hid (below_t HT.out hb)
      clear hb
      clear ac0 ac1 ac2 oc0 oc1 oc2
      go_upto_region 4 with fail
      obtain ⟨Y, hY⟩ : ∃ Y, Y = wn.alloc (.cells #[.int .i64 (m + 1), .int .i64 (a1), .int .i64 (a2 + 1)] 23) := ⟨_, rfl⟩
      have HT := hid (show Below Z.heap.size Z Y from by rw [hY]; exact HT.out.alloc HT.out.size _)
      have bF : Blk Y wn.heap.size 23 (kc (m + 1, a1, a2 + 1)) := by rw [hY]; exact Blk.new wn 23 (kc (m + 1, a1, a2 + 1))
      have HsC0 := hid (fun (W : World) (hW : Below Y.heap.size Y W) => show At3 W wn.heap.size 0 (m + 1, a1, a2 + 1) from ⟨(bF.below hW bF.lt).cell 0 _ rfl, (bF.below hW bF.lt).cell 1 _ rfl, (bF.below hW bF.lt).cell 2 _ rfl⟩)
      obtain ⟨xF, hxF⟩ : ∃ x, x = wn.heap.size := ⟨_, rfl⟩
      rw [← hxF] at HsC0
      rw [← hY, ← hxF]
      clear hY bF hxF
      have HTY := hid (Below.refl Y.heap.size Y)
      obtain ⟨ac0, ac1, ac2⟩ := HaC.out _ HT.out; obtain ⟨oc0, oc1, oc2⟩ := HoC.out _ HT.out
      obtain ⟨sc0, sc1, sc2⟩ := HsC0.out _ HTY.out
      go_wp2_with fail
      refine (CS.out _).mono ?_
      rintro e wn2 ⟨rfl, hb⟩
      have HT := hid (below_t HT.out hb)
      have HTY := hid (below_t HTY.out hb)
      clear hb
      clear ac0 ac1 ac2 oc0 oc1 oc2
      clear sc0 sc1 sc2
      obtain ⟨ac0, ac1, ac2⟩ := HaC.out _ HT.out; obtain ⟨oc0, oc1, oc2⟩ := HoC.out _ HT.out
      obtain ⟨sc0, sc1, sc2⟩ := HsC0.out _ HTY.out
      have hwr := HWR.out
      go_wp2_with fail
      refine (CP.out _).mono ?_
      rintro e wn2 ⟨rfl, hb⟩
      have HT := hid (below_t HT.out hb)
      have HTY := hid (below_t HTY.out hb)
      clear hb
      clear ac0 ac1 ac2 oc0 oc1 oc2
      clear sc0 sc1 sc2
      obtain ⟨ac0, ac1, ac2⟩ := HaC.out _ HT.out; obtain ⟨oc0, oc1, oc2⟩ := HoC.out _ HT.out
      obtain ⟨sc0, sc1, sc2⟩ := HsC0.out _ HTY.out
      go_wp2_with fail
      refine (KS1.out _).mono ?_
      rintro e wn2 ⟨rfl, hb⟩
      have HT := hid (below_t HT.out hb)
      have HTY := hid (below_t HTY.out hb)
      clear hb
      clear ac0 ac1 ac2 oc0 oc1 oc2
      clear sc0 sc1 sc2
      obtain ⟨ac0, ac1, ac2⟩ := HaC.out _ HT.out; obtain ⟨oc0, oc1, oc2⟩ := HoC.out _ HT.out
      obtain ⟨sc0, sc1, sc2⟩ := HsC0.out _ HTY.out
      go_wp2_with fail
      refine (KO.out _).mono ?_
      rintro e wn2 ⟨rfl, hb⟩
      have HT := hid (below_t HT.out hb)
      have HTY := hid (below_t HTY.out hb)
      clear hb
      clear ac0 ac1 ac2 oc0 oc1 oc2
      clear sc0 sc1 sc2
      obtain ⟨ac0, ac1, ac2⟩ := HaC.out _ HT.out; obtain ⟨oc0, oc1, oc2⟩ := HoC.out _ HT.out
      obtain ⟨sc0, sc1, sc2⟩ := HsC0.out _ HTY.out
      go_wp2
      all_goals (go_ret; exact ⟨rfl, below_t HZ.out HT.out⟩)
    · clear i1 i2 i3 i4 i5 i6
      go_enter Try.func7, Try.ntmps7
      go_upto_region 1 with fail
      obtain ⟨Z, hZ⟩ : ∃ Z, Z = ((w.alloc (.cells #[.int .i64 a0, .int .i64 a1, .int .i64 a2] 23)).alloc (.cells #[.int .i64 o0, .int .i64 o1, .int .i64 o2] 23)) := ⟨_, rfl⟩
      have HZ := hid (show Below w.heap.size w Z from by rw [hZ]; exact ((Below.refl _ w).alloc (Nat.le_refl _) _).alloc (by simp) _)
      have ba : Blk Z (w.heap.size) 23 (kc (a0, a1, a2)) := by
        have h := Blk.new w 23 (kc (a0, a1, a2))
        rw [hZ]; exact h.alloc _
      have HaC := hid (fun (W : World) (hW : Below Z.heap.size Z W) => show At3 W (w.heap.size) 0 (a0, a1, a2) from ⟨(ba.below hW ba.lt).cell 0 _ rfl, (ba.below hW ba.lt).cell 1 _ rfl, (ba.below hW ba.lt).cell 2 _ rfl⟩)
      have bo : Blk Z (w.heap.size + 1) 23 (kc (o0, o1, o2)) := by
        have h := Blk.new (w.alloc (.cells #[.int .i64 a0, .int .i64 a1, .int .i64 a2] 23)) 23 (kc (o0, o1, o2))
        rw [World.size_alloc] at h
        rw [hZ]; exact h
      have HoC := hid (fun (W : World) (hW : Below Z.heap.size Z W) => show At3 W (w.heap.size + 1) 0 (o0, o1, o2) from ⟨(bo.below hW bo.lt).cell 0 _ rfl, (bo.below hW bo.lt).cell 1 _ rfl, (bo.below hW bo.lt).cell 2 _ rfl⟩)
      have HT := hid (Below.refl Z.heap.size Z)
      rw [← hZ]
      clear hZ ba bo
      go_wp2_with fail
      refine (SA.out _).mono ?_
      rintro e wn ⟨rfl, hb⟩
      have HT := hid (below_t HT.out hb)
      clear hb
      obtain ⟨ac0, ac1, ac2⟩ := HaC.out _ HT.out; obtain ⟨oc0, oc1, oc2⟩ := HoC.out _ HT.out
      go_wp2_with fail
      refine (NX.out _).mono ?_
      rintro e wn ⟨rfl, hb⟩
      have HT := hid (below_t HT.out hb)
      clear hb
      clear ac0 ac1 ac2 oc0 oc1 oc2
      go_upto_region 4 with fail
      obtain ⟨Y, hY⟩ : ∃ Y, Y = wn.alloc (.cells #[.int .i64 (m + 1), .int .i64 (a1), .int .i64 (a2 + 1)] 23) := ⟨_, rfl⟩
      have HT := hid (show Below Z.heap.size Z Y from by rw [hY]; exact HT.out.alloc HT.out.size _)
      have bF : Blk Y wn.heap.size 23 (kc (m + 1, a1, a2 + 1)) := by rw [hY]; exact Blk.new wn 23 (kc (m + 1, a1, a2 + 1))
      have HsC0 := hid (fun (W : World) (hW : Below Y.heap.size Y W) => show At3 W wn.heap.size 0 (m + 1, a1, a2 + 1) from ⟨(bF.below hW bF.lt).cell 0 _ rfl, (bF.below hW bF.lt).cell 1 _ rfl, (bF.below hW bF.lt).cell 2 _ rfl⟩)
      obtain ⟨xF, hxF⟩ : ∃ x, x = wn.heap.size := ⟨_, rfl⟩
      rw [← hxF] at HsC0
      rw [← hY, ← hxF]
      clear hY bF hxF
      have HTY := hid (Below.refl Y.heap.size Y)
      obtain ⟨ac0, ac1, ac2⟩ := HaC.out _ HT.out; obtain ⟨oc0, oc1, oc2⟩ := HoC.out _ HT.out
      obtain ⟨sc0, sc1, sc2⟩ := HsC0.out _ HTY.out
      go_wp2_with fail
      refine (CS.out _).mono ?_
      rintro e wn2 ⟨rfl, hb⟩
      have HT := hid (below_t HT.out hb)
      have HTY := hid (below_t HTY.out hb)
      clear hb
      clear ac0 ac1 ac2 oc0 oc1 oc2
      clear sc0 sc1 sc2
      obtain ⟨ac0, ac1, ac2⟩ := HaC.out _ HT.out; obtain ⟨oc0, oc1, oc2⟩ := HoC.out _ HT.out
      obtain ⟨sc0, sc1, sc2⟩ := HsC0.out _ HTY.out
      have hwr := HWR.out
      go_wp2_with fail
      refine (CP.out _).mono ?_
      rintro e wn2 ⟨rfl, hb⟩
      have HT := hid (below_t HT.out hb)
      have HTY := hid (below_t HTY.out hb)
      clear hb
      clear ac0 ac1 ac2 oc0 oc1 oc2
      clear sc0 sc1 sc2
      obtain ⟨ac0, ac1, ac2⟩ := HaC.out _ HT.out; obtain ⟨oc0, oc1, oc2⟩ := HoC.out _ HT.out
      obtain ⟨sc0, sc1, sc2⟩ := HsC0.out _ HTY.out
      go_wp2_with fail
      refine (KS1.out _).mono ?_
      rintro e wn2 ⟨rfl, hb⟩
      have HT := hid (below_t HT.out hb)
      have HTY := hid (below_t HTY.out hb)
      clear hb
      clear ac0 ac1 ac2 oc0 oc1 oc2
      clear sc0 sc1 sc2
      obtain ⟨ac0, ac1, ac2⟩ := HaC.out _ HT.out; obtain ⟨oc0, oc1, oc2⟩ := HoC.out _ HT.out
      obtain ⟨sc0, sc1, sc2⟩ := HsC0.out _ HTY.out
      go_wp2_with fail
      refine (KO.out _).mono ?_
      rintro e wn2 ⟨rfl, hb⟩
      have HT := hid (below_t HT.out hb)
      have HTY := hid (below_t HTY.out hb)
      clear hb
      clear ac0 ac1 ac2 oc0 oc1 oc2
      clear sc0 sc1 sc2
      obtain ⟨ac0, ac1, ac2⟩ := HaC.out _ HT.out; obtain ⟨oc0, oc1, oc2⟩ := HoC.out _ HT.out
      obtain ⟨sc0, sc1, sc2⟩ := HsC0.out _ HTY.out
      go_wp2
      all_goals (go_ret; exact ⟨rfl, below_t HZ.out HT.out⟩)
  · have he := S8.nxt_err hx
    rw [he] at NX
    obtain ⟨e, hee⟩ : ∃ e, e = S8.nxe a n := ⟨_, rfl⟩
    rw [← hee] at NX hx
    have hd1 : (e == 0) = false := by simpa using hx
    have HPE := hid (fun w => st_eq (0, 0, 0) (0, 0, 0) w)
    rw [show decide (((0, 0, 0) : St) = (0, 0, 0)) = true by decide] at HPE
    clear he hee hx HKO HKN HOB HO KO
    obtain ⟨a0, a1, a2⟩ := a
    obtain ⟨o0, o1, o2⟩ := o
    go_enter Try.func7, Try.ntmps7
    go_upto_region 1 with fail
    obtain ⟨Z, hZ⟩ : ∃ Z, Z = ((w.alloc (.cells #[.int .i64 a0, .int .i64 a1, .int .i64 a2] 23)).alloc (.cells #[.int .i64 o0, .int .i64 o1, .int .i64 o2] 23)) := ⟨_, rfl⟩
    have HZ := hid (show Below w.heap.size w Z from by rw [hZ]; exact ((Below.refl _ w).alloc (Nat.le_refl _) _).alloc (by simp) _)
    have ba : Blk Z (w.heap.size) 23 (kc (a0, a1, a2)) := by
      have h := Blk.new w 23 (kc (a0, a1, a2))
      rw [hZ]; exact h.alloc _
    have HaC := hid (fun (W : World) (hW : Below Z.heap.size Z W) => show At3 W (w.heap.size) 0 (a0, a1, a2) from ⟨(ba.below hW ba.lt).cell 0 _ rfl, (ba.below hW ba.lt).cell 1 _ rfl, (ba.below hW ba.lt).cell 2 _ rfl⟩)
    have bo : Blk Z (w.heap.size + 1) 23 (kc (o0, o1, o2)) := by
      have h := Blk.new (w.alloc (.cells #[.int .i64 a0, .int .i64 a1, .int .i64 a2] 23)) 23 (kc (o0, o1, o2))
      rw [World.size_alloc] at h
      rw [hZ]; exact h
    have HoC := hid (fun (W : World) (hW : Below Z.heap.size Z W) => show At3 W (w.heap.size + 1) 0 (o0, o1, o2) from ⟨(bo.below hW bo.lt).cell 0 _ rfl, (bo.below hW bo.lt).cell 1 _ rfl, (bo.below hW bo.lt).cell 2 _ rfl⟩)
    have HT := hid (Below.refl Z.heap.size Z)
    rw [← hZ]
    clear hZ ba bo
    go_wp2_with fail
    refine (SA.out _).mono ?_
    rintro e wn ⟨rfl, hb⟩
    have HT := hid (below_t HT.out hb)
    clear hb
    obtain ⟨ac0, ac1, ac2⟩ := HaC.out _ HT.out; obtain ⟨oc0, oc1, oc2⟩ := HoC.out _ HT.out
    go_wp2_with fail
    refine (NX.out _).mono ?_
    rintro e wn ⟨rfl, hb⟩
    have HT := hid (below_t HT.out hb)
    clear hb
    clear ac0 ac1 ac2 oc0 oc1 oc2
    go_upto_region 4 with fail
    obtain ⟨Y, hY⟩ : ∃ Y, Y = wn.alloc (.cells #[.int .i64 (0), .int .i64 (0), .int .i64 (0)] 23) := ⟨_, rfl⟩
    have HT := hid (show Below Z.heap.size Z Y from by rw [hY]; exact HT.out.alloc HT.out.size _)
    have bF : Blk Y wn.heap.size 23 (kc (0, 0, 0)) := by rw [hY]; exact Blk.new wn 23 (kc (0, 0, 0))
    have HsC0 := hid (fun (W : World) (hW : Below Y.heap.size Y W) => show At3 W wn.heap.size 0 (0, 0, 0) from ⟨(bF.below hW bF.lt).cell 0 _ rfl, (bF.below hW bF.lt).cell 1 _ rfl, (bF.below hW bF.lt).cell 2 _ rfl⟩)
    obtain ⟨xF, hxF⟩ : ∃ x, x = wn.heap.size := ⟨_, rfl⟩
    rw [← hxF] at HsC0
    rw [← hY, ← hxF]
    clear hY bF hxF
    have HTY := hid (Below.refl Y.heap.size Y)
    obtain ⟨sc0, sc1, sc2⟩ := HsC0.out _ HTY.out
    have hpe := HPE.out
    have hg60 : Try.prog.eqGuardType Try.prog.depth 23 = false := by kernel_rfl
    go_wp2
    all_goals (go_ret; exact ⟨rfl, below_t HZ.out HT.out⟩)
end Go.Proofs.Ytlkcnnamnjnmbaa

/- Contract: sane. -/
import Derived.Test.YtlkcnnamnjnmbaaK
import Derived.Test.YtlkcnnamnjnmbaaD5
namespace Go.Proofs.Ytlkcnnamnjnmbaa
open Go.RowKit Go
set_option linter.unusedVariables false
set_option linter.unusedSimpArgs false
theorem ks_new {W : World} {B n : Nat} {l : List St} (h : Blk W B 23 (l.flatMap kc)) (hl : l.length ≤ maxLen) (hn : n = l.length := by rfl) : KS W (.slice (some ⟨B, 0, none⟩) n n) l := by
  subst hn
  exact .inr ⟨⟨B, 0, none⟩, l.length, rfl, Nat.le_refl _, hl, fun j u hj => by rw [add_plain, Nat.zero_add]; exact h.cell j u hj, h.lt⟩
set_option maxRecDepth 100000 in
set_option maxHeartbeats 8000000 in
theorem sane_any (w : World) : Calls Try.prog 10 #[] w fun e w' => e = .returned (.bool true) ∧ Below w.heap.size w w' := by
  have K1 := hid (fun W => Known_any (3, 1, 5) W)
  rw [show S8.knw (3, 1, 5) = 25 by decide +kernel, show S8.chk (3, 1, 5) = 0 by decide +kernel] at K1
  have O1 := hid (fun W => Of_any 31 (by unfold I64; omega) W)
  rw [show S8.oft 31 = 0 by decide +kernel, show S8.ofc 31 = 0 by decide +kernel, show S8.ofe 31 = 80 by decide +kernel] at O1
  have O2 := hid (fun W => Of_any 25 (by unfold I64; omega) W)
  rw [show S8.oft 25 = 3 by decide +kernel, show S8.ofc 25 = 1 by decide +kernel, show S8.ofe 25 = 0 by decide +kernel] at O2
  have N1 := hid (fun W => Next_any (0, 2, 0) 0 W)
  rw [show S8.nxt (0, 2, 0) 0 = (1, 2, 1) by decide +kernel, show S8.nxe (0, 2, 0) 0 = 0 by decide +kernel] at N1
  have N2 := hid (fun W => Next_any (1048576, 0, 3) 0 W)
  rw [show S8.nxt (1048576, 0, 3) 0 = (0, 0, 0) by decide +kernel, show S8.nxe (1048576, 0, 3) 0 = 2 by decide +kernel] at N2
  have CMP := hid (fun W => Compare_any (3, 0, 9) (3, 1, 1) W)
  rw [show S8.cp (3, 0, 9) (3, 1, 1) = -1 by decide +kernel] at CMP
  have CA := hid (fun W => Check_any (3, 0, 9) W)
  rw [show S8.chk (3, 0, 9) = 0 by decide +kernel] at CA
  have HPE := hid (fun w => st_eq (1, 2, 1) (1, 2, 1) w)
  rw [show decide (((1, 2, 1) : St) = (1, 2, 1)) = true by decide] at HPE
  go_enter Try.func10, Try.ntmps10
  go_upto_region 2 with fail
  obtain ⟨Z, hZ⟩ : ∃ Z, Z = (w.alloc (.cells #[.int .i64 3, .int .i64 0, .int .i64 9] 23)).alloc (.cells #[.int .i64 3, .int .i64 1, .int .i64 1] 23) := ⟨_, rfl⟩
  have HZ := hid (show Below w.heap.size w Z from by rw [hZ]; exact ((Below.refl _ w).alloc (Nat.le_refl _) _).alloc (by simp) _)
  have bA : Blk Z w.heap.size 23 (kc (3, 0, 9)) := by rw [hZ]; exact (Blk.new w 23 (kc (3, 0, 9))).alloc _
  have bB : Blk Z (w.heap.size + 1) 23 (kc (3, 1, 1)) := by have h := Blk.new (w.alloc (.cells #[.int .i64 3, .int .i64 0, .int .i64 9] 23)) 23 (kc (3, 1, 1)); rw [World.size_alloc] at h; rw [hZ]; exact h
  have HAC := hid (fun (W : World) (hW : Below Z.heap.size Z W) => show At3 W w.heap.size 0 (3, 0, 9) from ⟨(bA.below hW bA.lt).cell 0 _ rfl, (bA.below hW bA.lt).cell 1 _ rfl, (bA.below hW bA.lt).cell 2 _ rfl⟩)
  have HBC := hid (fun (W : World) (hW : Below Z.heap.size Z W) => show At3 W (w.heap.size + 1) 0 (3, 1, 1) from ⟨(bB.below hW bB.lt).cell 0 _ rfl, (bB.below hW bB.lt).cell 1 _ rfl, (bB.below hW bB.lt).cell 2 _ rfl⟩)
  have HT := hid (Below.refl Z.heap.size Z)
  rw [← hZ]
  clear hZ bA bB
  go_wp2_with fail
  refine (K1.out _).mono ?_
  rintro e wn ⟨rfl, hb⟩
  have HT := hid (below_t HT.out hb)
  clear hb
  go_wp2_with fail
  refine (O1.out _).mono ?_
  rintro e wn ⟨rfl, hb⟩
  have HT := hid (below_t HT.out hb)
  clear hb
  go_wp2_with fail
  refine (N1.out _).mono ?_
  rintro e wn ⟨rfl, hb⟩
  have HT := hid (below_t HT.out hb)
  clear hb
  go_upto_region 5 with fail
  obtain ⟨Y, hY⟩ : ∃ Y, Y = wn.alloc (.cells #[.int .i64 1, .int .i64 2, .int .i64 1] 23) := ⟨_, rfl⟩
  have HT := hid (show Below Z.heap.size Z Y from by rw [hY]; exact HT.out.alloc HT.out.size _)
  have bF : Blk Y wn.heap.size 23 (kc (1, 2, 1)) := by rw [hY]; exact Blk.new wn 23 (kc (1, 2, 1))
  have HFC := hid (fun (W : World) (hW : Below Y.heap.size Y W) => show At3 W wn.heap.size 0 (1, 2, 1) from ⟨(bF.below hW bF.lt).cell 0 _ rfl, (bF.below hW bF.lt).cell 1 _ rfl, (bF.below hW bF.lt).cell 2 _ rfl⟩)
  obtain ⟨xF, hxF⟩ : ∃ x, x = wn.heap.size := ⟨_, rfl⟩
  rw [← hxF] at HFC
  rw [← hY, ← hxF]
  clear hY bF hxF
  have HTY := hid (Below.refl Y.heap.size Y)
  go_wp2_with fail
  refine (N2.out _).mono ?_
  rintro e wn ⟨rfl, hb⟩
  have HT := hid (below_t HT.out hb)
  have HTY := hid (below_t HTY.out hb)
  clear hb
  go_upto_region 6 with fail
  obtain ⟨Y2, hY2⟩ : ∃ Y, Y = wn.alloc (.cells #[.int .i64 0, .int .i64 0, .int .i64 0] 23) := ⟨_, rfl⟩
  have HT := hid (show Below Z.heap.size Z Y2 from by rw [hY2]; exact HT.out.alloc HT.out.size _)
  have HTY := hid (show Below Y.heap.size Y Y2 from by rw [hY2]; exact HTY.out.alloc HTY.out.size _)
  rw [← hY2]
  clear hY2
  go_wp2_with fail
  refine (O2.out _).mono ?_
  rintro e wn ⟨rfl, hb⟩
  have HT := hid (below_t HT.out hb)
  have HTY := hid (below_t HTY.out hb)
  clear hb
  obtain ⟨a0, a1, a2⟩ := HAC.out _ HT.out; obtain ⟨b0, b1, b2⟩ := HBC.out _ HT.out
  have d1 := HBC.out (wn.alloc (.cells #[.int .i64 3, .int .i64 1, .int .i64 1] 23)) (HT.out.alloc HT.out.size _)
  have d2 := HAC.out (wn.alloc (.cells #[.int .i64 3, .int .i64 1, .int .i64 1] 23)) (HT.out.alloc HT.out.size _)
  obtain ⟨d10, d11, d12⟩ := d1
  obtain ⟨d20, d21, d22⟩ := d2
  go_wp2_with fail
  obtain ⟨Y3, hY3⟩ : ∃ Y, Y = (wn.alloc (.cells #[.int .i64 3, .int .i64 1, .int .i64 1] 23)).alloc (.cells #[.int .i64 3, .int .i64 0, .int .i64 9, .int .i64 3, .int .i64 1, .int .i64 1] 23) := ⟨_, rfl⟩
  have g1 : Blk Y3 wn.heap.size 23 (kc (3, 1, 1)) := by rw [hY3]; exact (Blk.new wn 23 (kc (3, 1, 1))).alloc _
  have g2 : Blk Y3 (wn.heap.size + 1) 23 (([(3, 0, 9), (3, 1, 1)] : List St).flatMap kc) := by have h := Blk.new (wn.alloc (.cells #[.int .i64 3, .int .i64 1, .int .i64 1] 23)) 23 (([(3, 0, 9), (3, 1, 1)] : List St).flatMap kc); rw [World.size_alloc] at h; rw [hY3]; exact h
  have hb3 : Below wn.heap.size wn Y3 := by rw [hY3]; exact ((Below.refl _ wn).alloc (Nat.le_refl _) _).alloc (by simp) _
  have HT := hid (below_t HT.out hb3)
  have HTY := hid (below_t HTY.out hb3)
  rw [← hY3]
  clear hY3 hb3
  have hM := Merge_any (.slice (some ⟨wn.heap.size, 0, none⟩) 1 1) (.slice (some ⟨wn.heap.size + 1, 0, none⟩) 2 2) [(3, 1, 1)] [(3, 0, 9), (3, 1, 1)] Y3 (ks_new (l := [(3, 1, 1)]) g1 (by simp [maxLen])) (ks_new (l := [(3, 0, 9), (3, 1, 1)]) g2 (by simp [maxLen])) (by simp)
  rw [show S8.mge [(3, 1, 1)] [(3, 0, 9), (3, 1, 1)] = 0 by decide +kernel, show S8.mg [(3, 1, 1)] [(3, 0, 9), (3, 1, 1)] = [(3, 0, 9), (3, 1, 1)] by decide +kernel] at hM
  have HM := hid hM
  clear hM g1 g2 a0 a1 a2 b0 b1 b2 d10 d11 d12 d20 d21 d22
  refine HM.out.mono ?_
  rintro e w6 ⟨⟨u, rfl, hu⟩, hb⟩
  have HT := hid (below_t HT.out hb)
  have HTY := hid (below_t HTY.out hb)
  obtain ⟨pu, cu, hfu⟩ := hu.form
  have hfu2 : u = .slice pu 2 cu := hfu
  subst hfu2
  have HU := hid hu
  clear hb hu hfu HM
  go_upto_region 9 with fail
  obtain ⟨Y4, hY4⟩ : ∃ Y, Y = w6.alloc (.cells #[.int .i64 0, .int .i64 0, .int .i64 1, .int .i64 1, .int .i64 7, .int .i64 1, .int .i64 1, .int .i64 0, .int .i64 0] 23) := ⟨_, rfl⟩
  have g3 : Blk Y4 w6.heap.size 23 (([(0, 0, 1), (1, 7, 1), (1, 0, 0)] : List St).flatMap kc) := by rw [hY4]; exact Blk.new w6 23 (([(0, 0, 1), (1, 7, 1), (1, 0, 0)] : List St).flatMap kc)
  have hb4 : Below w6.heap.size w6 Y4 := by rw [hY4]; exact (Below.refl _ w6).alloc (Nat.le_refl _) _
  have HT := hid (below_t HT.out hb4)
  have HTY := hid (below_t HTY.out hb4)
  have HU := hid (HU.out.ups hb4)
  rw [← hY4]
  obtain ⟨x4, hx4⟩ : ∃ x, x = w6.heap.size := ⟨_, rfl⟩
  rw [← hx4] at g3 ⊢
  have HX4 := hid g3
  clear hY4 hb4 g3 hx4
  go_loopw [60] (fun s wr => ∃ j : Nat, j ≤ 3 ∧ s = .int .i64 j ∧ Below Y4.heap.size Y4 wr) (fun s _ => 3 - (intOf s).toNat)
  case atStart => exact ⟨0, by omega, rfl, Below.refl _ _⟩
  case round =>
    obtain ⟨j, hj, rfl, hbw⟩ := hrel
    have HBW := hid hbw
    have hx := (HX4.out.below hbw HX4.out.lt)
    clear hbw
    by_cases hlt : j < 3
    · have hc : ∃ s0 s1 s2 : Int, wr.cell? ⟨x4, j * 3, none⟩ = some (.int .i64 s0) ∧ wr.cell? ⟨x4, j * 3 + 1, none⟩ = some (.int .i64 s1) ∧ wr.cell? ⟨x4, j * 3 + 2, none⟩ = some (.int .i64 s2) ∧ S8.chk (s0, s1, s2) = 80 := by
        rcases (by omega : j = 0 ∨ j = 1 ∨ j = 2) with rfl | rfl | rfl
        · exact ⟨0, 0, 1, hx.cell 0 _ rfl, hx.cell 1 _ rfl, hx.cell 2 _ rfl, by decide +kernel⟩
        · exact ⟨1, 7, 1, hx.cell 3 _ rfl, hx.cell 4 _ rfl, hx.cell 5 _ rfl, by decide +kernel⟩
        · exact ⟨1, 0, 0, hx.cell 6 _ rfl, hx.cell 7 _ rfl, hx.cell 8 _ rfl, by decide +kernel⟩
      obtain ⟨s0, s1, s2, k0, k1, k2, hk⟩ := hc
      have CC := hid (fun W => Check_any (s0, s1, s2) W)
      rw [hk] at CC
      clear hk hx
      go_wp2_with fail
      refine (CC.out _).mono ?_
      rintro e wn ⟨rfl, hb⟩
      have hbal : Below wr.heap.size wr (wr.alloc (.cells #[.int .i64 s0, .int .i64 s1, .int .i64 s2] 23)) := (Below.refl _ _).alloc (Nat.le_refl _) _
      have HBN := hid (below_t HBW.out (below_t hbal hb))
      clear hb hbal
      go_wp2
      go_roundw
      case rel => exact ⟨j + 1, by omega, by go_num, HBN.out⟩
      case measure => simp [intOf]; omega
    · clear hx
      have HT := hid (below_t HT.out HBW.out)
      have HTY := hid (below_t HTY.out HBW.out)
      have HU := hid (HU.out.ups HBW.out)
      obtain ⟨a0, a1, a2⟩ := HAC.out _ HT.out; obtain ⟨b0, b1, b2⟩ := HBC.out _ HT.out
      go_wp2_with fail
      refine (CMP.out _).mono ?_
      rintro e wn ⟨rfl, hb⟩
      have HT := hid (below_t HT.out hb)
      have HTY := hid (below_t HTY.out hb)
      have HU := hid (HU.out.ups hb)
      clear hb a0 a1 a2 b0 b1 b2
      obtain ⟨a0, a1, a2⟩ := HAC.out _ HT.out; obtain ⟨b0, b1, b2⟩ := HBC.out _ HT.out
      obtain ⟨f0, f1, f2⟩ := HFC.out _ HTY.out
      have hpe := HPE.out
      have hg60 : Try.prog.eqGuardType Try.prog.depth 23 = false := by kernel_rfl
      go_wp2_with fail
      obtain ⟨Y5, hY5⟩ : ∃ Y, Y = wn.alloc (.cells #[.int .i64 3, .int .i64 0, .int .i64 9, .int .i64 3, .int .i64 1, .int .i64 1] 23) := ⟨_, rfl⟩
      have g5 : Blk Y5 wn.heap.size 23 (([(3, 0, 9), (3, 1, 1)] : List St).flatMap kc) := by rw [hY5]; exact Blk.new wn 23 (([(3, 0, 9), (3, 1, 1)] : List St).flatMap kc)
      have hb5 : Below wn.heap.size wn Y5 := by rw [hY5]; exact (Below.refl _ wn).alloc (Nat.le_refl _) _
      have HT := hid (below_t HT.out hb5)
      have hs := same_any (.slice pu 2 cu) (.slice (some ⟨wn.heap.size, 0, none⟩) 2 2) [(3, 0, 9), (3, 1, 1)] [(3, 0, 9), (3, 1, 1)] Y5 (HU.out.ups hb5) (ks_new (l := [(3, 0, 9), (3, 1, 1)]) g5 (by simp [maxLen]))
      rw [show decide (([(3, 0, 9), (3, 1, 1)] : List St) = [(3, 0, 9), (3, 1, 1)]) = true by simp] at hs
      have HS := hid hs
      rw [← hY5]
      clear hY5 hb5 g5 hs a0 a1 a2 b0 b1 b2 f0 f1 f2
      refine HS.out.mono ?_
      rintro e wn2 ⟨rfl, hb⟩
      have HT := hid (below_t HT.out hb)
      clear hb
      obtain ⟨a0, a1, a2⟩ := HAC.out _ HT.out; obtain ⟨b0, b1, b2⟩ := HBC.out _ HT.out
      go_wp2_with fail
      refine (CA.out _).mono ?_
      rintro e wn3 ⟨rfl, hb⟩
      have HT := hid (below_t HT.out hb)
      clear hb
      go_wp2
      go_ret
      exact ⟨rfl, below_t HZ.out HT.out⟩
end Go.Proofs.Ytlkcnnamnjnmbaa

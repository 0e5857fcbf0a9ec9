/- The chapter's examples: they hold wherever they are asked. -/
import Derived.Test.YtnbhihjhpomenaaP
namespace Go.Proofs.Ytnbhihjhpomenaa
open Go.RowKit Go
set_option linter.unusedVariables false
set_option linter.unusedSimpArgs false
set_option maxRecDepth 100000 in
set_option maxHeartbeats 8000000 in
theorem sane_any (w : World) : Calls Try.prog 10 #[] w fun e w' => e = .returned (.bool true) ∧ Below w.heap.size w w' := by
  have al0 := (Below.refl _ w).alloc (Nat.le_refl _) (.cells (sc [(1, 5)]).toArray 35)
  have al1 := (Below.refl _ (w.alloc (.cells (sc [(1, 5)]).toArray 35))).alloc (Nat.le_refl _) (.cells (sc [(3, 8)]).toArray 35)
  have HA := hid ((ss_new w [(1, 5)] (by decide)).ups al1)
  have HBB := hid (ss_new (w.alloc (.cells (sc [(1, 5)]).toArray 35)) [(3, 8)] (by decide))
  have HB := hid (al0.trans (al1.mono al0.size))
  rw [World.size_alloc] at HBB
  clear al0 al1
  go_enter Try.func10, Try.ntmps10
  go_wp2_with fail
  refine (Union_any _ _ _ _ _ HA.out HBB.out).mono ?_
  rw [ex0, ex1]
  rintro e w1 ⟨uX, rfl, hX, hb⟩
  replace HA := hid (HA.out.ups hb)
  replace HBB := hid (HBB.out.ups hb)
  replace HB := hid (HB.out.trans (hb.mono HB.out.size))
  clear hb
  have HX := hid hX; clear hX
  go_wp2_with fail
  refine (Meet_any _ _ _ _ _ HA.out HBB.out).mono ?_
  rw [ex0, ex2]
  rintro e w2 ⟨uY, rfl, hY, hb⟩
  replace HA := hid (HA.out.ups hb)
  replace HBB := hid (HBB.out.ups hb)
  replace HX := hid (HX.out.ups hb)
  replace HB := hid (HB.out.trans (hb.mono HB.out.size))
  clear hb
  have HY := hid hY; clear hY
  go_wp2_with fail
  refine (Minus_any _ _ _ _ _ HA.out HBB.out).mono ?_
  rw [ex0, ex3]
  rintro e w3 ⟨uZ, rfl, hZ, hb⟩
  replace HA := hid (HA.out.ups hb)
  replace HBB := hid (HBB.out.ups hb)
  replace HX := hid (HX.out.ups hb)
  replace HY := hid (HY.out.ups hb)
  replace HB := hid (HB.out.trans (hb.mono HB.out.size))
  clear hb
  have HZ := hid hZ; clear hZ
  go_wp2_with fail
  refine (Count_any _ _ _ HBB.out).mono ?_
  rw [ex4.1, ex4.2]
  rintro e w4 ⟨rfl, hb⟩
  replace HA := hid (HA.out.ups hb)
  replace HBB := hid (HBB.out.ups hb)
  replace HX := hid (HX.out.ups hb)
  replace HY := hid (HY.out.ups hb)
  replace HZ := hid (HZ.out.ups hb)
  replace HB := hid (HB.out.trans (hb.mono HB.out.size))
  clear hb
  go_wp2_with fail
  have al := (Below.refl _ w4).alloc (Nat.le_refl _) (.cells (sc [(1, 8)]).toArray 35)
  refine (Same_b _ _ _ _ _ (HX.out.ups al) (ss_new w4 [(1, 8)] (by decide))).mono ?_
  rw [show decide (([(1, 8)] : Sp) = [(1, 8)]) = true from by decide]
  rintro e w5 ⟨rfl, hb⟩
  have hb := (al).trans (hb.mono (al).size)
  replace HA := hid (HA.out.ups hb)
  replace HBB := hid (HBB.out.ups hb)
  replace HX := hid (HX.out.ups hb)
  replace HY := hid (HY.out.ups hb)
  replace HZ := hid (HZ.out.ups hb)
  replace HB := hid (HB.out.trans (hb.mono HB.out.size))
  clear hb
  go_wp2_with fail
  have al := (Below.refl _ w5).alloc (Nat.le_refl _) (.cells (sc [(3, 5)]).toArray 35)
  refine (Same_b _ _ _ _ _ (HY.out.ups al) (ss_new w5 [(3, 5)] (by decide))).mono ?_
  rw [show decide (([(3, 5)] : Sp) = [(3, 5)]) = true from by decide]
  rintro e w6 ⟨rfl, hb⟩
  have hb := (al).trans (hb.mono (al).size)
  replace HA := hid (HA.out.ups hb)
  replace HBB := hid (HBB.out.ups hb)
  replace HX := hid (HX.out.ups hb)
  replace HY := hid (HY.out.ups hb)
  replace HZ := hid (HZ.out.ups hb)
  replace HB := hid (HB.out.trans (hb.mono HB.out.size))
  clear hb
  go_wp2_with fail
  have al := (Below.refl _ w6).alloc (Nat.le_refl _) (.cells (sc [(1, 3)]).toArray 35)
  refine (Same_b _ _ _ _ _ (HZ.out.ups al) (ss_new w6 [(1, 3)] (by decide))).mono ?_
  rw [show decide (([(1, 3)] : Sp) = [(1, 3)]) = true from by decide]
  rintro e w7 ⟨rfl, hb⟩
  have hb := (al).trans (hb.mono (al).size)
  replace HA := hid (HA.out.ups hb)
  replace HBB := hid (HBB.out.ups hb)
  replace HX := hid (HX.out.ups hb)
  replace HY := hid (HY.out.ups hb)
  replace HZ := hid (HZ.out.ups hb)
  replace HB := hid (HB.out.trans (hb.mono HB.out.size))
  clear hb
  go_wp2_with fail
  refine (Has_any _ _ _ _ HA.out).mono ?_
  rw [ex6.1]
  rintro e w8 ⟨rfl, hb⟩
  replace HA := hid (HA.out.ups hb)
  replace HBB := hid (HBB.out.ups hb)
  replace HX := hid (HX.out.ups hb)
  replace HY := hid (HY.out.ups hb)
  replace HZ := hid (HZ.out.ups hb)
  replace HB := hid (HB.out.trans (hb.mono HB.out.size))
  clear hb
  go_wp2_with fail
  refine (Has_any _ _ _ _ HA.out).mono ?_
  rw [ex6.2]
  rintro e w9 ⟨rfl, hb⟩
  replace HA := hid (HA.out.ups hb)
  replace HBB := hid (HBB.out.ups hb)
  replace HX := hid (HX.out.ups hb)
  replace HY := hid (HY.out.ups hb)
  replace HZ := hid (HZ.out.ups hb)
  replace HB := hid (HB.out.trans (hb.mono HB.out.size))
  clear hb
  go_wp2_with fail
  refine (Check_any _ [] _ (.inl ⟨rfl, rfl⟩)).mono ?_
  rw [ex5.1]
  rintro e w10 ⟨rfl, hb⟩
  replace HA := hid (HA.out.ups hb)
  replace HBB := hid (HBB.out.ups hb)
  replace HX := hid (HX.out.ups hb)
  replace HY := hid (HY.out.ups hb)
  replace HZ := hid (HZ.out.ups hb)
  replace HB := hid (HB.out.trans (hb.mono HB.out.size))
  clear hb
  go_wp2_with fail
  have al := (Below.refl _ w10).alloc (Nat.le_refl _) (.cells (sc [(0, 1025)]).toArray 35)
  refine (Check_any _ _ _ (ss_new w10 [(0, 1025)] (by decide))).mono ?_
  rw [ex5.2.1]
  rintro e w11 ⟨rfl, hb⟩
  have hb := (al).trans (hb.mono (al).size)
  replace HA := hid (HA.out.ups hb)
  replace HBB := hid (HBB.out.ups hb)
  replace HX := hid (HX.out.ups hb)
  replace HY := hid (HY.out.ups hb)
  replace HZ := hid (HZ.out.ups hb)
  replace HB := hid (HB.out.trans (hb.mono HB.out.size))
  clear hb
  go_wp2_with fail
  have al := (Below.refl _ w11).alloc (Nat.le_refl _) (.cells (sc [(1, 3), (3, 5)]).toArray 35)
  refine (Check_any _ _ _ (ss_new w11 [(1, 3), (3, 5)] (by decide))).mono ?_
  rw [ex5.2.2]
  rintro e w12 ⟨rfl, hb⟩
  have hb := (al).trans (hb.mono (al).size)
  replace HA := hid (HA.out.ups hb)
  replace HBB := hid (HBB.out.ups hb)
  replace HX := hid (HX.out.ups hb)
  replace HY := hid (HY.out.ups hb)
  replace HZ := hid (HZ.out.ups hb)
  replace HB := hid (HB.out.trans (hb.mono HB.out.size))
  clear hb
  go_wp2
  go_ret
  exact ⟨rfl, HB.out⟩
end Go.Proofs.Ytnbhihjhpomenaa

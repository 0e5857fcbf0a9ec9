/- The law of Add, Mul and Compare. -/
import Derived.Test.YthmakdlmadgpcaaQ
namespace Go.Proofs.Ythmakdlmadgpcaa
open Go.RowKit Go
set_option linter.unusedVariables false
set_option linter.unusedSimpArgs false
set_option maxRecDepth 100000 in
set_option maxHeartbeats 4000000 in
theorem addspec_any (an ad bn bd : Int) (i1 : I64 an) (i2 : I64 ad) (i3 : I64 bn) (i4 : I64 bd) (w : World) :
    Calls Try.prog 4 #[RV an ad, RV bn bd] w fun e w' => e = .returned (.bool true) ∧ Below w.heap.size w w' := by
  have I1 := hid i1; have I2 := hid i2; have I3 := hid i3; have I4 := hid i4; clear i1 i2 i3 i4
  obtain ⟨⟨x1, x2, x3⟩, hX⟩ : ∃ x, x = both an ad bn bd (sm an ad bn bd) := ⟨_, rfl⟩
  obtain ⟨⟨p1, p2, p3⟩, hP⟩ : ∃ x, x = both an ad bn bd (pr an ad bn bd) := ⟨_, rfl⟩
  obtain ⟨⟨c1, c2⟩, hC⟩ : ∃ x, x = bothc an ad bn bd := ⟨_, rfl⟩
  have HX := hid hX; have HP := hid hP; have HC := hid hC; clear hX hP hC
  have T0 := hid (Below.refl w.heap.size w)
  have A0 : Below (w).heap.size (w) ((w).alloc (.cells #[.int .i64 (an), .int .i64 (ad)] 23)) := (Below.refl _ _).alloc (Nat.le_refl _) _
  have FA := hid (fr_new (w) (an) (ad))
  have T0 := hid (below_t T0.out A0)
  clear A0
  have A0 : Below ((w).alloc (.cells #[.int .i64 (an), .int .i64 (ad)] 23)).heap.size ((w).alloc (.cells #[.int .i64 (an), .int .i64 (ad)] 23)) (((w).alloc (.cells #[.int .i64 (an), .int .i64 (ad)] 23)).alloc (.cells #[.int .i64 (bn), .int .i64 (bd)] 23)) := (Below.refl _ _).alloc (Nat.le_refl _) _
  have FA := hid (FA.out.ups A0)
  have FB := hid (fr_new ((w).alloc (.cells #[.int .i64 (an), .int .i64 (ad)] 23)) (bn) (bd))
  simp only [World.size_alloc] at FB
  have T0 := hid (below_t T0.out A0)
  clear A0
  go_enter Try.func4, Try.ntmps4
  go_wp2_with fail
  refine (sane_any _).mono ?_
  rintro e w1 ⟨rfl, hb1⟩
  have FA := hid (FA.out.ups hb1)
  have FB := hid (FB.out.ups hb1)
  have T1 := hid (below_t T0.out hb1)
  clear hb1
  obtain ⟨FAc0, FAc1, _, _⟩ := FA.out
  obtain ⟨FBc0, FBc1, _, _⟩ := FB.out
  go_wp2_with fail
  refine (Add_any an ad bn bd I1.out I2.out I3.out I4.out _).mono ?_
  rintro e w2 ⟨rfl, hb2⟩
  rw [← HX.out]
  clear FAc0 FAc1 FBc0 FBc1
  have FA := hid (FA.out.ups hb2)
  have FB := hid (FB.out.ups hb2)
  have T2 := hid (below_t T1.out hb2)
  clear hb2
  have A0 : Below w2.heap.size w2 (w2.alloc (.cells #[.int .i64 (x1), .int .i64 (x2)] 23)) := (Below.refl _ _).alloc (Nat.le_refl _) _
  have FA := hid (FA.out.ups A0)
  have FB := hid (FB.out.ups A0)
  have F2 := hid (fr_new w2 (x1) (x2))
  have T2 := hid (below_t T2.out A0)
  clear A0
  obtain ⟨FAc0, FAc1, _, _⟩ := FA.out
  obtain ⟨FBc0, FBc1, _, _⟩ := FB.out
  go_wp2_with fail
  refine (rAdd_any rcheck an ad bn bd I1.out I2.out I3.out I4.out _).mono ?_
  rintro e w3 ⟨rfl, hb3⟩
  rw [← HX.out]
  clear FAc0 FAc1 FBc0 FBc1
  have FA := hid (FA.out.ups hb3)
  have FB := hid (FB.out.ups hb3)
  have F2 := hid (F2.out.ups hb3)
  have T3 := hid (below_t T2.out hb3)
  clear hb3
  have A0 : Below w3.heap.size w3 (w3.alloc (.cells #[.int .i64 (x1), .int .i64 (x2)] 23)) := (Below.refl _ _).alloc (Nat.le_refl _) _
  have FA := hid (FA.out.ups A0)
  have FB := hid (FB.out.ups A0)
  have F2 := hid (F2.out.ups A0)
  have F3 := hid (fr_new w3 (x1) (x2))
  have T3 := hid (below_t T3.out A0)
  clear A0
  obtain ⟨FAc0, FAc1, _, _⟩ := FA.out
  obtain ⟨FBc0, FBc1, _, _⟩ := FB.out
  go_wp2_with fail
  refine (Mul_any an ad bn bd I1.out I2.out I3.out I4.out _).mono ?_
  rintro e w4 ⟨rfl, hb4⟩
  rw [← HP.out]
  clear FAc0 FAc1 FBc0 FBc1
  have FA := hid (FA.out.ups hb4)
  have FB := hid (FB.out.ups hb4)
  have F2 := hid (F2.out.ups hb4)
  have F3 := hid (F3.out.ups hb4)
  have T4 := hid (below_t T3.out hb4)
  clear hb4
  have A0 : Below w4.heap.size w4 (w4.alloc (.cells #[.int .i64 (p1), .int .i64 (p2)] 23)) := (Below.refl _ _).alloc (Nat.le_refl _) _
  have FA := hid (FA.out.ups A0)
  have FB := hid (FB.out.ups A0)
  have F2 := hid (F2.out.ups A0)
  have F3 := hid (F3.out.ups A0)
  have F4 := hid (fr_new w4 (p1) (p2))
  have T4 := hid (below_t T4.out A0)
  clear A0
  obtain ⟨FAc0, FAc1, _, _⟩ := FA.out
  obtain ⟨FBc0, FBc1, _, _⟩ := FB.out
  go_wp2_with fail
  refine (rMul_any rcheck an ad bn bd I1.out I2.out I3.out I4.out _).mono ?_
  rintro e w5 ⟨rfl, hb5⟩
  rw [← HP.out]
  clear FAc0 FAc1 FBc0 FBc1
  have FA := hid (FA.out.ups hb5)
  have FB := hid (FB.out.ups hb5)
  have F2 := hid (F2.out.ups hb5)
  have F3 := hid (F3.out.ups hb5)
  have F4 := hid (F4.out.ups hb5)
  have T5 := hid (below_t T4.out hb5)
  clear hb5
  have A0 : Below w5.heap.size w5 (w5.alloc (.cells #[.int .i64 (p1), .int .i64 (p2)] 23)) := (Below.refl _ _).alloc (Nat.le_refl _) _
  have FA := hid (FA.out.ups A0)
  have FB := hid (FB.out.ups A0)
  have F2 := hid (F2.out.ups A0)
  have F3 := hid (F3.out.ups A0)
  have F4 := hid (F4.out.ups A0)
  have F5 := hid (fr_new w5 (p1) (p2))
  have T5 := hid (below_t T5.out A0)
  clear A0
  obtain ⟨FAc0, FAc1, _, _⟩ := FA.out
  obtain ⟨FBc0, FBc1, _, _⟩ := FB.out
  go_wp2_with fail
  refine (Compare_any an ad bn bd I1.out I2.out I3.out I4.out _).mono ?_
  rintro e w6 ⟨rfl, hb6⟩
  rw [← HC.out]
  clear FAc0 FAc1 FBc0 FBc1
  have FA := hid (FA.out.ups hb6)
  have FB := hid (FB.out.ups hb6)
  have F2 := hid (F2.out.ups hb6)
  have F3 := hid (F3.out.ups hb6)
  have F4 := hid (F4.out.ups hb6)
  have F5 := hid (F5.out.ups hb6)
  have T6 := hid (below_t T5.out hb6)
  clear hb6
  obtain ⟨FAc0, FAc1, _, _⟩ := FA.out
  obtain ⟨FBc0, FBc1, _, _⟩ := FB.out
  go_wp2_with fail
  refine (rCompare_any rcheck an ad bn bd I1.out I2.out I3.out I4.out _).mono ?_
  rintro e w7 ⟨rfl, hb7⟩
  rw [← HC.out]
  clear FAc0 FAc1 FBc0 FBc1
  have FA := hid (FA.out.ups hb7)
  have FB := hid (FB.out.ups hb7)
  have F2 := hid (F2.out.ups hb7)
  have F3 := hid (F3.out.ups hb7)
  have F4 := hid (F4.out.ups hb7)
  have F5 := hid (F5.out.ups hb7)
  have T7 := hid (below_t T6.out hb7)
  clear hb7
  obtain ⟨F2c0, F2c1, _, _⟩ := F2.out
  obtain ⟨F3c0, F3c1, _, _⟩ := F3.out
  obtain ⟨F4c0, F4c1, _, _⟩ := F4.out
  obtain ⟨F5c0, F5c1, _, _⟩ := F5.out
  clear HX HP HC
  go_wp2
  go_ret
  exact ⟨by simp, T7.out⟩
end Go.Proofs.Ythmakdlmadgpcaa

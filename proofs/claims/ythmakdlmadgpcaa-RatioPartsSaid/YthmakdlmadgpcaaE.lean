/- Contracts: Add, Mul, Compare. -/
import Derived.Test.YthmakdlmadgpcaaD
namespace Go.Proofs.Ythmakdlmadgpcaa
open Go.RowKit Go
set_option linter.unusedVariables false
set_option linter.unusedSimpArgs false
set_option maxRecDepth 100000 in
theorem Add_any (an ad bn bd : Int) (i1 : I64 an) (i2 : I64 ad) (i3 : I64 bn) (i4 : I64 bd) (w : World) :
    Calls Try.prog 16 #[RV an ad, RV bn bd] w fun e w' => e = .returned (RR (both an ad bn bd (sm an ad bn bd))) ∧ Below w.heap.size w w' := by
  have I1 := hid i1; have I2 := hid i2; have I3 := hid i3; have I4 := hid i4; clear i1 i2 i3 i4
  have hmf : ∀ (fn : Fn) (first cap : Array Value) (w : World), (Instr.makeFunc fn first cap).run Try.prog w = .ok (.func fn first cap) w := fun _ _ _ _ => rfl
  obtain ⟨W, hW⟩ : ∃ W, W = ((w.alloc (.cells #[.int .i64 an, .int .i64 ad] 23)).alloc (.cells #[.int .i64 bn, .int .i64 bd] 23)).alloc (.cells #[.int .i64 0, .int .i64 0] 23) := ⟨_, rfl⟩
  have hB0 : Below w.heap.size w W := by rw [hW]; exact (((Below.refl _ w).alloc (Nat.le_refl _) _).alloc (by simp) _).alloc (by simp; omega) _
  have r1 : FR W w.heap.size an ad := by
    rw [hW]; exact ((fr_new w an ad).ups ((Below.refl _ _).alloc (Nat.le_refl _) _)).ups ((Below.refl _ _).alloc (Nat.le_refl _) _)
  have r2 : FR W (w.heap.size + 1) bn bd := by
    have h := (fr_new (w.alloc (.cells #[.int .i64 an, .int .i64 ad] 23)) bn bd).ups (w' := W) (by rw [hW]; exact (Below.refl _ _).alloc (Nat.le_refl _) _)
    simpa using h
  have r3 : FR W (w.heap.size + 1 + 1) 0 0 := by
    have h := fr_new ((w.alloc (.cells #[.int .i64 an, .int .i64 ad] 23)).alloc (.cells #[.int .i64 bn, .int .i64 bd] 23)) 0 0
    rw [← hW] at h
    simpa using h
  have HB0 := hid hB0; have R1 := hid r1; have R2 := hid r2; have R3 := hid r3
  clear hB0 r1 r2 r3
  go_enter Try.func16, Try.ntmps16
  go_wp2_with fail
  rw [← hW]
  clear hW hmf
  refine (comb30 an ad bn bd _ _ I1.out I2.out I3.out I4.out W R1.out R2.out).mono ?_
  rintro e w1 ⟨rfl, hb1⟩
  have HB1 := hid (below_t HB0.out hb1)
  obtain ⟨g, hg⟩ : ∃ g, g = w.heap.size + 1 + 1 := ⟨_, rfl⟩
  have hgw : w.heap.size ≤ g := by omega
  have HGW := hid hgw
  rw [← hg] at R3 ⊢
  have hr1 := R3.out.ups hb1
  have HR1 := hid hr1
  obtain ⟨c0, c1, z0, z1⟩ := hr1
  obtain ⟨⟨p, q, e⟩, hx⟩ : ∃ x, x = both an ad bn bd (sm an ad bn bd) := ⟨_, rfl⟩
  rw [← hx]
  have HX := hid hx
  clear hx hb1 hg hgw
  go_wp2
  rw [← HX.out]
  exact fin3 rfl rfl HB1.out HGW.out HR1.out.c0 HR1.out.c1
set_option maxRecDepth 100000 in
theorem Mul_any (an ad bn bd : Int) (i1 : I64 an) (i2 : I64 ad) (i3 : I64 bn) (i4 : I64 bd) (w : World) :
    Calls Try.prog 18 #[RV an ad, RV bn bd] w fun e w' => e = .returned (RR (both an ad bn bd (pr an ad bn bd))) ∧ Below w.heap.size w w' := by
  have I1 := hid i1; have I2 := hid i2; have I3 := hid i3; have I4 := hid i4; clear i1 i2 i3 i4
  have hmf : ∀ (fn : Fn) (first cap : Array Value) (w : World), (Instr.makeFunc fn first cap).run Try.prog w = .ok (.func fn first cap) w := fun _ _ _ _ => rfl
  obtain ⟨W, hW⟩ : ∃ W, W = ((w.alloc (.cells #[.int .i64 an, .int .i64 ad] 23)).alloc (.cells #[.int .i64 bn, .int .i64 bd] 23)).alloc (.cells #[.int .i64 0, .int .i64 0] 23) := ⟨_, rfl⟩
  have hB0 : Below w.heap.size w W := by rw [hW]; exact (((Below.refl _ w).alloc (Nat.le_refl _) _).alloc (by simp) _).alloc (by simp; omega) _
  have r1 : FR W w.heap.size an ad := by
    rw [hW]; exact ((fr_new w an ad).ups ((Below.refl _ _).alloc (Nat.le_refl _) _)).ups ((Below.refl _ _).alloc (Nat.le_refl _) _)
  have r2 : FR W (w.heap.size + 1) bn bd := by
    have h := (fr_new (w.alloc (.cells #[.int .i64 an, .int .i64 ad] 23)) bn bd).ups (w' := W) (by rw [hW]; exact (Below.refl _ _).alloc (Nat.le_refl _) _)
    simpa using h
  have r3 : FR W (w.heap.size + 1 + 1) 0 0 := by
    have h := fr_new ((w.alloc (.cells #[.int .i64 an, .int .i64 ad] 23)).alloc (.cells #[.int .i64 bn, .int .i64 bd] 23)) 0 0
    rw [← hW] at h
    simpa using h
  have HB0 := hid hB0; have R1 := hid r1; have R2 := hid r2; have R3 := hid r3
  clear hB0 r1 r2 r3
  go_enter Try.func18, Try.ntmps18
  go_wp2_with fail
  rw [← hW]
  clear hW hmf
  refine (comb32 an ad bn bd _ _ I1.out I2.out I3.out I4.out W R1.out R2.out).mono ?_
  rintro e w1 ⟨rfl, hb1⟩
  have HB1 := hid (below_t HB0.out hb1)
  obtain ⟨g, hg⟩ : ∃ g, g = w.heap.size + 1 + 1 := ⟨_, rfl⟩
  have hgw : w.heap.size ≤ g := by omega
  have HGW := hid hgw
  rw [← hg] at R3 ⊢
  have hr1 := R3.out.ups hb1
  have HR1 := hid hr1
  obtain ⟨c0, c1, z0, z1⟩ := hr1
  obtain ⟨⟨p, q, e⟩, hx⟩ : ∃ x, x = both an ad bn bd (pr an ad bn bd) := ⟨_, rfl⟩
  rw [← hx]
  have HX := hid hx
  clear hx hb1 hg hgw
  go_wp2
  rw [← HX.out]
  exact fin3 rfl rfl HB1.out HGW.out HR1.out.c0 HR1.out.c1
set_option maxRecDepth 100000 in
theorem Compare_any (an ad bn bd : Int) (i1 : I64 an) (i2 : I64 ad) (i3 : I64 bn) (i4 : I64 bd) (w : World) :
    Calls Try.prog 20 #[RV an ad, RV bn bd] w fun e w' => e = .returned (.tuple #[.int .i64 (bothc an ad bn bd).1, .int .i64 (bothc an ad bn bd).2]) ∧ Below w.heap.size w w' := by
  have I1 := hid i1; have I2 := hid i2; have I3 := hid i3; have I4 := hid i4; clear i1 i2 i3 i4
  have hmf : ∀ (fn : Fn) (first cap : Array Value) (w : World), (Instr.makeFunc fn first cap).run Try.prog w = .ok (.func fn first cap) w := fun _ _ _ _ => rfl
  obtain ⟨W, hW⟩ : ∃ W, W = ((w.alloc (.cells #[.int .i64 an, .int .i64 ad] 23)).alloc (.cells #[.int .i64 bn, .int .i64 bd] 23)) := ⟨_, rfl⟩
  have hB0 : Below w.heap.size w W := by rw [hW]; exact (((Below.refl _ w).alloc (Nat.le_refl _) _).alloc (by simp) _)
  have r1 : FR W w.heap.size an ad := by
    rw [hW]; exact (fr_new w an ad).ups ((Below.refl _ _).alloc (Nat.le_refl _) _)
  have r2 : FR W (w.heap.size + 1) bn bd := by
    have h := fr_new (w.alloc (.cells #[.int .i64 an, .int .i64 ad] 23)) bn bd
    rw [← hW] at h
    simpa using h
  have HB0 := hid hB0; have R1 := hid r1; have R2 := hid r2
  clear hB0 r1 r2
  go_enter Try.func20, Try.ntmps20
  go_wp2_with fail
  rw [← hW]
  clear hW hmf
  refine (comb34 an ad bn bd _ _ I1.out I2.out I3.out I4.out W R1.out R2.out).mono ?_
  rintro e w1 ⟨rfl, hb1⟩
  have HB1 := hid (below_t HB0.out hb1)
  obtain ⟨⟨p, e⟩, hx⟩ : ∃ x, x = bothc an ad bn bd := ⟨_, rfl⟩
  rw [← hx]
  have HX := hid hx
  clear hx hb1
  go_wp2
  go_ret2
  rw [← HX.out]
  exact ⟨rfl, HB1.out⟩
end Go.Proofs.Ythmakdlmadgpcaa

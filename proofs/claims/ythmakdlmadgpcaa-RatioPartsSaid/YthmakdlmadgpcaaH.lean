/- Contracts of the reference: check, Add, Mul, Compare. -/
import Derived.Test.YthmakdlmadgpcaaF
namespace Go.Proofs.Ythmakdlmadgpcaa
open Go.RowKit Go
set_option linter.unusedVariables false
set_option linter.unusedSimpArgs false
/-- what the reference's Check does -/
def RCheck : Prop := ∀ (p q : Int), I64 p → I64 q → ∀ w : World, Calls Try.prog 15 #[RV p q] w fun e w' => e = .returned (.int .i64 (chk p q)) ∧ Below w.heap.size w w'
/-- the first error of two Checks -/
def chk2 (an ad bn bd : Int) : Int := if chk an ad = 0 then chk bn bd else chk an ad
theorem chk2_0 {an ad bn bd : Int} (h : chk2 an ad bn bd = 0) : Vd an ad ∧ Vd bn bd := by
  unfold chk2 at h
  split at h
  · rename_i h1; exact ⟨chk_ok.1 h1, chk_ok.1 h⟩
  · contradiction
theorem both_2 (an ad bn bd : Int) (x : Int × Int × Int) : both an ad bn bd x = if chk2 an ad bn bd = 0 then x else (0, 0, chk2 an ad bn bd) := by
  unfold both chk2
  rcases chk_cases an ad with e | e <;> rcases chk_cases bn bd with f | f <;> simp [e, f]
theorem bothc_2 (an ad bn bd : Int) : bothc an ad bn bd = if chk2 an ad bn bd = 0 then (cmpr (an * bd) (bn * ad), 0) else (0, chk2 an ad bn bd) := by
  unfold bothc chk2
  rcases chk_cases an ad with e | e <;> rcases chk_cases bn bd with f | f <;> simp [e, f]
set_option maxRecDepth 100000 in
theorem rcheck2_any (hR : Hid RCheck) (an ad bn bd : Int) (i1 : I64 an) (i2 : I64 ad) (i3 : I64 bn) (i4 : I64 bd) (w : World) :
    Calls Try.prog 31 #[RV an ad, RV bn bd] w fun e w' => e = .returned (.int .i64 (chk2 an ad bn bd)) ∧ Below w.heap.size w w' := by
  have I1 := hid i1; have I2 := hid i2; have I3 := hid i3; have I4 := hid i4; clear i1 i2 i3 i4
  obtain ⟨W, hW⟩ : ∃ W, W = ((w.alloc (.cells #[.int .i64 an, .int .i64 ad] 23)).alloc (.cells #[.int .i64 bn, .int .i64 bd] 23)) := ⟨_, rfl⟩
  have hB0 : Below w.heap.size w W := by rw [hW]; exact (((Below.refl _ w).alloc (Nat.le_refl _) _).alloc (by simp) _)
  have r2 : FR W (w.heap.size + 1) bn bd := by
    have h := fr_new (w.alloc (.cells #[.int .i64 an, .int .i64 ad] 23)) bn bd
    rw [← hW] at h
    simpa using h
  have HB0 := hid hB0; have R2 := hid r2
  clear hB0 r2
  go_enter Try.func31, Try.ntmps31
  go_wp2_with fail
  rw [← hW]
  clear hW
  refine (hR.out an ad I1.out I2.out W).mono ?_
  rintro e w1 ⟨rfl, hb1⟩
  have HB1 := hid (below_t HB0.out hb1)
  obtain ⟨c0, c1, z0, z1⟩ := R2.out.ups hb1
  have hc2 : chk2 an ad bn bd = if chk an ad = 0 then chk bn bd else chk an ad := rfl
  have HC2 := hid hc2
  clear hb1 hc2
  by_cases hc : chk an ad = 0
  · have hv : chk2 an ad bn bd = chk bn bd := by rw [HC2.out, if_pos hc]
    have HV := hid hv
    rw [hc]
    clear hc hv HC2
    go_wp2_with fail
    refine (hR.out bn bd I3.out I4.out _).mono ?_
    rintro e w2 ⟨rfl, hb2⟩
    have HB2 := hid (below_t HB1.out hb2)
    clear hb2
    go_wp2
    go_ret
    exact ⟨ret_int HV.out.symm, HB2.out⟩
  · have hv : chk2 an ad bn bd = chk an ad := by rw [HC2.out, if_neg hc]
    have HV := hid hv
    obtain ⟨c, hcc⟩ : ∃ c, c = chk an ad := ⟨_, rfl⟩
    rw [← hcc] at hc ⊢
    have HCC := hid hcc
    clear hv HC2 hcc
    go_wp2
    go_ret
    exact ⟨ret_int (by rw [HV.out, ← HCC.out]), HB1.out⟩
set_option maxRecDepth 100000 in
theorem rAdd_any (hR : Hid RCheck) (an ad bn bd : Int) (i1 : I64 an) (i2 : I64 ad) (i3 : I64 bn) (i4 : I64 bd) (w : World) :
    Calls Try.prog 17 #[RV an ad, RV bn bd] w fun e w' => e = .returned (RR (both an ad bn bd (sm an ad bn bd))) ∧ Below w.heap.size w w' := by
  have I1 := hid i1; have I2 := hid i2; have I3 := hid i3; have I4 := hid i4; clear i1 i2 i3 i4
  obtain ⟨W, hW⟩ : ∃ W, W = ((w.alloc (.cells #[.int .i64 an, .int .i64 ad] 23)).alloc (.cells #[.int .i64 bn, .int .i64 bd] 23)).alloc (.cells #[.int .i64 0, .int .i64 0] 23) := ⟨_, rfl⟩
  have hB0 : Below w.heap.size w W := by rw [hW]; exact (((Below.refl _ w).alloc (Nat.le_refl _) _).alloc (by simp) _).alloc (by simp; omega) _
  have r1 : FR W w.heap.size an ad := by
    rw [hW]; exact ((fr_new w an ad).ups ((Below.refl _ _).alloc (Nat.le_refl _) _)).ups ((Below.refl _ _).alloc (Nat.le_refl _) _)
  have r2 : FR W (w.heap.size + 1) bn bd := by
    have h := (fr_new (w.alloc (.cells #[.int .i64 an, .int .i64 ad] 23)) bn bd).ups (w' := W) (by rw [hW]; exact (Below.refl _ _).alloc (Nat.le_refl _) _)
    simpa using h
  have r3 : FR W (w.heap.size + 1 + 1) 0 0 := by
    have h := fr_new ((w.alloc (.cells #[.int .i64 an, .int .i64 ad] 23)).alloc (.cells #[.int .i64 bn, .int .i64 bd] 23)) 0 0
    rw [← hW] at h
    simpa using h
  have HB0 := hid hB0; have R1 := hid r1; have R2 := hid r2; have R3 := hid r3
  clear hB0 r1 r2 r3
  have H2 := hid (both_2 an ad bn bd (sm an ad bn bd))
  go_enter Try.func17, Try.ntmps17
  go_wp2_with fail
  rw [← hW]
  clear hW
  refine (rcheck2_any hR an ad bn bd I1.out I2.out I3.out I4.out W).mono ?_
  rintro e w1 ⟨rfl, hb1⟩
  have HB1 := hid (below_t HB0.out hb1)
  obtain ⟨g, hg⟩ : ∃ g, g = w.heap.size + 1 + 1 := ⟨_, rfl⟩
  have hgw : w.heap.size ≤ g := by omega
  have HGW := hid hgw
  rw [← hg] at R3 ⊢
  have HR3 := hid (R3.out.ups hb1)
  obtain ⟨c0, c1, z0, z1⟩ := HR3.out
  obtain ⟨a0, a1, y0, y1⟩ := R1.out.ups hb1
  obtain ⟨b0, b1, x0, x1⟩ := R2.out.ups hb1
  obtain ⟨c, hcc⟩ : ∃ c, c = chk2 an ad bn bd := ⟨_, rfl⟩
  rw [← hcc] at H2 ⊢
  have HCC := hid hcc
  clear hb1 hg hgw hcc y0 y1 x0 x1
  by_cases hc : c = 0
  · have hv := H2.out
    rw [if_pos hc] at hv
    have HV := hid hv
    subst hc
    obtain ⟨ha, hb⟩ := chk2_0 HCC.out.symm
    clear hv H2
    obtain ⟨x1, hx1⟩ : ∃ x, an * bd = x := ⟨_, rfl⟩
    obtain ⟨x2, hx2⟩ : ∃ x, bn * ad = x := ⟨_, rfl⟩
    obtain ⟨x3, hx3⟩ : ∃ x, ad * bd = x := ⟨_, rfl⟩
    have ha1 := ha.q1; have ha2 := ha.q2; have ha3 := ha.p1; have ha4 := ha.p2
    have hb1 := hb.q1; have hb2 := hb.q2; have hb3 := hb.p1; have hb4 := hb.p2
    have k1 := vd_mul ha3 ha4 (by omega) hb2
    have k2 := vd_mul hb3 hb4 (by omega) ha2
    have k3 := vd_mul (by omega) ha2 (by omega) hb2
    have hsm : sm an ad bn bd = nw (x1 + x2) x3 := by unfold sm; rw [hx1, hx2, hx3]
    rw [hx1] at k1; rw [hx2] at k2; rw [hx3] at k3
    obtain ⟨l1, u1⟩ := k1; obtain ⟨l2, u2⟩ := k2; obtain ⟨l3, u3⟩ := k3
    have i1 : I64 (x1 + x2) := ⟨by omega, by omega⟩
    have i2 : I64 x3 := ⟨by omega, by omega⟩
    have HSM := hid hsm; have J1 := hid i1; have J2 := hid i2
    clear hsm i1 i2 ha1 ha2 ha3 ha4 hb1 hb2 hb3 hb4 ha hb
    go_wp2_with fail
    refine (rNew_any _ _ J1.out J2.out _).mono ?_
    rintro e w2 ⟨rfl, hb2⟩
    rw [← HSM.out]
    have HB2 := hid (below_t HB1.out hb2)
    have HR4 := hid (HR3.out.ups hb2)
    clear c0 c1 z0 z1
    obtain ⟨c0, c1, z0, z1⟩ := HR4.out
    obtain ⟨⟨p, q, e⟩, hx⟩ : ∃ x, x = sm an ad bn bd := ⟨_, rfl⟩
    rw [← hx]
    have HX := hid hx
    clear hx hb2 hx1 hx2 hx3 a0 a1 b0 b1
    go_wp2
    exact fin3 rfl (HV.out.trans HX.out.symm) HB2.out HGW.out HR4.out.c0 HR4.out.c1
  · have hv := H2.out
    rw [if_neg hc] at hv
    have HV := hid hv
    clear hv H2 a0 a1 b0 b1
    go_wp2
    exact fin3 rfl HV.out HB1.out HGW.out HR3.out.c0 HR3.out.c1
set_option maxRecDepth 100000 in
theorem rMul_any (hR : Hid RCheck) (an ad bn bd : Int) (i1 : I64 an) (i2 : I64 ad) (i3 : I64 bn) (i4 : I64 bd) (w : World) :
    Calls Try.prog 19 #[RV an ad, RV bn bd] w fun e w' => e = .returned (RR (both an ad bn bd (pr an ad bn bd))) ∧ Below w.heap.size w w' := by
  have I1 := hid i1; have I2 := hid i2; have I3 := hid i3; have I4 := hid i4; clear i1 i2 i3 i4
  obtain ⟨W, hW⟩ : ∃ W, W = ((w.alloc (.cells #[.int .i64 an, .int .i64 ad] 23)).alloc (.cells #[.int .i64 bn, .int .i64 bd] 23)).alloc (.cells #[.int .i64 0, .int .i64 0] 23) := ⟨_, rfl⟩
  have hB0 : Below w.heap.size w W := by rw [hW]; exact (((Below.refl _ w).alloc (Nat.le_refl _) _).alloc (by simp) _).alloc (by simp; omega) _
  have r1 : FR W w.heap.size an ad := by
    rw [hW]; exact ((fr_new w an ad).ups ((Below.refl _ _).alloc (Nat.le_refl _) _)).ups ((Below.refl _ _).alloc (Nat.le_refl _) _)
  have r2 : FR W (w.heap.size + 1) bn bd := by
    have h := (fr_new (w.alloc (.cells #[.int .i64 an, .int .i64 ad] 23)) bn bd).ups (w' := W) (by rw [hW]; exact (Below.refl _ _).alloc (Nat.le_refl _) _)
    simpa using h
  have r3 : FR W (w.heap.size + 1 + 1) 0 0 := by
    have h := fr_new ((w.alloc (.cells #[.int .i64 an, .int .i64 ad] 23)).alloc (.cells #[.int .i64 bn, .int .i64 bd] 23)) 0 0
    rw [← hW] at h
    simpa using h
  have HB0 := hid hB0; have R1 := hid r1; have R2 := hid r2; have R3 := hid r3
  clear hB0 r1 r2 r3
  have H2 := hid (both_2 an ad bn bd (pr an ad bn bd))
  go_enter Try.func19, Try.ntmps19
  go_wp2_with fail
  rw [← hW]
  clear hW
  refine (rcheck2_any hR an ad bn bd I1.out I2.out I3.out I4.out W).mono ?_
  rintro e w1 ⟨rfl, hb1⟩
  have HB1 := hid (below_t HB0.out hb1)
  obtain ⟨g, hg⟩ : ∃ g, g = w.heap.size + 1 + 1 := ⟨_, rfl⟩
  have hgw : w.heap.size ≤ g := by omega
  have HGW := hid hgw
  rw [← hg] at R3 ⊢
  have HR3 := hid (R3.out.ups hb1)
  obtain ⟨c0, c1, z0, z1⟩ := HR3.out
  obtain ⟨a0, a1, y0, y1⟩ := R1.out.ups hb1
  obtain ⟨b0, b1, x0, x1⟩ := R2.out.ups hb1
  obtain ⟨c, hcc⟩ : ∃ c, c = chk2 an ad bn bd := ⟨_, rfl⟩
  rw [← hcc] at H2 ⊢
  have HCC := hid hcc
  clear hb1 hg hgw hcc y0 y1 x0 x1
  by_cases hc : c = 0
  · have hv := H2.out
    rw [if_pos hc] at hv
    have HV := hid hv
    subst hc
    obtain ⟨ha, hb⟩ := chk2_0 HCC.out.symm
    clear hv H2
    obtain ⟨x1, hx1⟩ : ∃ x, an * bn = x := ⟨_, rfl⟩
    obtain ⟨x3, hx3⟩ : ∃ x, ad * bd = x := ⟨_, rfl⟩
    have ha1 := ha.q1; have ha2 := ha.q2; have ha3 := ha.p1; have ha4 := ha.p2
    have hb1 := hb.q1; have hb2 := hb.q2; have hb3 := hb.p1; have hb4 := hb.p2
    have k1 := vd_mul ha3 ha4 hb3 hb4
    have k3 := vd_mul (by omega) ha2 (by omega) hb2
    have hsm : pr an ad bn bd = nw x1 x3 := by unfold pr; rw [hx1, hx3]
    rw [hx1] at k1; rw [hx3] at k3
    obtain ⟨l1, u1⟩ := k1; obtain ⟨l3, u3⟩ := k3
    have i1 : I64 x1 := ⟨by omega, by omega⟩
    have i2 : I64 x3 := ⟨by omega, by omega⟩
    have HSM := hid hsm; have J1 := hid i1; have J2 := hid i2
    clear hsm i1 i2 ha1 ha2 ha3 ha4 hb1 hb2 hb3 hb4 ha hb
    go_wp2_with fail
    refine (rNew_any _ _ J1.out J2.out _).mono ?_
    rintro e w2 ⟨rfl, hb2⟩
    rw [← HSM.out]
    have HB2 := hid (below_t HB1.out hb2)
    have HR4 := hid (HR3.out.ups hb2)
    clear c0 c1 z0 z1
    obtain ⟨c0, c1, z0, z1⟩ := HR4.out
    obtain ⟨⟨p, q, e⟩, hx⟩ : ∃ x, x = pr an ad bn bd := ⟨_, rfl⟩
    rw [← hx]
    have HX := hid hx
    clear hx hb2 hx1 hx3 a0 a1 b0 b1
    go_wp2
    exact fin3 rfl (HV.out.trans HX.out.symm) HB2.out HGW.out HR4.out.c0 HR4.out.c1
  · have hv := H2.out
    rw [if_neg hc] at hv
    have HV := hid hv
    clear hv H2 a0 a1 b0 b1
    go_wp2
    exact fin3 rfl HV.out HB1.out HGW.out HR3.out.c0 HR3.out.c1
set_option maxRecDepth 100000 in
theorem rCompare_any (hR : Hid RCheck) (an ad bn bd : Int) (i1 : I64 an) (i2 : I64 ad) (i3 : I64 bn) (i4 : I64 bd) (w : World) :
    Calls Try.prog 21 #[RV an ad, RV bn bd] w fun e w' => e = .returned (.tuple #[.int .i64 (bothc an ad bn bd).1, .int .i64 (bothc an ad bn bd).2]) ∧ Below w.heap.size w w' := by
  have I1 := hid i1; have I2 := hid i2; have I3 := hid i3; have I4 := hid i4; clear i1 i2 i3 i4
  obtain ⟨W, hW⟩ : ∃ W, W = ((w.alloc (.cells #[.int .i64 an, .int .i64 ad] 23)).alloc (.cells #[.int .i64 bn, .int .i64 bd] 23)) := ⟨_, rfl⟩
  have hB0 : Below w.heap.size w W := by rw [hW]; exact (((Below.refl _ w).alloc (Nat.le_refl _) _).alloc (by simp) _)
  have r1 : FR W w.heap.size an ad := by
    rw [hW]; exact (fr_new w an ad).ups ((Below.refl _ _).alloc (Nat.le_refl _) _)
  have r2 : FR W (w.heap.size + 1) bn bd := by
    have h := fr_new (w.alloc (.cells #[.int .i64 an, .int .i64 ad] 23)) bn bd
    rw [← hW] at h
    simpa using h
  have HB0 := hid hB0; have R1 := hid r1; have R2 := hid r2
  clear hB0 r1 r2
  have H2 := hid (bothc_2 an ad bn bd)
  go_enter Try.func21, Try.ntmps21
  go_wp2_with fail
  rw [← hW]
  clear hW
  refine (rcheck2_any hR an ad bn bd I1.out I2.out I3.out I4.out W).mono ?_
  rintro e w1 ⟨rfl, hb1⟩
  have HB1 := hid (below_t HB0.out hb1)
  obtain ⟨a0, a1, y0, y1⟩ := R1.out.ups hb1
  obtain ⟨b0, b1, x0, x1⟩ := R2.out.ups hb1
  obtain ⟨c, hcc⟩ : ∃ c, c = chk2 an ad bn bd := ⟨_, rfl⟩
  rw [← hcc] at H2 ⊢
  have HCC := hid hcc
  clear hb1 hcc y0 y1 x0 x1
  by_cases hc : c = 0
  · have hv := H2.out
    rw [if_pos hc] at hv
    subst hc
    obtain ⟨ha, hb⟩ := chk2_0 HCC.out.symm
    obtain ⟨x1, hx1⟩ : ∃ x, an * bd = x := ⟨_, rfl⟩
    obtain ⟨x2, hx2⟩ : ∃ x, bn * ad = x := ⟨_, rfl⟩
    have ha1 := ha.q1; have ha2 := ha.q2; have ha3 := ha.p1; have ha4 := ha.p2
    have hb1 := hb.q1; have hb2 := hb.q2; have hb3 := hb.p1; have hb4 := hb.p2
    have k1 := vd_mul ha3 ha4 (by omega) hb2
    have k2 := vd_mul hb3 hb4 (by omega) ha2
    rw [hx1] at k1; rw [hx2] at k2
    rw [hx1, hx2] at hv
    obtain ⟨l1, u1⟩ := k1; obtain ⟨l2, u2⟩ := k2
    have HV := hid hv
    clear ha1 ha2 ha3 ha4 hb1 hb2 hb3 hb4 ha hb hv H2
    rcases (by omega : x1 < x2 ∨ x1 = x2 ∨ x2 < x1) with h | h | h
    · have e := cmpr_lt.2 h
      have E := hid e; clear e
      go_wp2
      go_ret2
      rw [HV.out, E.out]
      exact ⟨rfl, HB1.out⟩
    · have e := cmpr_eq.2 h
      have E := hid e; clear e
      have h1 : ¬ x1 < x2 := by omega
      have h2 : ¬ x2 < x1 := by omega
      clear h
      go_wp2
      go_ret2
      rw [HV.out, E.out]
      exact ⟨rfl, HB1.out⟩
    · have e := cmpr_gt.2 h
      have h' : ¬ x1 < x2 := by omega
      have E := hid e; clear e
      go_wp2
      go_ret2
      rw [HV.out, E.out]
      exact ⟨rfl, HB1.out⟩
  · have hv := H2.out
    rw [if_neg hc] at hv
    have HV := hid hv
    clear hv H2 a0 a1 b0 b1
    go_wp2
    go_ret2
    rw [HV.out]
    exact ⟨rfl, HB1.out⟩
end Go.Proofs.Ythmakdlmadgpcaa

/- The law of sums and products. -/
import Derived.Test.YthmakdlmadgpcaaV
namespace Go.Proofs.Ythmakdlmadgpcaa
open Go.RowKit Go
set_option linter.unusedVariables false
set_option linter.unusedSimpArgs false
set_option maxRecDepth 100000 in
theorem field_bad_a (an ad bn bd cn cd : Int) (i1 : I64 an) (i2 : I64 ad) (i3 : I64 bn) (i4 : I64 bd) (i5 : I64 cn) (i6 : I64 cd) (ha : chk an ad ≠ 0) (w : World) :
    Calls Try.prog 6 #[RV an ad, RV bn bd, RV cn cd] w fun e w' => e = .returned (.bool true) ∧ Below w.heap.size w w' := by
  have I1 := hid i1; have I2 := hid i2; have I3 := hid i3; have I4 := hid i4; have I5 := hid i5; have I6 := hid i6; clear i1 i2 i3 i4 i5 i6
  have Ha := hid ha; clear ha
  have T0 := hid (Below.refl w.heap.size w)
  have A0 : Below (w).heap.size (w) ((w).alloc (.cells #[.int .i64 (an), .int .i64 (ad)] 23)) := (Below.refl _ _).alloc (Nat.le_refl _) _
  have FA := hid (fr_new (w) (an) (ad))
  have T0 := hid (below_t T0.out A0)
  clear A0
  have A0 : Below ((w).alloc (.cells #[.int .i64 (an), .int .i64 (ad)] 23)).heap.size ((w).alloc (.cells #[.int .i64 (an), .int .i64 (ad)] 23)) (((w).alloc (.cells #[.int .i64 (an), .int .i64 (ad)] 23)).alloc (.cells #[.int .i64 (bn), .int .i64 (bd)] 23)) := (Below.refl _ _).alloc (Nat.le_refl _) _
  have FA := hid (FA.out.ups A0)
  have FB := hid (fr_new ((w).alloc (.cells #[.int .i64 (an), .int .i64 (ad)] 23)) (bn) (bd))
  simp only [World.size_alloc] at FB
  have T0 := hid (below_t T0.out A0)
  clear A0
  have A0 : Below (((w).alloc (.cells #[.int .i64 (an), .int .i64 (ad)] 23)).alloc (.cells #[.int .i64 (bn), .int .i64 (bd)] 23)).heap.size (((w).alloc (.cells #[.int .i64 (an), .int .i64 (ad)] 23)).alloc (.cells #[.int .i64 (bn), .int .i64 (bd)] 23)) ((((w).alloc (.cells #[.int .i64 (an), .int .i64 (ad)] 23)).alloc (.cells #[.int .i64 (bn), .int .i64 (bd)] 23)).alloc (.cells #[.int .i64 (cn), .int .i64 (cd)] 23)) := (Below.refl _ _).alloc (Nat.le_refl _) _
  have FA := hid (FA.out.ups A0)
  have FB := hid (FB.out.ups A0)
  have FC := hid (fr_new (((w).alloc (.cells #[.int .i64 (an), .int .i64 (ad)] 23)).alloc (.cells #[.int .i64 (bn), .int .i64 (bd)] 23)) (cn) (cd))
  simp only [World.size_alloc] at FC
  have T0 := hid (below_t T0.out A0)
  clear A0
  go_enter Try.func6, Try.ntmps6
  go_wp2_with fail
  refine (sane_any _).mono ?_
  rintro e w1 ⟨rfl, hb1⟩
  have FA := hid (FA.out.ups hb1)
  have FB := hid (FB.out.ups hb1)
  have FC := hid (FC.out.ups hb1)
  have T1 := hid (below_t T0.out hb1)
  clear hb1
  obtain ⟨FAc0, FAc1, _, _⟩ := FA.out
  go_wp2_with fail
  refine (Check_any an ad I1.out I2.out _).mono ?_
  rintro e w2 ⟨rfl, hb2⟩
  rw [chk_ne Ha.out]
  clear FAc0 FAc1
  have FA := hid (FA.out.ups hb2)
  have FB := hid (FB.out.ups hb2)
  have FC := hid (FC.out.ups hb2)
  have T2 := hid (below_t T1.out hb2)
  clear hb2
  go_wp2
  go_ret
  exact ⟨rfl, T2.out⟩
set_option maxRecDepth 100000 in
theorem field_bad_b (an ad bn bd cn cd : Int) (i1 : I64 an) (i2 : I64 ad) (i3 : I64 bn) (i4 : I64 bd) (i5 : I64 cn) (i6 : I64 cd) (ha : chk an ad = 0) (hb : chk bn bd ≠ 0) (w : World) :
    Calls Try.prog 6 #[RV an ad, RV bn bd, RV cn cd] w fun e w' => e = .returned (.bool true) ∧ Below w.heap.size w w' := by
  have I1 := hid i1; have I2 := hid i2; have I3 := hid i3; have I4 := hid i4; have I5 := hid i5; have I6 := hid i6; clear i1 i2 i3 i4 i5 i6
  have Ha := hid ha; clear ha
  have Hb := hid hb; clear hb
  have T0 := hid (Below.refl w.heap.size w)
  have A0 : Below (w).heap.size (w) ((w).alloc (.cells #[.int .i64 (an), .int .i64 (ad)] 23)) := (Below.refl _ _).alloc (Nat.le_refl _) _
  have FA := hid (fr_new (w) (an) (ad))
  have T0 := hid (below_t T0.out A0)
  clear A0
  have A0 : Below ((w).alloc (.cells #[.int .i64 (an), .int .i64 (ad)] 23)).heap.size ((w).alloc (.cells #[.int .i64 (an), .int .i64 (ad)] 23)) (((w).alloc (.cells #[.int .i64 (an), .int .i64 (ad)] 23)).alloc (.cells #[.int .i64 (bn), .int .i64 (bd)] 23)) := (Below.refl _ _).alloc (Nat.le_refl _) _
  have FA := hid (FA.out.ups A0)
  have FB := hid (fr_new ((w).alloc (.cells #[.int .i64 (an), .int .i64 (ad)] 23)) (bn) (bd))
  simp only [World.size_alloc] at FB
  have T0 := hid (below_t T0.out A0)
  clear A0
  have A0 : Below (((w).alloc (.cells #[.int .i64 (an), .int .i64 (ad)] 23)).alloc (.cells #[.int .i64 (bn), .int .i64 (bd)] 23)).heap.size (((w).alloc (.cells #[.int .i64 (an), .int .i64 (ad)] 23)).alloc (.cells #[.int .i64 (bn), .int .i64 (bd)] 23)) ((((w).alloc (.cells #[.int .i64 (an), .int .i64 (ad)] 23)).alloc (.cells #[.int .i64 (bn), .int .i64 (bd)] 23)).alloc (.cells #[.int .i64 (cn), .int .i64 (cd)] 23)) := (Below.refl _ _).alloc (Nat.le_refl _) _
  have FA := hid (FA.out.ups A0)
  have FB := hid (FB.out.ups A0)
  have FC := hid (fr_new (((w).alloc (.cells #[.int .i64 (an), .int .i64 (ad)] 23)).alloc (.cells #[.int .i64 (bn), .int .i64 (bd)] 23)) (cn) (cd))
  simp only [World.size_alloc] at FC
  have T0 := hid (below_t T0.out A0)
  clear A0
  go_enter Try.func6, Try.ntmps6
  go_wp2_with fail
  refine (sane_any _).mono ?_
  rintro e w1 ⟨rfl, hb1⟩
  have FA := hid (FA.out.ups hb1)
  have FB := hid (FB.out.ups hb1)
  have FC := hid (FC.out.ups hb1)
  have T1 := hid (below_t T0.out hb1)
  clear hb1
  obtain ⟨FAc0, FAc1, _, _⟩ := FA.out
  go_wp2_with fail
  refine (Check_any an ad I1.out I2.out _).mono ?_
  rintro e w2 ⟨rfl, hb2⟩
  rw [Ha.out]
  clear FAc0 FAc1
  have FA := hid (FA.out.ups hb2)
  have FB := hid (FB.out.ups hb2)
  have FC := hid (FC.out.ups hb2)
  have T2 := hid (below_t T1.out hb2)
  clear hb2
  obtain ⟨FBc0, FBc1, _, _⟩ := FB.out
  go_wp2_with fail
  refine (Check_any bn bd I3.out I4.out _).mono ?_
  rintro e w3 ⟨rfl, hb3⟩
  rw [chk_ne Hb.out]
  clear FBc0 FBc1
  have FA := hid (FA.out.ups hb3)
  have FB := hid (FB.out.ups hb3)
  have FC := hid (FC.out.ups hb3)
  have T3 := hid (below_t T2.out hb3)
  clear hb3
  go_wp2
  go_ret
  exact ⟨rfl, T3.out⟩
set_option maxRecDepth 100000 in
theorem field_bad_c (an ad bn bd cn cd : Int) (i1 : I64 an) (i2 : I64 ad) (i3 : I64 bn) (i4 : I64 bd) (i5 : I64 cn) (i6 : I64 cd) (ha : chk an ad = 0) (hb : chk bn bd = 0) (hc : chk cn cd ≠ 0) (w : World) :
    Calls Try.prog 6 #[RV an ad, RV bn bd, RV cn cd] w fun e w' => e = .returned (.bool true) ∧ Below w.heap.size w w' := by
  have I1 := hid i1; have I2 := hid i2; have I3 := hid i3; have I4 := hid i4; have I5 := hid i5; have I6 := hid i6; clear i1 i2 i3 i4 i5 i6
  have Ha := hid ha; clear ha
  have Hb := hid hb; clear hb
  have Hc := hid hc; clear hc
  have T0 := hid (Below.refl w.heap.size w)
  have A0 : Below (w).heap.size (w) ((w).alloc (.cells #[.int .i64 (an), .int .i64 (ad)] 23)) := (Below.refl _ _).alloc (Nat.le_refl _) _
  have FA := hid (fr_new (w) (an) (ad))
  have T0 := hid (below_t T0.out A0)
  clear A0
  have A0 : Below ((w).alloc (.cells #[.int .i64 (an), .int .i64 (ad)] 23)).heap.size ((w).alloc (.cells #[.int .i64 (an), .int .i64 (ad)] 23)) (((w).alloc (.cells #[.int .i64 (an), .int .i64 (ad)] 23)).alloc (.cells #[.int .i64 (bn), .int .i64 (bd)] 23)) := (Below.refl _ _).alloc (Nat.le_refl _) _
  have FA := hid (FA.out.ups A0)
  have FB := hid (fr_new ((w).alloc (.cells #[.int .i64 (an), .int .i64 (ad)] 23)) (bn) (bd))
  simp only [World.size_alloc] at FB
  have T0 := hid (below_t T0.out A0)
  clear A0
  have A0 : Below (((w).alloc (.cells #[.int .i64 (an), .int .i64 (ad)] 23)).alloc (.cells #[.int .i64 (bn), .int .i64 (bd)] 23)).heap.size (((w).alloc (.cells #[.int .i64 (an), .int .i64 (ad)] 23)).alloc (.cells #[.int .i64 (bn), .int .i64 (bd)] 23)) ((((w).alloc (.cells #[.int .i64 (an), .int .i64 (ad)] 23)).alloc (.cells #[.int .i64 (bn), .int .i64 (bd)] 23)).alloc (.cells #[.int .i64 (cn), .int .i64 (cd)] 23)) := (Below.refl _ _).alloc (Nat.le_refl _) _
  have FA := hid (FA.out.ups A0)
  have FB := hid (FB.out.ups A0)
  have FC := hid (fr_new (((w).alloc (.cells #[.int .i64 (an), .int .i64 (ad)] 23)).alloc (.cells #[.int .i64 (bn), .int .i64 (bd)] 23)) (cn) (cd))
  simp only [World.size_alloc] at FC
  have T0 := hid (below_t T0.out A0)
  clear A0
  go_enter Try.func6, Try.ntmps6
  go_wp2_with fail
  refine (sane_any _).mono ?_
  rintro e w1 ⟨rfl, hb1⟩
  have FA := hid (FA.out.ups hb1)
  have FB := hid (FB.out.ups hb1)
  have FC := hid (FC.out.ups hb1)
  have T1 := hid (below_t T0.out hb1)
  clear hb1
  obtain ⟨FAc0, FAc1, _, _⟩ := FA.out
  go_wp2_with fail
  refine (Check_any an ad I1.out I2.out _).mono ?_
  rintro e w2 ⟨rfl, hb2⟩
  rw [Ha.out]
  clear FAc0 FAc1
  have FA := hid (FA.out.ups hb2)
  have FB := hid (FB.out.ups hb2)
  have FC := hid (FC.out.ups hb2)
  have T2 := hid (below_t T1.out hb2)
  clear hb2
  obtain ⟨FBc0, FBc1, _, _⟩ := FB.out
  go_wp2_with fail
  refine (Check_any bn bd I3.out I4.out _).mono ?_
  rintro e w3 ⟨rfl, hb3⟩
  rw [Hb.out]
  clear FBc0 FBc1
  have FA := hid (FA.out.ups hb3)
  have FB := hid (FB.out.ups hb3)
  have FC := hid (FC.out.ups hb3)
  have T3 := hid (below_t T2.out hb3)
  clear hb3
  obtain ⟨FCc0, FCc1, _, _⟩ := FC.out
  go_wp2_with fail
  refine (Check_any cn cd I5.out I6.out _).mono ?_
  rintro e w4 ⟨rfl, hb4⟩
  rw [chk_ne Hc.out]
  clear FCc0 FCc1
  have FA := hid (FA.out.ups hb4)
  have FB := hid (FB.out.ups hb4)
  have FC := hid (FC.out.ups hb4)
  have T4 := hid (below_t T3.out hb4)
  clear hb4
  go_wp2
  go_ret
  exact ⟨rfl, T4.out⟩
theorem fld_sum {an ad bn bd cn cd : Int} (ha : Vd an ad) (hb : Vd bn bd) (hc : Vd cn cd) (h1 : (sum3 an ad bn bd cn cd).2 = true) (h2 : (sum3 bn bd cn cd an ad).2 = true) :
    (sum3 an ad bn bd cn cd).1.1 = (sum3 bn bd cn cd an ad).1.1 ∧ (sum3 an ad bn bd cn cd).1.2.1 = (sum3 bn bd cn cd an ad).1.2.1 := by
  unfold sum3 at h1 h2 ⊢
  simp only [both_vd ha hb, both_vd hb hc] at h1 h2 ⊢
  obtain ⟨⟨x1, x2, x3⟩, hX⟩ : ∃ x, x = sm an ad bn bd := ⟨_, rfl⟩
  obtain ⟨⟨y1, y2, y3⟩, hY⟩ : ∃ x, x = sm bn bd cn cd := ⟨_, rfl⟩
  rw [← hX] at h1 ⊢
  rw [← hY] at h2 ⊢
  simp only [decide_eq_true_eq] at h1 h2
  obtain ⟨e1, f1⟩ := h1
  obtain ⟨e2, f2⟩ := h2
  subst e1 e2
  have v1 := (sm_some hX.symm).1
  have v2 := (sm_some hY.symm).1
  simp only [both_vd v1 hc, both_vd v2 ha] at f1 f2 ⊢
  obtain ⟨⟨u1, u2, u3⟩, hU⟩ : ∃ x, x = sm x1 x2 cn cd := ⟨_, rfl⟩
  obtain ⟨⟨z1, z2, z3⟩, hZ⟩ : ∃ x, x = sm y1 y2 an ad := ⟨_, rfl⟩
  rw [← hU] at f1 ⊢
  rw [← hZ] at f2 ⊢
  subst f1 f2
  exact sm_assoc ha hb hc hX.symm hU.symm hY.symm hZ.symm
set_option maxRecDepth 100000 in
set_option maxHeartbeats 8000000 in
theorem field_vd (an ad bn bd cn cd : Int) (ha : Vd an ad) (hb : Vd bn bd) (hc : Vd cn cd) (i1 : I64 an) (i2 : I64 ad) (i3 : I64 bn) (i4 : I64 bd) (i5 : I64 cn) (i6 : I64 cd) (w : World) :
    Calls Try.prog 6 #[RV an ad, RV bn bd, RV cn cd] w fun e w' => e = .returned (.bool true) ∧ Below w.heap.size w w' := by
  have I1 := hid i1; have I2 := hid i2; have I3 := hid i3; have I4 := hid i4; have I5 := hid i5; have I6 := hid i6; clear i1 i2 i3 i4 i5 i6
  have Ha := hid (chk_ok.2 ha); have Hb := hid (chk_ok.2 hb); have Hc := hid (chk_ok.2 hc)
  obtain ⟨⟨x1, x2, x3⟩, hX⟩ : ∃ x, x = sm an ad bn bd := ⟨_, rfl⟩
  have X1 := hid ((both_vd ha hb (sm an ad bn bd)).trans hX.symm)
  have X2 := hid ((both_vd hb ha (sm bn bd an ad)).trans ((sm_comm bn bd an ad).trans hX.symm))
  obtain ⟨⟨p1, p2, p3⟩, hP⟩ : ∃ x, x = pr an ad bn bd := ⟨_, rfl⟩
  have P1 := hid ((both_vd ha hb (pr an ad bn bd)).trans hP.symm)
  have P2 := hid ((both_vd hb ha (pr bn bd an ad)).trans ((pr_comm bn bd an ad).trans hP.symm))
  obtain ⟨⟨r1, r2, r3⟩, hR⟩ : ∃ x, x = both p1 p2 cn cd (pr p1 p2 cn cd) := ⟨_, rfl⟩
  obtain ⟨⟨s1, s2, s3⟩, hS⟩ : ∃ x, x = pr bn bd cn cd := ⟨_, rfl⟩
  have S1 := hid ((both_vd hb hc (pr bn bd cn cd)).trans hS.symm)
  obtain ⟨⟨t1, t2, t3⟩, hT⟩ : ∃ x, x = both an ad s1 s2 (pr an ad s1 s2) := ⟨_, rfl⟩
  obtain ⟨⟨k1, k2, k3⟩, hK⟩ : ∃ x, x = pr an ad cn cd := ⟨_, rfl⟩
  have K1 := hid ((both_vd ha hc (pr an ad cn cd)).trans hK.symm)
  obtain ⟨⟨l1, l2, l3⟩, hL⟩ : ∃ x, x = both x1 x2 cn cd (pr x1 x2 cn cd) := ⟨_, rfl⟩
  obtain ⟨⟨m1, m2, m3⟩, hM⟩ : ∃ x, x = both k1 k2 s1 s2 (sm k1 k2 s1 s2) := ⟨_, rfl⟩
  have R1 := hid hR.symm; have T1' := hid hT.symm; have L1 := hid hL.symm; have M1 := hid hM.symm
  have U1 := hid ((both_vd ha (vd_int 0 (by decide) (by decide)) (sm an ad 0 1)).trans (sm_zero ha))
  have U2 := hid ((both_vd ha (vd_int 1 (by decide) (by decide)) (pr an ad 1 1)).trans (pr_one ha))
  have hx0 : x3 = 0 → Vd x1 x2 := fun e => by subst e; exact (sm_some hX.symm).1
  have hp0 : p3 = 0 → Vd p1 p2 := fun e => by subst e; exact (pr_some hP.symm).1
  have hs0 : s3 = 0 → Vd s1 s2 := fun e => by subst e; exact (pr_some hS.symm).1
  have hk0 : k3 = 0 → Vd k1 k2 := fun e => by subst e; exact (pr_some hK.symm).1
  have C1 := hid (fun e : x3 = 0 => chk_ok.2 (hx0 e))
  have C2 := hid (fun e : p3 = 0 => chk_ok.2 (hp0 e))
  have Q18 : p3 = 0 → r3 = 0 → s3 = 0 → t3 = 0 → r1 = t1 ∧ r2 = t2 := by
    intro e1 e2 e3 e4
    have v1 := hp0 e1; have v2 := hs0 e3
    subst e1 e2 e3 e4
    rw [both_vd v1 hc] at hR
    rw [both_vd ha v2] at hT
    exact pr_assoc ha hb hc hP.symm hR.symm hS.symm hT.symm
  have Q23 : x3 = 0 → k3 = 0 → s3 = 0 → l3 = 0 → m3 = 0 → l1 = m1 ∧ l2 = m2 := by
    intro e1 e2 e3 e4 e5
    have v1 := hx0 e1; have v2 := hk0 e2; have v3 := hs0 e3
    subst e1 e2 e3 e4 e5
    rw [both_vd v1 hc] at hL
    rw [both_vd v2 v3] at hM
    exact pr_distr ha hb hc hX.symm hL.symm hK.symm hS.symm hM.symm
  have jx := nw_i64 (an * bd + bn * ad) (ad * bd)
  have jp := nw_i64 (an * bn) (ad * bd)
  have js := nw_i64 (bn * cn) (bd * cd)
  have jk := nw_i64 (an * cn) (ad * cd)
  rw [show nw (an * bd + bn * ad) (ad * bd) = (x1, x2, x3) from hX.symm] at jx
  rw [show nw (an * bn) (ad * bd) = (p1, p2, p3) from hP.symm] at jp
  rw [show nw (bn * cn) (bd * cd) = (s1, s2, s3) from hS.symm] at js
  rw [show nw (an * cn) (ad * cd) = (k1, k2, k3) from hK.symm] at jk
  have JX := hid jx; have JP := hid jp; have JS := hid js; have JK := hid jk
  have Q13 : (sum3 an ad bn bd cn cd).2 = true → (sum3 bn bd cn cd an ad).2 = true → (sum3 an ad bn bd cn cd).1.1 = (sum3 bn bd cn cd an ad).1.1 ∧ (sum3 an ad bn bd cn cd).1.2.1 = (sum3 bn bd cn cd an ad).1.2.1 := fld_sum ha hb hc
  obtain ⟨⟨⟨u1, u2, u3⟩, fu⟩, hU⟩ : ∃ x, x = sum3 an ad bn bd cn cd := ⟨_, rfl⟩
  obtain ⟨⟨⟨v1, v2, v3⟩, fv⟩, hV⟩ : ∃ x, x = sum3 bn bd cn cd an ad := ⟨_, rfl⟩
  rw [← hU, ← hV] at Q13
  have HU := hid hU; have HVv := hid hV
  have W13 := hid Q13; have W18 := hid Q18; have W23 := hid Q23
  clear hX hP hR hS hT hK hL hM hx0 hp0 hs0 hk0 Q18 Q23 Q13 jx jp js jk hU hV ha hb hc
  have T0 := hid (Below.refl w.heap.size w)
  have A0 : Below (w).heap.size (w) ((w).alloc (.cells #[.int .i64 (an), .int .i64 (ad)] 23)) := (Below.refl _ _).alloc (Nat.le_refl _) _
  have FA := hid (fr_new (w) (an) (ad))
  have T0 := hid (below_t T0.out A0)
  clear A0
  have A0 : Below ((w).alloc (.cells #[.int .i64 (an), .int .i64 (ad)] 23)).heap.size ((w).alloc (.cells #[.int .i64 (an), .int .i64 (ad)] 23)) (((w).alloc (.cells #[.int .i64 (an), .int .i64 (ad)] 23)).alloc (.cells #[.int .i64 (bn), .int .i64 (bd)] 23)) := (Below.refl _ _).alloc (Nat.le_refl _) _
  have FA := hid (FA.out.ups A0)
  have FB := hid (fr_new ((w).alloc (.cells #[.int .i64 (an), .int .i64 (ad)] 23)) (bn) (bd))
  simp only [World.size_alloc] at FB
  have T0 := hid (below_t T0.out A0)
  clear A0
  have A0 : Below (((w).alloc (.cells #[.int .i64 (an), .int .i64 (ad)] 23)).alloc (.cells #[.int .i64 (bn), .int .i64 (bd)] 23)).heap.size (((w).alloc (.cells #[.int .i64 (an), .int .i64 (ad)] 23)).alloc (.cells #[.int .i64 (bn), .int .i64 (bd)] 23)) ((((w).alloc (.cells #[.int .i64 (an), .int .i64 (ad)] 23)).alloc (.cells #[.int .i64 (bn), .int .i64 (bd)] 23)).alloc (.cells #[.int .i64 (cn), .int .i64 (cd)] 23)) := (Below.refl _ _).alloc (Nat.le_refl _) _
  have FA := hid (FA.out.ups A0)
  have FB := hid (FB.out.ups A0)
  have FC := hid (fr_new (((w).alloc (.cells #[.int .i64 (an), .int .i64 (ad)] 23)).alloc (.cells #[.int .i64 (bn), .int .i64 (bd)] 23)) (cn) (cd))
  simp only [World.size_alloc] at FC
  have T0 := hid (below_t T0.out A0)
  clear A0
  go_enter Try.func6, Try.ntmps6
  go_wp2_with fail
  refine (sane_any _).mono ?_
  rintro e w1 ⟨rfl, hb1⟩
  have FA := hid (FA.out.ups hb1)
  have FB := hid (FB.out.ups hb1)
  have FC := hid (FC.out.ups hb1)
  have T1 := hid (below_t T0.out hb1)
  clear hb1
  obtain ⟨FAc0, FAc1, _, _⟩ := FA.out
  go_wp2_with fail
  refine (Check_any an ad I1.out I2.out _).mono ?_
  rintro e w2 ⟨rfl, hb2⟩
  rw [Ha.out]
  clear FAc0 FAc1
  have FA := hid (FA.out.ups hb2)
  have FB := hid (FB.out.ups hb2)
  have FC := hid (FC.out.ups hb2)
  have T2 := hid (below_t T1.out hb2)
  clear hb2
  obtain ⟨FBc0, FBc1, _, _⟩ := FB.out
  go_wp2_with fail
  refine (Check_any bn bd I3.out I4.out _).mono ?_
  rintro e w3 ⟨rfl, hb3⟩
  rw [Hb.out]
  clear FBc0 FBc1
  have FA := hid (FA.out.ups hb3)
  have FB := hid (FB.out.ups hb3)
  have FC := hid (FC.out.ups hb3)
  have T3 := hid (below_t T2.out hb3)
  clear hb3
  obtain ⟨FCc0, FCc1, _, _⟩ := FC.out
  go_wp2_with fail
  refine (Check_any cn cd I5.out I6.out _).mono ?_
  rintro e w4 ⟨rfl, hb4⟩
  rw [Hc.out]
  clear FCc0 FCc1
  have FA := hid (FA.out.ups hb4)
  have FB := hid (FB.out.ups hb4)
  have FC := hid (FC.out.ups hb4)
  have T4 := hid (below_t T3.out hb4)
  clear hb4
  obtain ⟨FAc0, FAc1, _, _⟩ := FA.out
  obtain ⟨FBc0, FBc1, _, _⟩ := FB.out
  go_wp2_with fail
  refine (Add_any an ad bn bd I1.out I2.out I3.out I4.out _).mono ?_
  rintro e w5 ⟨rfl, hb5⟩
  rw [X1.out]
  clear FAc0 FAc1 FBc0 FBc1
  have FA := hid (FA.out.ups hb5)
  have FB := hid (FB.out.ups hb5)
  have FC := hid (FC.out.ups hb5)
  have T5 := hid (below_t T4.out hb5)
  clear hb5
  have A0 : Below w5.heap.size w5 (w5.alloc (.cells #[.int .i64 (x1), .int .i64 (x2)] 23)) := (Below.refl _ _).alloc (Nat.le_refl _) _
  have FA := hid (FA.out.ups A0)
  have FB := hid (FB.out.ups A0)
  have FC := hid (FC.out.ups A0)
  have F1 := hid (fr_new w5 (x1) (x2))
  have T5 := hid (below_t T5.out A0)
  clear A0
  obtain ⟨FAc0, FAc1, _, _⟩ := FA.out
  obtain ⟨FBc0, FBc1, _, _⟩ := FB.out
  go_wp2_with fail
  refine (Add_any bn bd an ad I3.out I4.out I1.out I2.out _).mono ?_
  rintro e w6 ⟨rfl, hb6⟩
  rw [X2.out]
  clear FAc0 FAc1 FBc0 FBc1
  have FA := hid (FA.out.ups hb6)
  have FB := hid (FB.out.ups hb6)
  have FC := hid (FC.out.ups hb6)
  have F1 := hid (F1.out.ups hb6)
  have T6 := hid (below_t T5.out hb6)
  clear hb6
  have A0 : Below w6.heap.size w6 (w6.alloc (.cells #[.int .i64 (x1), .int .i64 (x2)] 23)) := (Below.refl _ _).alloc (Nat.le_refl _) _
  have FA := hid (FA.out.ups A0)
  have FB := hid (FB.out.ups A0)
  have FC := hid (FC.out.ups A0)
  have F1 := hid (F1.out.ups A0)
  have F2 := hid (fr_new w6 (x1) (x2))
  have T6 := hid (below_t T6.out A0)
  clear A0
  obtain ⟨FAc0, FAc1, _, _⟩ := FA.out
  obtain ⟨FBc0, FBc1, _, _⟩ := FB.out
  go_wp2_with fail
  refine (Mul_any an ad bn bd I1.out I2.out I3.out I4.out _).mono ?_
  rintro e w7 ⟨rfl, hb7⟩
  rw [P1.out]
  clear FAc0 FAc1 FBc0 FBc1
  have FA := hid (FA.out.ups hb7)
  have FB := hid (FB.out.ups hb7)
  have FC := hid (FC.out.ups hb7)
  have F1 := hid (F1.out.ups hb7)
  have F2 := hid (F2.out.ups hb7)
  have T7 := hid (below_t T6.out hb7)
  clear hb7
  have A0 : Below w7.heap.size w7 (w7.alloc (.cells #[.int .i64 (p1), .int .i64 (p2)] 23)) := (Below.refl _ _).alloc (Nat.le_refl _) _
  have FA := hid (FA.out.ups A0)
  have FB := hid (FB.out.ups A0)
  have FC := hid (FC.out.ups A0)
  have F1 := hid (F1.out.ups A0)
  have F2 := hid (F2.out.ups A0)
  have F3 := hid (fr_new w7 (p1) (p2))
  have T7 := hid (below_t T7.out A0)
  clear A0
  obtain ⟨FAc0, FAc1, _, _⟩ := FA.out
  obtain ⟨FBc0, FBc1, _, _⟩ := FB.out
  go_wp2_with fail
  refine (Mul_any bn bd an ad I3.out I4.out I1.out I2.out _).mono ?_
  rintro e w8 ⟨rfl, hb8⟩
  rw [P2.out]
  clear FAc0 FAc1 FBc0 FBc1
  have FA := hid (FA.out.ups hb8)
  have FB := hid (FB.out.ups hb8)
  have FC := hid (FC.out.ups hb8)
  have F1 := hid (F1.out.ups hb8)
  have F2 := hid (F2.out.ups hb8)
  have F3 := hid (F3.out.ups hb8)
  have T8 := hid (below_t T7.out hb8)
  clear hb8
  have A0 : Below w8.heap.size w8 (w8.alloc (.cells #[.int .i64 (p1), .int .i64 (p2)] 23)) := (Below.refl _ _).alloc (Nat.le_refl _) _
  have FA := hid (FA.out.ups A0)
  have FB := hid (FB.out.ups A0)
  have FC := hid (FC.out.ups A0)
  have F1 := hid (F1.out.ups A0)
  have F2 := hid (F2.out.ups A0)
  have F3 := hid (F3.out.ups A0)
  have F4 := hid (fr_new w8 (p1) (p2))
  have T8 := hid (below_t T8.out A0)
  clear A0
  clear X1 X2 P1 P2 Ha Hb Hc
  obtain ⟨V1, hV1⟩ : ∃ W, W = w8.alloc (.cells #[.int .i64 (p1), .int .i64 (p2)] 23) := ⟨_, rfl⟩
  rw [← hV1] at FA FB FC F1 F2 F3 F4 T8
  go_upto_region 9 with fail
  rw [← hV1]
  clear hV1
  go_cut [109] (fun c wx => c = .bool false ∧ Hid (Below V1.heap.size V1 wx))
  case first =>
    have BB := hid (Below.refl V1.heap.size V1)
    by_cases hx : x3 = 0
    · have cx := hid (C1.out hx)
      subst hx
      by_cases hp : p3 = 0
      · have cp := hid (C2.out hp)
        subst hp
        obtain ⟨F1c0, F1c1, _, _⟩ := F1.out
        obtain ⟨F2c0, F2c1, _, _⟩ := F2.out
        obtain ⟨F3c0, F3c1, _, _⟩ := F3.out
        obtain ⟨F4c0, F4c1, _, _⟩ := F4.out
        go_wp2_with fail
        refine (Check_any x1 x2 JX.out.1 JX.out.2 _).mono ?_
        rintro e y1 ⟨rfl, hy1⟩
        rw [cx.out]
        have BB := hid (below_t BB.out hy1)
        have F3 := hid (F3.out.ups hy1)
        clear hy1 F1c0 F1c1 F2c0 F2c1 F3c0 F3c1 F4c0 F4c1
        obtain ⟨F3c0, F3c1, _, _⟩ := F3.out
        go_wp2_with fail
        refine (Check_any p1 p2 JP.out.1 JP.out.2 _).mono ?_
        rintro e y2 ⟨rfl, hy2⟩
        rw [cp.out]
        have BB := hid (below_t BB.out hy2)
        clear hy2 F3c0 F3c1
        go_wp2_with fail
        go_meet
        exact ⟨rfl, BB⟩
      · have hpb : (p3 == 0) = false := by simp [hp]
        obtain ⟨F1c0, F1c1, _, _⟩ := F1.out
        obtain ⟨F2c0, F2c1, _, _⟩ := F2.out
        obtain ⟨F3c0, F3c1, _, _⟩ := F3.out
        obtain ⟨F4c0, F4c1, _, _⟩ := F4.out
        go_wp2_with fail
        refine (Check_any x1 x2 JX.out.1 JX.out.2 _).mono ?_
        rintro e y1 ⟨rfl, hy1⟩
        rw [cx.out]
        have BB := hid (below_t BB.out hy1)
        clear hy1 F1c0 F1c1 F2c0 F2c1 F3c0 F3c1 F4c0 F4c1
        go_wp2_with fail
        go_meet
        exact ⟨rfl, BB⟩
    · have hxb : (x3 == 0) = false := by simp [hx]
      by_cases hp : p3 = 0
      · have cp := hid (C2.out hp)
        subst hp
        obtain ⟨F1c0, F1c1, _, _⟩ := F1.out
        obtain ⟨F2c0, F2c1, _, _⟩ := F2.out
        obtain ⟨F3c0, F3c1, _, _⟩ := F3.out
        obtain ⟨F4c0, F4c1, _, _⟩ := F4.out
        go_wp2_with fail
        refine (Check_any p1 p2 JP.out.1 JP.out.2 _).mono ?_
        rintro e y1 ⟨rfl, hy1⟩
        rw [cp.out]
        have BB := hid (below_t BB.out hy1)
        clear hy1 F1c0 F1c1 F2c0 F2c1 F3c0 F3c1 F4c0 F4c1
        go_wp2_with fail
        go_meet
        exact ⟨rfl, BB⟩
      · have hpb : (p3 == 0) = false := by simp [hp]
        obtain ⟨F1c0, F1c1, _, _⟩ := F1.out
        obtain ⟨F2c0, F2c1, _, _⟩ := F2.out
        obtain ⟨F3c0, F3c1, _, _⟩ := F3.out
        obtain ⟨F4c0, F4c1, _, _⟩ := F4.out
        go_wp2_with fail
        go_meet
        exact ⟨rfl, BB⟩
  case rest => as_aux_lemma =>
    obtain ⟨rfl, BB⟩ := hcut
    have FA := hid (FA.out.ups BB.out)
    have FB := hid (FB.out.ups BB.out)
    have FC := hid (FC.out.ups BB.out)
    have F1 := hid (F1.out.ups BB.out)
    have F2 := hid (F2.out.ups BB.out)
    have F3 := hid (F3.out.ups BB.out)
    have F4 := hid (F4.out.ups BB.out)
    have T8 := hid (below_t T8.out BB.out)
    clear BB
    clear F2
    clear F4
    obtain ⟨FAc0, FAc1, _, _⟩ := FA.out
    obtain ⟨FBc0, FBc1, _, _⟩ := FB.out
    obtain ⟨FCc0, FCc1, _, _⟩ := FC.out
    go_wp2_with fail
    refine (sum_any an ad bn bd cn cd I1.out I2.out I3.out I4.out I5.out I6.out _).mono ?_
    rintro e w9 ⟨rfl, hb9⟩
    rw [← HU.out]
    clear FAc0 FAc1 FBc0 FBc1 FCc0 FCc1
    have FA := hid (FA.out.ups hb9)
    have FB := hid (FB.out.ups hb9)
    have FC := hid (FC.out.ups hb9)
    have F1 := hid (F1.out.ups hb9)
    have F3 := hid (F3.out.ups hb9)
    have T9 := hid (below_t T8.out hb9)
    clear hb9
    have A0 : Below w9.heap.size w9 (w9.alloc (.cells #[.int .i64 (u1), .int .i64 (u2)] 23)) := (Below.refl _ _).alloc (Nat.le_refl _) _
    have FA := hid (FA.out.ups A0)
    have FB := hid (FB.out.ups A0)
    have FC := hid (FC.out.ups A0)
    have F1 := hid (F1.out.ups A0)
    have F3 := hid (F3.out.ups A0)
    have F5 := hid (fr_new w9 (u1) (u2))
    have T9 := hid (below_t T9.out A0)
    clear A0
    obtain ⟨FAc0, FAc1, _, _⟩ := FA.out
    obtain ⟨FBc0, FBc1, _, _⟩ := FB.out
    obtain ⟨FCc0, FCc1, _, _⟩ := FC.out
    go_wp2_with fail
    refine (sum_any bn bd cn cd an ad I3.out I4.out I5.out I6.out I1.out I2.out _).mono ?_
    rintro e w10 ⟨rfl, hb10⟩
    rw [← HVv.out]
    clear FAc0 FAc1 FBc0 FBc1 FCc0 FCc1
    have FA := hid (FA.out.ups hb10)
    have FB := hid (FB.out.ups hb10)
    have FC := hid (FC.out.ups hb10)
    have F1 := hid (F1.out.ups hb10)
    have F3 := hid (F3.out.ups hb10)
    have F5 := hid (F5.out.ups hb10)
    have T10 := hid (below_t T9.out hb10)
    clear hb10
    have A0 : Below w10.heap.size w10 (w10.alloc (.cells #[.int .i64 (v1), .int .i64 (v2)] 23)) := (Below.refl _ _).alloc (Nat.le_refl _) _
    have FA := hid (FA.out.ups A0)
    have FB := hid (FB.out.ups A0)
    have FC := hid (FC.out.ups A0)
    have F1 := hid (F1.out.ups A0)
    have F3 := hid (F3.out.ups A0)
    have F5 := hid (F5.out.ups A0)
    have F6 := hid (fr_new w10 (v1) (v2))
    have T10 := hid (below_t T10.out A0)
    clear A0
    clear HU HVv
    obtain ⟨V2, hV2⟩ : ∃ W, W = w10.alloc (.cells #[.int .i64 (v1), .int .i64 (v2)] 23) := ⟨_, rfl⟩
    rw [← hV2] at FA FB FC F1 F3 F5 F6 T10
    go_upto_region 13 with fail
    rw [← hV2]
    clear hV2
    go_cut [132] (fun c wx => c = .bool false ∧ wx = V2)
    case first =>
      obtain ⟨F5c0, F5c1, _, _⟩ := F5.out
      obtain ⟨F6c0, F6c1, _, _⟩ := F6.out
      cases fu with
      | false =>
        go_wp2_with fail
        go_meet
        exact ⟨rfl, rfl⟩
      | true =>
        cases fv with
        | false =>
          go_wp2_with fail
          go_meet
          exact ⟨rfl, rfl⟩
        | true =>
          obtain ⟨e1, e2⟩ := W13.out rfl rfl
          subst e1 e2
          go_wp2_with fail
          go_meet
          exact ⟨rfl, rfl⟩
    case rest => as_aux_lemma =>
      obtain ⟨rfl, rfl⟩ := hcut
      clear W13
      clear F5
      clear F6
      obtain ⟨F3c0, F3c1, _, _⟩ := F3.out
      obtain ⟨FCc0, FCc1, _, _⟩ := FC.out
      go_wp2_with fail
      refine (Mul_any p1 p2 cn cd JP.out.1 JP.out.2 I5.out I6.out _).mono ?_
      rintro e w11 ⟨rfl, hb11⟩
      rw [R1.out]
      clear F3c0 F3c1 FCc0 FCc1
      have FA := hid (FA.out.ups hb11)
      have FB := hid (FB.out.ups hb11)
      have FC := hid (FC.out.ups hb11)
      have F1 := hid (F1.out.ups hb11)
      have F3 := hid (F3.out.ups hb11)
      have T11 := hid (below_t T10.out hb11)
      clear hb11
      have A0 : Below w11.heap.size w11 (w11.alloc (.cells #[.int .i64 (r1), .int .i64 (r2)] 23)) := (Below.refl _ _).alloc (Nat.le_refl _) _
      have FA := hid (FA.out.ups A0)
      have FB := hid (FB.out.ups A0)
      have FC := hid (FC.out.ups A0)
      have F1 := hid (F1.out.ups A0)
      have F3 := hid (F3.out.ups A0)
      have F7 := hid (fr_new w11 (r1) (r2))
      have T11 := hid (below_t T11.out A0)
      clear A0
      obtain ⟨FBc0, FBc1, _, _⟩ := FB.out
      obtain ⟨FCc0, FCc1, _, _⟩ := FC.out
      go_wp2_with fail
      refine (Mul_any bn bd cn cd I3.out I4.out I5.out I6.out _).mono ?_
      rintro e w12 ⟨rfl, hb12⟩
      rw [S1.out]
      clear FBc0 FBc1 FCc0 FCc1
      have FA := hid (FA.out.ups hb12)
      have FB := hid (FB.out.ups hb12)
      have FC := hid (FC.out.ups hb12)
      have F1 := hid (F1.out.ups hb12)
      have F3 := hid (F3.out.ups hb12)
      have F7 := hid (F7.out.ups hb12)
      have T12 := hid (below_t T11.out hb12)
      clear hb12
      have A0 : Below w12.heap.size w12 (w12.alloc (.cells #[.int .i64 (s1), .int .i64 (s2)] 23)) := (Below.refl _ _).alloc (Nat.le_refl _) _
      have FA := hid (FA.out.ups A0)
      have FB := hid (FB.out.ups A0)
      have FC := hid (FC.out.ups A0)
      have F1 := hid (F1.out.ups A0)
      have F3 := hid (F3.out.ups A0)
      have F7 := hid (F7.out.ups A0)
      have F8 := hid (fr_new w12 (s1) (s2))
      have T12 := hid (below_t T12.out A0)
      clear A0
      obtain ⟨FAc0, FAc1, _, _⟩ := FA.out
      obtain ⟨F8c0, F8c1, _, _⟩ := F8.out
      go_wp2_with fail
      refine (Mul_any an ad s1 s2 I1.out I2.out JS.out.1 JS.out.2 _).mono ?_
      rintro e w13 ⟨rfl, hb13⟩
      rw [T1'.out]
      clear FAc0 FAc1 F8c0 F8c1
      have FA := hid (FA.out.ups hb13)
      have FB := hid (FB.out.ups hb13)
      have FC := hid (FC.out.ups hb13)
      have F1 := hid (F1.out.ups hb13)
      have F3 := hid (F3.out.ups hb13)
      have F7 := hid (F7.out.ups hb13)
      have F8 := hid (F8.out.ups hb13)
      have T13 := hid (below_t T12.out hb13)
      clear hb13
      have A0 : Below w13.heap.size w13 (w13.alloc (.cells #[.int .i64 (t1), .int .i64 (t2)] 23)) := (Below.refl _ _).alloc (Nat.le_refl _) _
      have FA := hid (FA.out.ups A0)
      have FB := hid (FB.out.ups A0)
      have FC := hid (FC.out.ups A0)
      have F1 := hid (F1.out.ups A0)
      have F3 := hid (F3.out.ups A0)
      have F7 := hid (F7.out.ups A0)
      have F8 := hid (F8.out.ups A0)
      have F9 := hid (fr_new w13 (t1) (t2))
      have T13 := hid (below_t T13.out A0)
      clear A0
      clear R1 S1 T1'
      obtain ⟨V3, hV3⟩ : ∃ W, W = w13.alloc (.cells #[.int .i64 (t1), .int .i64 (t2)] 23) := ⟨_, rfl⟩
      rw [← hV3] at FA FB FC F1 F3 F7 F8 F9 T13
      go_upto_region 18 with fail
      rw [← hV3]
      clear hV3
      go_cut [169] (fun c wx => c = .bool false ∧ wx = V3)
      case first =>
        obtain ⟨F7c0, F7c1, _, _⟩ := F7.out
        obtain ⟨F9c0, F9c1, _, _⟩ := F9.out
        by_cases hp3 : p3 = 0
        rotate_left
        · have hb : (p3 == 0) = false := by simp [hp3]
          clear hp3
          go_wp2_with fail
          go_meet
          exact ⟨rfl, rfl⟩
        by_cases hr3 : r3 = 0
        rotate_left
        · have hb : (r3 == 0) = false := by simp [hr3]
          clear hr3
          go_wp2_with fail
          go_meet
          exact ⟨rfl, rfl⟩
        by_cases hs3 : s3 = 0
        rotate_left
        · have hb : (s3 == 0) = false := by simp [hs3]
          clear hs3
          go_wp2_with fail
          go_meet
          exact ⟨rfl, rfl⟩
        by_cases ht3 : t3 = 0
        rotate_left
        · have hb : (t3 == 0) = false := by simp [ht3]
          clear ht3
          go_wp2_with fail
          go_meet
          exact ⟨rfl, rfl⟩
        obtain ⟨e1, e2⟩ := W18.out hp3 hr3 hs3 ht3
        subst hp3 hr3 hs3 ht3
        subst e1 e2
        go_wp2_with fail
        go_meet
        exact ⟨rfl, rfl⟩
      case rest => as_aux_lemma =>
        obtain ⟨rfl, rfl⟩ := hcut
        clear W18
        clear F7
        clear F9
        obtain ⟨FAc0, FAc1, _, _⟩ := FA.out
        obtain ⟨FCc0, FCc1, _, _⟩ := FC.out
        go_wp2_with fail
        refine (Mul_any an ad cn cd I1.out I2.out I5.out I6.out _).mono ?_
        rintro e w14 ⟨rfl, hb14⟩
        rw [K1.out]
        clear FAc0 FAc1 FCc0 FCc1
        have FA := hid (FA.out.ups hb14)
        have FB := hid (FB.out.ups hb14)
        have FC := hid (FC.out.ups hb14)
        have F1 := hid (F1.out.ups hb14)
        have F3 := hid (F3.out.ups hb14)
        have F8 := hid (F8.out.ups hb14)
        have T14 := hid (below_t T13.out hb14)
        clear hb14
        have A0 : Below w14.heap.size w14 (w14.alloc (.cells #[.int .i64 (k1), .int .i64 (k2)] 23)) := (Below.refl _ _).alloc (Nat.le_refl _) _
        have FA := hid (FA.out.ups A0)
        have FB := hid (FB.out.ups A0)
        have FC := hid (FC.out.ups A0)
        have F1 := hid (F1.out.ups A0)
        have F3 := hid (F3.out.ups A0)
        have F8 := hid (F8.out.ups A0)
        have G1 := hid (fr_new w14 (k1) (k2))
        have T14 := hid (below_t T14.out A0)
        clear A0
        obtain ⟨F1c0, F1c1, _, _⟩ := F1.out
        obtain ⟨FCc0, FCc1, _, _⟩ := FC.out
        go_wp2_with fail
        refine (Mul_any x1 x2 cn cd JX.out.1 JX.out.2 I5.out I6.out _).mono ?_
        rintro e w15 ⟨rfl, hb15⟩
        rw [L1.out]
        clear F1c0 F1c1 FCc0 FCc1
        have FA := hid (FA.out.ups hb15)
        have FB := hid (FB.out.ups hb15)
        have FC := hid (FC.out.ups hb15)
        have F1 := hid (F1.out.ups hb15)
        have F3 := hid (F3.out.ups hb15)
        have F8 := hid (F8.out.ups hb15)
        have G1 := hid (G1.out.ups hb15)
        have T15 := hid (below_t T14.out hb15)
        clear hb15
        have A0 : Below w15.heap.size w15 (w15.alloc (.cells #[.int .i64 (l1), .int .i64 (l2)] 23)) := (Below.refl _ _).alloc (Nat.le_refl _) _
        have FA := hid (FA.out.ups A0)
        have FB := hid (FB.out.ups A0)
        have FC := hid (FC.out.ups A0)
        have F1 := hid (F1.out.ups A0)
        have F3 := hid (F3.out.ups A0)
        have F8 := hid (F8.out.ups A0)
        have G1 := hid (G1.out.ups A0)
        have G2 := hid (fr_new w15 (l1) (l2))
        have T15 := hid (below_t T15.out A0)
        clear A0
        obtain ⟨G1c0, G1c1, _, _⟩ := G1.out
        obtain ⟨F8c0, F8c1, _, _⟩ := F8.out
        go_wp2_with fail
        refine (Add_any k1 k2 s1 s2 JK.out.1 JK.out.2 JS.out.1 JS.out.2 _).mono ?_
        rintro e w16 ⟨rfl, hb16⟩
        rw [M1.out]
        clear G1c0 G1c1 F8c0 F8c1
        have FA := hid (FA.out.ups hb16)
        have FB := hid (FB.out.ups hb16)
        have FC := hid (FC.out.ups hb16)
        have F1 := hid (F1.out.ups hb16)
        have F3 := hid (F3.out.ups hb16)
        have F8 := hid (F8.out.ups hb16)
        have G1 := hid (G1.out.ups hb16)
        have G2 := hid (G2.out.ups hb16)
        have T16 := hid (below_t T15.out hb16)
        clear hb16
        have A0 : Below w16.heap.size w16 (w16.alloc (.cells #[.int .i64 (m1), .int .i64 (m2)] 23)) := (Below.refl _ _).alloc (Nat.le_refl _) _
        have FA := hid (FA.out.ups A0)
        have FB := hid (FB.out.ups A0)
        have FC := hid (FC.out.ups A0)
        have F1 := hid (F1.out.ups A0)
        have F3 := hid (F3.out.ups A0)
        have F8 := hid (F8.out.ups A0)
        have G1 := hid (G1.out.ups A0)
        have G2 := hid (G2.out.ups A0)
        have G3 := hid (fr_new w16 (m1) (m2))
        have T16 := hid (below_t T16.out A0)
        clear A0
        clear K1 L1 M1
        obtain ⟨V4, hV4⟩ : ∃ W, W = w16.alloc (.cells #[.int .i64 (m1), .int .i64 (m2)] 23) := ⟨_, rfl⟩
        rw [← hV4] at FA FB FC F1 F3 F8 G1 G2 G3 T16
        go_upto_region 23 with fail
        rw [← hV4]
        clear hV4
        go_cut [210] (fun c wx => c = .bool false ∧ wx = V4)
        case first =>
          obtain ⟨G2c0, G2c1, _, _⟩ := G2.out
          obtain ⟨G3c0, G3c1, _, _⟩ := G3.out
          by_cases hx3 : x3 = 0
          rotate_left
          · have hb : (x3 == 0) = false := by simp [hx3]
            clear hx3
            go_wp2_with fail
            go_meet
            exact ⟨rfl, rfl⟩
          by_cases hk3 : k3 = 0
          rotate_left
          · have hb : (k3 == 0) = false := by simp [hk3]
            clear hk3
            go_wp2_with fail
            go_meet
            exact ⟨rfl, rfl⟩
          by_cases hs3 : s3 = 0
          rotate_left
          · have hb : (s3 == 0) = false := by simp [hs3]
            clear hs3
            go_wp2_with fail
            go_meet
            exact ⟨rfl, rfl⟩
          by_cases hl3 : l3 = 0
          rotate_left
          · have hb : (l3 == 0) = false := by simp [hl3]
            clear hl3
            go_wp2_with fail
            go_meet
            exact ⟨rfl, rfl⟩
          by_cases hm3 : m3 = 0
          rotate_left
          · have hb : (m3 == 0) = false := by simp [hm3]
            clear hm3
            go_wp2_with fail
            go_meet
            exact ⟨rfl, rfl⟩
          obtain ⟨e1, e2⟩ := W23.out hx3 hk3 hs3 hl3 hm3
          subst hx3 hk3 hs3 hl3 hm3
          subst e1 e2
          go_wp2_with fail
          go_meet
          exact ⟨rfl, rfl⟩
        case rest => as_aux_lemma =>
          obtain ⟨rfl, rfl⟩ := hcut
          clear W23
          clear G1
          clear G2
          clear G3
          clear F1
          clear F3
          clear F8
          obtain ⟨FAc0, FAc1, _, _⟩ := FA.out
          go_wp2_with fail
          refine (Add_any an ad 0 1 I1.out I2.out (i64s (by decide)) (i64s (by decide)) _).mono ?_
          rintro e w17 ⟨rfl, hb17⟩
          rw [U1.out]
          clear FAc0 FAc1
          have FA := hid (FA.out.ups hb17)
          have FB := hid (FB.out.ups hb17)
          have FC := hid (FC.out.ups hb17)
          have T17 := hid (below_t T16.out hb17)
          clear hb17
          have A0 : Below w17.heap.size w17 (w17.alloc (.cells #[.int .i64 (an), .int .i64 (ad)] 23)) := (Below.refl _ _).alloc (Nat.le_refl _) _
          have FA := hid (FA.out.ups A0)
          have FB := hid (FB.out.ups A0)
          have FC := hid (FC.out.ups A0)
          have G4 := hid (fr_new w17 (an) (ad))
          have T17 := hid (below_t T17.out A0)
          clear A0
          obtain ⟨FAc0, FAc1, _, _⟩ := FA.out
          go_wp2_with fail
          refine (Mul_any an ad 1 1 I1.out I2.out (i64s (by decide)) (i64s (by decide)) _).mono ?_
          rintro e w18 ⟨rfl, hb18⟩
          rw [U2.out]
          clear FAc0 FAc1
          have FA := hid (FA.out.ups hb18)
          have FB := hid (FB.out.ups hb18)
          have FC := hid (FC.out.ups hb18)
          have G4 := hid (G4.out.ups hb18)
          have T18 := hid (below_t T17.out hb18)
          clear hb18
          have A0 : Below w18.heap.size w18 (w18.alloc (.cells #[.int .i64 (an), .int .i64 (ad)] 23)) := (Below.refl _ _).alloc (Nat.le_refl _) _
          have FA := hid (FA.out.ups A0)
          have FB := hid (FB.out.ups A0)
          have FC := hid (FC.out.ups A0)
          have G4 := hid (G4.out.ups A0)
          have G5 := hid (fr_new w18 (an) (ad))
          have T18 := hid (below_t T18.out A0)
          clear A0
          obtain ⟨FAc0, FAc1, _, _⟩ := FA.out
          obtain ⟨G4c0, G4c1, _, _⟩ := G4.out
          obtain ⟨G5c0, G5c1, _, _⟩ := G5.out
          go_wp2
          go_ret
          exact ⟨by simp, T18.out⟩
theorem field_any (an ad bn bd cn cd : Int) (i1 : I64 an) (i2 : I64 ad) (i3 : I64 bn) (i4 : I64 bd) (i5 : I64 cn) (i6 : I64 cd) (w : World) :
    Calls Try.prog 6 #[RV an ad, RV bn bd, RV cn cd] w fun e w' => e = .returned (.bool true) ∧ Below w.heap.size w w' := by
  by_cases ha : chk an ad = 0
  · by_cases hb : chk bn bd = 0
    · by_cases hc : chk cn cd = 0
      · exact field_vd an ad bn bd cn cd (chk_ok.1 ha) (chk_ok.1 hb) (chk_ok.1 hc) i1 i2 i3 i4 i5 i6 w
      · exact field_bad_c an ad bn bd cn cd i1 i2 i3 i4 i5 i6 ha hb hc w
    · exact field_bad_b an ad bn bd cn cd i1 i2 i3 i4 i5 i6 ha hb w
  · exact field_bad_a an ad bn bd cn cd i1 i2 i3 i4 i5 i6 ha w
end Go.Proofs.Ythmakdlmadgpcaa

/- The law of the order. -/
import Derived.Test.YthmakdlmadgpcaaV
namespace Go.Proofs.Ythmakdlmadgpcaa
open Go.RowKit Go
set_option linter.unusedVariables false
set_option linter.unusedSimpArgs false
set_option maxRecDepth 100000 in
theorem order_bad_a (an ad bn bd cn cd : Int) (i1 : I64 an) (i2 : I64 ad) (i3 : I64 bn) (i4 : I64 bd) (i5 : I64 cn) (i6 : I64 cd) (ha : chk an ad ≠ 0) (w : World) :
    Calls Try.prog 7 #[RV an ad, RV bn bd, RV cn cd] w fun e w' => e = .returned (.bool true) ∧ Below w.heap.size w w' := by
  have I1 := hid i1; have I2 := hid i2; have I3 := hid i3; have I4 := hid i4; have I5 := hid i5; have I6 := hid i6; clear i1 i2 i3 i4 i5 i6
  have Ha := hid ha; clear ha
  have T0 := hid (Below.refl w.heap.size w)
  have A0 : Below (w).heap.size (w) ((w).alloc (.cells #[.int .i64 (an), .int .i64 (ad)] 23)) := (Below.refl _ _).alloc (Nat.le_refl _) _
  have FA := hid (fr_new (w) (an) (ad))
  have T0 := hid (below_t T0.out A0)
  clear A0
  have A0 : Below ((w).alloc (.cells #[.int .i64 (an), .int .i64 (ad)] 23)).heap.size ((w).alloc (.cells #[.int .i64 (an), .int .i64 (ad)] 23)) (((w).alloc (.cells #[.int .i64 (an), .int .i64 (ad)] 23)).alloc (.cells #[.int .i64 (bn), .int .i64 (bd)] 23)) := (Below.refl _ _).alloc (Nat.le_refl _) _
  have FA := hid (FA.out.ups A0)
  have FB := hid (fr_new ((w).alloc (.cells #[.int .i64 (an), .int .i64 (ad)] 23)) (bn) (bd))
  simp only [World.size_alloc] at FB
  have T0 := hid (below_t T0.out A0)
  clear A0
  have A0 : Below (((w).alloc (.cells #[.int .i64 (an), .int .i64 (ad)] 23)).alloc (.cells #[.int .i64 (bn), .int .i64 (bd)] 23)).heap.size (((w).alloc (.cells #[.int .i64 (an), .int .i64 (ad)] 23)).alloc (.cells #[.int .i64 (bn), .int .i64 (bd)] 23)) ((((w).alloc (.cells #[.int .i64 (an), .int .i64 (ad)] 23)).alloc (.cells #[.int .i64 (bn), .int .i64 (bd)] 23)).alloc (.cells #[.int .i64 (cn), .int .i64 (cd)] 23)) := (Below.refl _ _).alloc (Nat.le_refl _) _
  have FA := hid (FA.out.ups A0)
  have FB := hid (FB.out.ups A0)
  have FC := hid (fr_new (((w).alloc (.cells #[.int .i64 (an), .int .i64 (ad)] 23)).alloc (.cells #[.int .i64 (bn), .int .i64 (bd)] 23)) (cn) (cd))
  simp only [World.size_alloc] at FC
  have T0 := hid (below_t T0.out A0)
  clear A0
  go_enter Try.func7, Try.ntmps7
  go_wp2_with fail
  refine (sane_any _).mono ?_
  rintro e w1 ⟨rfl, hb1⟩
  have FA := hid (FA.out.ups hb1)
  have FB := hid (FB.out.ups hb1)
  have FC := hid (FC.out.ups hb1)
  have T1 := hid (below_t T0.out hb1)
  clear hb1
  obtain ⟨FAc0, FAc1, _, _⟩ := FA.out
  go_wp2_with fail
  refine (Check_any an ad I1.out I2.out _).mono ?_
  rintro e w2 ⟨rfl, hb2⟩
  rw [chk_ne Ha.out]
  clear FAc0 FAc1
  have FA := hid (FA.out.ups hb2)
  have FB := hid (FB.out.ups hb2)
  have FC := hid (FC.out.ups hb2)
  have T2 := hid (below_t T1.out hb2)
  clear hb2
  go_wp2
  go_ret
  exact ⟨rfl, T2.out⟩
set_option maxRecDepth 100000 in
theorem order_bad_b (an ad bn bd cn cd : Int) (i1 : I64 an) (i2 : I64 ad) (i3 : I64 bn) (i4 : I64 bd) (i5 : I64 cn) (i6 : I64 cd) (ha : chk an ad = 0) (hb : chk bn bd ≠ 0) (w : World) :
    Calls Try.prog 7 #[RV an ad, RV bn bd, RV cn cd] w fun e w' => e = .returned (.bool true) ∧ Below w.heap.size w w' := by
  have I1 := hid i1; have I2 := hid i2; have I3 := hid i3; have I4 := hid i4; have I5 := hid i5; have I6 := hid i6; clear i1 i2 i3 i4 i5 i6
  have Ha := hid ha; clear ha
  have Hb := hid hb; clear hb
  have T0 := hid (Below.refl w.heap.size w)
  have A0 : Below (w).heap.size (w) ((w).alloc (.cells #[.int .i64 (an), .int .i64 (ad)] 23)) := (Below.refl _ _).alloc (Nat.le_refl _) _
  have FA := hid (fr_new (w) (an) (ad))
  have T0 := hid (below_t T0.out A0)
  clear A0
  have A0 : Below ((w).alloc (.cells #[.int .i64 (an), .int .i64 (ad)] 23)).heap.size ((w).alloc (.cells #[.int .i64 (an), .int .i64 (ad)] 23)) (((w).alloc (.cells #[.int .i64 (an), .int .i64 (ad)] 23)).alloc (.cells #[.int .i64 (bn), .int .i64 (bd)] 23)) := (Below.refl _ _).alloc (Nat.le_refl _) _
  have FA := hid (FA.out.ups A0)
  have FB := hid (fr_new ((w).alloc (.cells #[.int .i64 (an), .int .i64 (ad)] 23)) (bn) (bd))
  simp only [World.size_alloc] at FB
  have T0 := hid (below_t T0.out A0)
  clear A0
  have A0 : Below (((w).alloc (.cells #[.int .i64 (an), .int .i64 (ad)] 23)).alloc (.cells #[.int .i64 (bn), .int .i64 (bd)] 23)).heap.size (((w).alloc (.cells #[.int .i64 (an), .int .i64 (ad)] 23)).alloc (.cells #[.int .i64 (bn), .int .i64 (bd)] 23)) ((((w).alloc (.cells #[.int .i64 (an), .int .i64 (ad)] 23)).alloc (.cells #[.int .i64 (bn), .int .i64 (bd)] 23)).alloc (.cells #[.int .i64 (cn), .int .i64 (cd)] 23)) := (Below.refl _ _).alloc (Nat.le_refl _) _
  have FA := hid (FA.out.ups A0)
  have FB := hid (FB.out.ups A0)
  have FC := hid (fr_new (((w).alloc (.cells #[.int .i64 (an), .int .i64 (ad)] 23)).alloc (.cells #[.int .i64 (bn), .int .i64 (bd)] 23)) (cn) (cd))
  simp only [World.size_alloc] at FC
  have T0 := hid (below_t T0.out A0)
  clear A0
  go_enter Try.func7, Try.ntmps7
  go_wp2_with fail
  refine (sane_any _).mono ?_
  rintro e w1 ⟨rfl, hb1⟩
  have FA := hid (FA.out.ups hb1)
  have FB := hid (FB.out.ups hb1)
  have FC := hid (FC.out.ups hb1)
  have T1 := hid (below_t T0.out hb1)
  clear hb1
  obtain ⟨FAc0, FAc1, _, _⟩ := FA.out
  go_wp2_with fail
  refine (Check_any an ad I1.out I2.out _).mono ?_
  rintro e w2 ⟨rfl, hb2⟩
  rw [Ha.out]
  clear FAc0 FAc1
  have FA := hid (FA.out.ups hb2)
  have FB := hid (FB.out.ups hb2)
  have FC := hid (FC.out.ups hb2)
  have T2 := hid (below_t T1.out hb2)
  clear hb2
  obtain ⟨FBc0, FBc1, _, _⟩ := FB.out
  go_wp2_with fail
  refine (Check_any bn bd I3.out I4.out _).mono ?_
  rintro e w3 ⟨rfl, hb3⟩
  rw [chk_ne Hb.out]
  clear FBc0 FBc1
  have FA := hid (FA.out.ups hb3)
  have FB := hid (FB.out.ups hb3)
  have FC := hid (FC.out.ups hb3)
  have T3 := hid (below_t T2.out hb3)
  clear hb3
  go_wp2
  go_ret
  exact ⟨rfl, T3.out⟩
set_option maxRecDepth 100000 in
theorem order_bad_c (an ad bn bd cn cd : Int) (i1 : I64 an) (i2 : I64 ad) (i3 : I64 bn) (i4 : I64 bd) (i5 : I64 cn) (i6 : I64 cd) (ha : chk an ad = 0) (hb : chk bn bd = 0) (hc : chk cn cd ≠ 0) (w : World) :
    Calls Try.prog 7 #[RV an ad, RV bn bd, RV cn cd] w fun e w' => e = .returned (.bool true) ∧ Below w.heap.size w w' := by
  have I1 := hid i1; have I2 := hid i2; have I3 := hid i3; have I4 := hid i4; have I5 := hid i5; have I6 := hid i6; clear i1 i2 i3 i4 i5 i6
  have Ha := hid ha; clear ha
  have Hb := hid hb; clear hb
  have Hc := hid hc; clear hc
  have T0 := hid (Below.refl w.heap.size w)
  have A0 : Below (w).heap.size (w) ((w).alloc (.cells #[.int .i64 (an), .int .i64 (ad)] 23)) := (Below.refl _ _).alloc (Nat.le_refl _) _
  have FA := hid (fr_new (w) (an) (ad))
  have T0 := hid (below_t T0.out A0)
  clear A0
  have A0 : Below ((w).alloc (.cells #[.int .i64 (an), .int .i64 (ad)] 23)).heap.size ((w).alloc (.cells #[.int .i64 (an), .int .i64 (ad)] 23)) (((w).alloc (.cells #[.int .i64 (an), .int .i64 (ad)] 23)).alloc (.cells #[.int .i64 (bn), .int .i64 (bd)] 23)) := (Below.refl _ _).alloc (Nat.le_refl _) _
  have FA := hid (FA.out.ups A0)
  have FB := hid (fr_new ((w).alloc (.cells #[.int .i64 (an), .int .i64 (ad)] 23)) (bn) (bd))
  simp only [World.size_alloc] at FB
  have T0 := hid (below_t T0.out A0)
  clear A0
  have A0 : Below (((w).alloc (.cells #[.int .i64 (an), .int .i64 (ad)] 23)).alloc (.cells #[.int .i64 (bn), .int .i64 (bd)] 23)).heap.size (((w).alloc (.cells #[.int .i64 (an), .int .i64 (ad)] 23)).alloc (.cells #[.int .i64 (bn), .int .i64 (bd)] 23)) ((((w).alloc (.cells #[.int .i64 (an), .int .i64 (ad)] 23)).alloc (.cells #[.int .i64 (bn), .int .i64 (bd)] 23)).alloc (.cells #[.int .i64 (cn), .int .i64 (cd)] 23)) := (Below.refl _ _).alloc (Nat.le_refl _) _
  have FA := hid (FA.out.ups A0)
  have FB := hid (FB.out.ups A0)
  have FC := hid (fr_new (((w).alloc (.cells #[.int .i64 (an), .int .i64 (ad)] 23)).alloc (.cells #[.int .i64 (bn), .int .i64 (bd)] 23)) (cn) (cd))
  simp only [World.size_alloc] at FC
  have T0 := hid (below_t T0.out A0)
  clear A0
  go_enter Try.func7, Try.ntmps7
  go_wp2_with fail
  refine (sane_any _).mono ?_
  rintro e w1 ⟨rfl, hb1⟩
  have FA := hid (FA.out.ups hb1)
  have FB := hid (FB.out.ups hb1)
  have FC := hid (FC.out.ups hb1)
  have T1 := hid (below_t T0.out hb1)
  clear hb1
  obtain ⟨FAc0, FAc1, _, _⟩ := FA.out
  go_wp2_with fail
  refine (Check_any an ad I1.out I2.out _).mono ?_
  rintro e w2 ⟨rfl, hb2⟩
  rw [Ha.out]
  clear FAc0 FAc1
  have FA := hid (FA.out.ups hb2)
  have FB := hid (FB.out.ups hb2)
  have FC := hid (FC.out.ups hb2)
  have T2 := hid (below_t T1.out hb2)
  clear hb2
  obtain ⟨FBc0, FBc1, _, _⟩ := FB.out
  go_wp2_with fail
  refine (Check_any bn bd I3.out I4.out _).mono ?_
  rintro e w3 ⟨rfl, hb3⟩
  rw [Hb.out]
  clear FBc0 FBc1
  have FA := hid (FA.out.ups hb3)
  have FB := hid (FB.out.ups hb3)
  have FC := hid (FC.out.ups hb3)
  have T3 := hid (below_t T2.out hb3)
  clear hb3
  obtain ⟨FCc0, FCc1, _, _⟩ := FC.out
  go_wp2_with fail
  refine (Check_any cn cd I5.out I6.out _).mono ?_
  rintro e w4 ⟨rfl, hb4⟩
  rw [chk_ne Hc.out]
  clear FCc0 FCc1
  have FA := hid (FA.out.ups hb4)
  have FB := hid (FB.out.ups hb4)
  have FC := hid (FC.out.ups hb4)
  have T4 := hid (below_t T3.out hb4)
  clear hb4
  go_wp2
  go_ret
  exact ⟨rfl, T4.out⟩
theorem FR.set2 {w : World} {B S : Nat} {p q : Int} {u v : Value} (h : FR w B p q) (hn : B ≠ S) : FR ((w.setCell ⟨S, 0, none⟩ u).setCell ⟨S, 1, none⟩ v) B p q := by
  have n0 : ∀ i j : Nat, (⟨S, i, none⟩ : Addr) ≠ ⟨B, j, none⟩ := fun i j e => hn (by injection e with e1; exact e1.symm)
  refine ⟨?_, ?_, ?_, ?_⟩
  · rw [World.cell?_setCell_other (h := n0 1 0), World.cell?_setCell_other (h := n0 0 0)]; exact h.c0
  · rw [World.cell?_setCell_other (h := n0 1 1), World.cell?_setCell_other (h := n0 0 1)]; exact h.c1
  · rw [World.frozen?_setCell, World.frozen?_setCell]; exact h.f0
  · rw [World.frozen?_setCell, World.frozen?_setCell]; exact h.f1
theorem FR.put {w : World} {S : Nat} {p q : Int} (h : FR w S p q) (x y : Int) : FR ((w.setCell ⟨S, 0, none⟩ (.int .i64 x)).setCell ⟨S, 1, none⟩ (.int .i64 y)) S x y := by
  obtain ⟨a, b⟩ := cells2 (W := w) (.int .i64 x) (.int .i64 y) h.c0 h.c1
  refine ⟨a, b, ?_, ?_⟩
  · rw [World.frozen?_setCell, World.frozen?_setCell]; exact h.f0
  · rw [World.frozen?_setCell, World.frozen?_setCell]; exact h.f1
theorem bothc_vd {an ad bn bd : Int} (ha : Vd an ad) (hb : Vd bn bd) : bothc an ad bn bd = (cmpr (an * bd) (bn * ad), 0) := by
  unfold bothc; rw [if_pos (chk_ok.2 ha), if_pos (chk_ok.2 hb)]
set_option maxRecDepth 100000 in
set_option maxHeartbeats 8000000 in
theorem order_vd (an ad bn bd cn cd : Int) (ha : Vd an ad) (hb : Vd bn bd) (hc : Vd cn cd) (i1 : I64 an) (i2 : I64 ad) (i3 : I64 bn) (i4 : I64 bd) (i5 : I64 cn) (i6 : I64 cd) (w : World) :
    Calls Try.prog 7 #[RV an ad, RV bn bd, RV cn cd] w fun e w' => e = .returned (.bool true) ∧ Below w.heap.size w w' := by
  have I1 := hid i1; have I2 := hid i2; have I3 := hid i3; have I4 := hid i4; have I5 := hid i5; have I6 := hid i6; clear i1 i2 i3 i4 i5 i6
  have Ha := hid (chk_ok.2 ha); have Hb := hid (chk_ok.2 hb); have Hc := hid (chk_ok.2 hc)
  have pa := ha.q1; have pb := hb.q1; have pc := hc.q1
  have rN := cmpr_range (an * bd) (bn * ad)
  have rK := cmpr_range (bn * cd) (cn * bd)
  have rL := cmpr_range (an * cd) (cn * ad)
  have qE := cmp_eq ha hb
  have qM := cmpr_neg (bn * ad) (an * bd)
  have qT : cmpr (an * bd) (bn * ad) ≤ 0 → cmpr (bn * cd) (cn * bd) ≤ 0 → cmpr (an * cd) (cn * ad) ≤ 0 := fun h1 h2 =>
    cmpr_le.2 (cmp_trans (by omega) (by omega) (by omega) (cmpr_le.1 h1) (cmpr_le.1 h2))
  have qS : cmpr (an * bd) (bn * ad) < 0 → cmpr (bn * cd) (cn * bd) ≤ 0 → cmpr (an * cd) (cn * ad) < 0 := fun h1 h2 => by
    have h3 : cmpr (an * bd) (bn * ad) = -1 := by omega
    have h4 := cmpr_lt.2 (cmp_trans_lt (by omega) (by omega) (by omega) (cmpr_lt.1 h3) (cmpr_le.1 h2))
    omega
  have B1 := bothc_vd ha hb
  have B2 := bothc_vd hb ha
  have B3 := bothc_vd hb hc
  have B4 := bothc_vd ha hc
  have qA : ∀ x1 x2 y1 y2, sm an ad cn cd = (x1, x2, 0) → sm bn bd cn cd = (y1, y2, 0) → bothc x1 x2 y1 y2 = (cmpr (an * bd) (bn * ad), 0) := fun x1 x2 y1 y2 h1 h2 => by
    rw [bothc_vd (sm_some h1).1 (sm_some h2).1, cmp_sm ha hb hc h1 h2]
  have qP : ∀ x1 x2 y1 y2, 0 < cn → pr an ad cn cd = (x1, x2, 0) → pr bn bd cn cd = (y1, y2, 0) → bothc x1 x2 y1 y2 = (cmpr (an * bd) (bn * ad), 0) := fun x1 x2 y1 y2 h0 h1 h2 => by
    rw [bothc_vd (pr_some h1).1 (pr_some h2).1, cmp_pr ha hb hc h0 h1 h2]
  obtain ⟨n, hn⟩ : ∃ n, n = cmpr (an * bd) (bn * ad) := ⟨_, rfl⟩
  obtain ⟨k, hk⟩ : ∃ n, n = cmpr (bn * cd) (cn * bd) := ⟨_, rfl⟩
  obtain ⟨l, hl⟩ : ∃ n, n = cmpr (an * cd) (cn * ad) := ⟨_, rfl⟩
  rw [qM] at B2
  rw [← hn] at rN qE qT qS B1 B2 qA qP
  rw [← hk] at rK qT qS B3
  rw [← hl] at rL qT qS B4
  obtain ⟨⟨x1, x2, x3⟩, hX⟩ : ∃ x, x = sm an ad cn cd := ⟨_, rfl⟩
  obtain ⟨⟨y1, y2, y3⟩, hY⟩ : ∃ x, x = sm bn bd cn cd := ⟨_, rfl⟩
  obtain ⟨⟨s1, s2, s3⟩, hS⟩ : ∃ x, x = pr an ad cn cd := ⟨_, rfl⟩
  obtain ⟨⟨t1, t2, t3⟩, hT⟩ : ∃ x, x = pr bn bd cn cd := ⟨_, rfl⟩
  have X1 := hid ((both_vd ha hc (sm an ad cn cd)).trans hX.symm)
  have Y1 := hid ((both_vd hb hc (sm bn bd cn cd)).trans hY.symm)
  have S1 := hid ((both_vd ha hc (pr an ad cn cd)).trans hS.symm)
  have T1' := hid ((both_vd hb hc (pr bn bd cn cd)).trans hT.symm)
  have WA := hid (fun (e1 : x3 = 0) (e2 : y3 = 0) => qA x1 x2 y1 y2 (by rw [← hX, e1]) (by rw [← hY, e2]))
  have WP := hid (fun (e1 : s3 = 0) (e2 : t3 = 0) (e3 : 0 < cn) => qP s1 s2 t1 t2 e3 (by rw [← hS, e1]) (by rw [← hT, e2]))
  have jx := nw_i64 (an * cd + cn * ad) (ad * cd)
  have jy := nw_i64 (bn * cd + cn * bd) (bd * cd)
  have js := nw_i64 (an * cn) (ad * cd)
  have jt := nw_i64 (bn * cn) (bd * cd)
  rw [show nw (an * cd + cn * ad) (ad * cd) = (x1, x2, x3) from hX.symm] at jx
  rw [show nw (bn * cd + cn * bd) (bd * cd) = (y1, y2, y3) from hY.symm] at jy
  rw [show nw (an * cn) (ad * cd) = (s1, s2, s3) from hS.symm] at js
  rw [show nw (bn * cn) (bd * cd) = (t1, t2, t3) from hT.symm] at jt
  have JX := hid jx; have JY := hid jy; have JS := hid js; have JT := hid jt
  have HB1 := hid B1; have HB2 := hid B2; have HB3 := hid B3; have HB4 := hid B4
  have RN := hid rN; have RK := hid rK; have RL := hid rL; have QE := hid qE; have QT := hid qT; have QS := hid qS
  clear hX hY hS hT hn hk hl qA qP jx jy js jt B1 B2 B3 B4 rN rK rL qE qM qT qS pa pb pc ha hb hc
  have T0 := hid (Below.refl w.heap.size w)
  have A0 : Below (w).heap.size (w) ((w).alloc (.cells #[.int .i64 (an), .int .i64 (ad)] 23)) := (Below.refl _ _).alloc (Nat.le_refl _) _
  have FA := hid (fr_new (w) (an) (ad))
  have T0 := hid (below_t T0.out A0)
  clear A0
  have A0 : Below ((w).alloc (.cells #[.int .i64 (an), .int .i64 (ad)] 23)).heap.size ((w).alloc (.cells #[.int .i64 (an), .int .i64 (ad)] 23)) (((w).alloc (.cells #[.int .i64 (an), .int .i64 (ad)] 23)).alloc (.cells #[.int .i64 (bn), .int .i64 (bd)] 23)) := (Below.refl _ _).alloc (Nat.le_refl _) _
  have FA := hid (FA.out.ups A0)
  have FB := hid (fr_new ((w).alloc (.cells #[.int .i64 (an), .int .i64 (ad)] 23)) (bn) (bd))
  simp only [World.size_alloc] at FB
  have T0 := hid (below_t T0.out A0)
  clear A0
  have A0 : Below (((w).alloc (.cells #[.int .i64 (an), .int .i64 (ad)] 23)).alloc (.cells #[.int .i64 (bn), .int .i64 (bd)] 23)).heap.size (((w).alloc (.cells #[.int .i64 (an), .int .i64 (ad)] 23)).alloc (.cells #[.int .i64 (bn), .int .i64 (bd)] 23)) ((((w).alloc (.cells #[.int .i64 (an), .int .i64 (ad)] 23)).alloc (.cells #[.int .i64 (bn), .int .i64 (bd)] 23)).alloc (.cells #[.int .i64 (cn), .int .i64 (cd)] 23)) := (Below.refl _ _).alloc (Nat.le_refl _) _
  have FA := hid (FA.out.ups A0)
  have FB := hid (FB.out.ups A0)
  have FC := hid (fr_new (((w).alloc (.cells #[.int .i64 (an), .int .i64 (ad)] 23)).alloc (.cells #[.int .i64 (bn), .int .i64 (bd)] 23)) (cn) (cd))
  simp only [World.size_alloc] at FC
  have T0 := hid (below_t T0.out A0)
  clear A0
  go_enter Try.func7, Try.ntmps7
  go_wp2_with fail
  refine (sane_any _).mono ?_
  rintro e w1 ⟨rfl, hb1⟩
  have FA := hid (FA.out.ups hb1)
  have FB := hid (FB.out.ups hb1)
  have FC := hid (FC.out.ups hb1)
  have T1 := hid (below_t T0.out hb1)
  clear hb1
  obtain ⟨FAc0, FAc1, _, _⟩ := FA.out
  go_wp2_with fail
  refine (Check_any an ad I1.out I2.out _).mono ?_
  rintro e w2 ⟨rfl, hb2⟩
  rw [Ha.out]
  clear FAc0 FAc1
  have FA := hid (FA.out.ups hb2)
  have FB := hid (FB.out.ups hb2)
  have FC := hid (FC.out.ups hb2)
  have T2 := hid (below_t T1.out hb2)
  clear hb2
  obtain ⟨FBc0, FBc1, _, _⟩ := FB.out
  go_wp2_with fail
  refine (Check_any bn bd I3.out I4.out _).mono ?_
  rintro e w3 ⟨rfl, hb3⟩
  rw [Hb.out]
  clear FBc0 FBc1
  have FA := hid (FA.out.ups hb3)
  have FB := hid (FB.out.ups hb3)
  have FC := hid (FC.out.ups hb3)
  have T3 := hid (below_t T2.out hb3)
  clear hb3
  obtain ⟨FCc0, FCc1, _, _⟩ := FC.out
  go_wp2_with fail
  refine (Check_any cn cd I5.out I6.out _).mono ?_
  rintro e w4 ⟨rfl, hb4⟩
  rw [Hc.out]
  clear FCc0 FCc1
  have FA := hid (FA.out.ups hb4)
  have FB := hid (FB.out.ups hb4)
  have FC := hid (FC.out.ups hb4)
  have T4 := hid (below_t T3.out hb4)
  clear hb4
  obtain ⟨FAc0, FAc1, _, _⟩ := FA.out
  obtain ⟨FBc0, FBc1, _, _⟩ := FB.out
  go_wp2_with fail
  refine (Compare_any an ad bn bd I1.out I2.out I3.out I4.out _).mono ?_
  rintro e w5 ⟨rfl, hb5⟩
  rw [HB1.out]
  clear FAc0 FAc1 FBc0 FBc1
  have FA := hid (FA.out.ups hb5)
  have FB := hid (FB.out.ups hb5)
  have FC := hid (FC.out.ups hb5)
  have T5 := hid (below_t T4.out hb5)
  clear hb5
  obtain ⟨FAc0, FAc1, _, _⟩ := FA.out
  obtain ⟨FBc0, FBc1, _, _⟩ := FB.out
  go_wp2_with fail
  refine (Compare_any bn bd an ad I3.out I4.out I1.out I2.out _).mono ?_
  rintro e w6 ⟨rfl, hb6⟩
  rw [HB2.out]
  clear FAc0 FAc1 FBc0 FBc1
  have FA := hid (FA.out.ups hb6)
  have FB := hid (FB.out.ups hb6)
  have FC := hid (FC.out.ups hb6)
  have T6 := hid (below_t T5.out hb6)
  clear hb6
  obtain ⟨FBc0, FBc1, _, _⟩ := FB.out
  obtain ⟨FCc0, FCc1, _, _⟩ := FC.out
  go_wp2_with fail
  refine (Compare_any bn bd cn cd I3.out I4.out I5.out I6.out _).mono ?_
  rintro e w7 ⟨rfl, hb7⟩
  rw [HB3.out]
  clear FBc0 FBc1 FCc0 FCc1
  have FA := hid (FA.out.ups hb7)
  have FB := hid (FB.out.ups hb7)
  have FC := hid (FC.out.ups hb7)
  have T7 := hid (below_t T6.out hb7)
  clear hb7
  obtain ⟨FAc0, FAc1, _, _⟩ := FA.out
  obtain ⟨FCc0, FCc1, _, _⟩ := FC.out
  go_wp2_with fail
  refine (Compare_any an ad cn cd I1.out I2.out I5.out I6.out _).mono ?_
  rintro e w8 ⟨rfl, hb8⟩
  rw [HB4.out]
  clear FAc0 FAc1 FCc0 FCc1
  have FA := hid (FA.out.ups hb8)
  have FB := hid (FB.out.ups hb8)
  have FC := hid (FC.out.ups hb8)
  have T8 := hid (below_t T7.out hb8)
  clear hb8
  clear HB1 HB2 HB3 HB4 Ha Hb Hc
  go_upto_region 9 with fail
  go_cut [121] (fun c wx => c = .bool false ∧ w8 = wx)
  case first =>
    obtain ⟨FAc0, FAc1, _, _⟩ := FA.out
    obtain ⟨FBc0, FBc1, _, _⟩ := FB.out
    rcases RN.out with rfl | rfl | rfl
    · have hne : ¬ (an = bn ∧ ad = bd) := fun h => by have := QE.out.2 h; omega
      by_cases e1 : an = bn
      · have e2 : (ad == bd) = false := by simp; exact fun h => hne ⟨e1, h⟩
        clear hne
        subst e1
        by_cases hk : k ≤ 0
        · have hl := QT.out (by omega) hk
          have hl2 := QS.out (by omega) hk
          have d1 : decide (k ≤ 0) = true := decide_eq_true hk
          have d2 : decide (0 < l) = false := decide_eq_false (by omega)
          have d3 : decide (0 ≤ l) = false := decide_eq_false (by omega)
          clear hk hl hl2
          go_wp2_with fail
          go_meet
          exact ⟨rfl, rfl⟩
        · have d1 : decide (k ≤ 0) = false := decide_eq_false hk
          clear hk
          go_wp2_with fail
          go_meet
          exact ⟨rfl, rfl⟩
      · have e2 : (an == bn) = false := by simp; exact e1
        clear hne e1
        by_cases hk : k ≤ 0
        · have hl := QT.out (by omega) hk
          have hl2 := QS.out (by omega) hk
          have d1 : decide (k ≤ 0) = true := decide_eq_true hk
          have d2 : decide (0 < l) = false := decide_eq_false (by omega)
          have d3 : decide (0 ≤ l) = false := decide_eq_false (by omega)
          clear hk hl hl2
          go_wp2_with fail
          go_meet
          exact ⟨rfl, rfl⟩
        · have d1 : decide (k ≤ 0) = false := decide_eq_false hk
          clear hk
          go_wp2_with fail
          go_meet
          exact ⟨rfl, rfl⟩
    · obtain ⟨e1, e2⟩ := QE.out.1 rfl
      subst e1 e2
      by_cases hk : k ≤ 0
      · have hl := QT.out (by omega) hk
        have d1 : decide (k ≤ 0) = true := decide_eq_true hk
        have d2 : decide (0 < l) = false := decide_eq_false (by omega)
        clear hk hl
        go_wp2_with fail
        go_meet
        exact ⟨rfl, rfl⟩
      · have d1 : decide (k ≤ 0) = false := decide_eq_false hk
        clear hk
        go_wp2_with fail
        go_meet
        exact ⟨rfl, rfl⟩
    · have hne : ¬ (an = bn ∧ ad = bd) := fun h => by have := QE.out.2 h; omega
      by_cases e1 : an = bn
      · have e2 : (ad == bd) = false := by simp; exact fun h => hne ⟨e1, h⟩
        clear hne
        subst e1
        go_wp2_with fail
        go_meet
        exact ⟨rfl, rfl⟩
      · have e2 : (an == bn) = false := by simp; exact e1
        clear hne e1
        go_wp2_with fail
        go_meet
        exact ⟨rfl, rfl⟩
  case rest => as_aux_lemma =>
    obtain ⟨rfl, rfl⟩ := hcut
    clear RN RK RL QE QT QS
    obtain ⟨FAc0, FAc1, _, _⟩ := FA.out
    obtain ⟨FCc0, FCc1, _, _⟩ := FC.out
    go_wp2_with fail
    refine (Add_any an ad cn cd I1.out I2.out I5.out I6.out _).mono ?_
    rintro e w9 ⟨rfl, hb9⟩
    rw [X1.out]
    clear FAc0 FAc1 FCc0 FCc1
    have FA := hid (FA.out.ups hb9)
    have FB := hid (FB.out.ups hb9)
    have FC := hid (FC.out.ups hb9)
    have T9 := hid (below_t T8.out hb9)
    clear hb9
    have nFAF1 := hid (Nat.ne_of_lt FA.out.lt)
    have nFBF1 := hid (Nat.ne_of_lt FB.out.lt)
    have nFCF1 := hid (Nat.ne_of_lt FC.out.lt)
    have HF1 := hid (Nat.le_of_lt FA.out.lt)
    have A0 : Below w9.heap.size w9 (w9.alloc (.cells #[.int .i64 (x1), .int .i64 (x2)] 23)) := (Below.refl _ _).alloc (Nat.le_refl _) _
    have FA := hid (FA.out.ups A0)
    have FB := hid (FB.out.ups A0)
    have FC := hid (FC.out.ups A0)
    have F1 := hid (fr_new w9 (x1) (x2))
    have T9 := hid (below_t T9.out A0)
    clear A0
    obtain ⟨FBc0, FBc1, _, _⟩ := FB.out
    obtain ⟨FCc0, FCc1, _, _⟩ := FC.out
    go_wp2_with fail
    refine (Add_any bn bd cn cd I3.out I4.out I5.out I6.out _).mono ?_
    rintro e w10 ⟨rfl, hb10⟩
    rw [Y1.out]
    clear FBc0 FBc1 FCc0 FCc1
    have FA := hid (FA.out.ups hb10)
    have FB := hid (FB.out.ups hb10)
    have FC := hid (FC.out.ups hb10)
    have F1 := hid (F1.out.ups hb10)
    have T10 := hid (below_t T9.out hb10)
    clear hb10
    have nFAF2 := hid (Nat.ne_of_lt FA.out.lt)
    have nFBF2 := hid (Nat.ne_of_lt FB.out.lt)
    have nFCF2 := hid (Nat.ne_of_lt FC.out.lt)
    have nF1F2 := hid (Nat.ne_of_lt F1.out.lt)
    have HF2 := hid (Nat.le_of_lt FA.out.lt)
    have A0 : Below w10.heap.size w10 (w10.alloc (.cells #[.int .i64 (y1), .int .i64 (y2)] 23)) := (Below.refl _ _).alloc (Nat.le_refl _) _
    have FA := hid (FA.out.ups A0)
    have FB := hid (FB.out.ups A0)
    have FC := hid (FC.out.ups A0)
    have F1 := hid (F1.out.ups A0)
    have F2 := hid (fr_new w10 (y1) (y2))
    have T10 := hid (below_t T10.out A0)
    clear A0
    clear X1 Y1
    obtain ⟨V1, hV1⟩ : ∃ W, W = w10.alloc (.cells #[.int .i64 y1, .int .i64 y2] 23) := ⟨_, rfl⟩
    rw [← hV1] at FA FB FC F1 F2 T10
    go_upto_region 13 with fail
    rw [← hV1]
    clear hV1
    obtain ⟨bA, hbA⟩ : ∃ b, b = decide (x3 = 0 ∧ y3 = 0) := ⟨_, rfl⟩
    have HbA := hid hbA
    clear hbA
    go_cut [139] (fun c wx => c = .bool bA ∧ V1 = wx)
    case first =>
      by_cases hx : x3 = 0
      · subst hx
        by_cases hy : y3 = 0
        · subst hy
          go_wp2_with fail
          go_meet
          exact ⟨by rw [HbA.out]; simp, rfl⟩
        · have hyb : (y3 == 0) = false := by simp [hy]
          go_wp2_with fail
          go_meet
          exact ⟨by rw [HbA.out]; simp [hy], rfl⟩
      · have hxb : (x3 == 0) = false := by simp [hx]
        go_wp2_with fail
        go_meet
        exact ⟨by rw [HbA.out]; simp [hx], rfl⟩
    case rest => as_aux_lemma =>
      obtain ⟨rfl, rfl⟩ := hcut
      go_upto_if 139 with fail
      go_cut [19, 20] (fun o p wx => Hid (Below V1.heap.size V1 wx))
      case first =>
        cases bA with
        | true =>
          have hxy := of_decide_eq_true HbA.out.symm
          have hw := WA.out hxy.1 hxy.2
          have HW := hid hw
          obtain ⟨F1c0, F1c1, _, _⟩ := F1.out
          obtain ⟨F2c0, F2c1, _, _⟩ := F2.out
          clear hw hxy
          go_wp2_with fail
          refine (Compare_any x1 x2 y1 y2 JX.out.1 JX.out.2 JY.out.1 JY.out.2 _).mono ?_
          rintro e w' ⟨rfl, hb'⟩
          rw [HW.out]
          have HB' := hid hb'
          have hnn : (n != n) = false := by simp
          clear hb' F1c0 F1c1 F2c0 F2c1
          go_wp2_with fail
          go_meet
          exact HB'
        | false =>
          go_wp2_with fail
          go_meet
          exact hid (Below.refl _ _)
      case rest => as_aux_lemma =>
        have FA := hid (FA.out.ups hcut.out)
        have FB := hid (FB.out.ups hcut.out)
        have FC := hid (FC.out.ups hcut.out)
        have F1 := hid (F1.out.ups hcut.out)
        have F2 := hid (F2.out.ups hcut.out)
        have T10 := hid (below_t T10.out hcut.out)
        clear hcut WA
        obtain ⟨FAc0, FAc1, _, _⟩ := FA.out
        obtain ⟨FCc0, FCc1, _, _⟩ := FC.out
        go_wp2_with fail
        refine (Mul_any an ad cn cd I1.out I2.out I5.out I6.out _).mono ?_
        rintro e w11 ⟨rfl, hb11⟩
        rw [S1.out]
        clear FAc0 FAc1 FCc0 FCc1
        have FA := hid (FA.out.ups hb11)
        have FB := hid (FB.out.ups hb11)
        have FC := hid (FC.out.ups hb11)
        have F1 := hid (F1.out.ups hb11)
        have F2 := hid (F2.out.ups hb11)
        have T11 := hid (below_t T10.out hb11)
        clear hb11
        have FA := hid (FR.set2 (u := .int .i64 s1) (v := .int .i64 s2) FA.out nFAF1.out)
        have FB := hid (FR.set2 (u := .int .i64 s1) (v := .int .i64 s2) FB.out nFBF1.out)
        have FC := hid (FR.set2 (u := .int .i64 s1) (v := .int .i64 s2) FC.out nFCF1.out)
        have F2 := hid (FR.set2 (u := .int .i64 s1) (v := .int .i64 s2) F2.out (Ne.symm nF1F2.out))
        obtain ⟨F1c0, F1c1, F1z0, F1z1⟩ := F1.out
        have F1N := hid (FR.put F1.out s1 s2)
        have T11 := hid ((T11.out.setCell (p := ⟨w9.heap.size, 0, none⟩) HF1.out (.int .i64 s1)).setCell (p := ⟨w9.heap.size, 1, none⟩) HF1.out (.int .i64 s2))
        obtain ⟨FBc0, FBc1, _, _⟩ := FB.out
        obtain ⟨FCc0, FCc1, _, _⟩ := FC.out
        go_wp2_with fail
        clear FBc0 FBc1 FCc0 FCc1
        clear F1c0 F1c1 F1z0 F1z1 F1
        have F1 := F1N
        clear F1N
        refine (Mul_any bn bd cn cd I3.out I4.out I5.out I6.out _).mono ?_
        rintro e w12 ⟨rfl, hb12⟩
        rw [T1'.out]
        have FA := hid (FA.out.ups hb12)
        have FB := hid (FB.out.ups hb12)
        have FC := hid (FC.out.ups hb12)
        have F1 := hid (F1.out.ups hb12)
        have F2 := hid (F2.out.ups hb12)
        have T12 := hid (below_t T11.out hb12)
        clear hb12
        have FA := hid (FR.set2 (u := .int .i64 t1) (v := .int .i64 t2) FA.out nFAF2.out)
        have FB := hid (FR.set2 (u := .int .i64 t1) (v := .int .i64 t2) FB.out nFBF2.out)
        have FC := hid (FR.set2 (u := .int .i64 t1) (v := .int .i64 t2) FC.out nFCF2.out)
        have F1 := hid (FR.set2 (u := .int .i64 t1) (v := .int .i64 t2) F1.out nF1F2.out)
        obtain ⟨F2c0, F2c1, F2z0, F2z1⟩ := F2.out
        have F2N := hid (FR.put F2.out t1 t2)
        have T12 := hid ((T12.out.setCell (p := ⟨w10.heap.size, 0, none⟩) HF2.out (.int .i64 t1)).setCell (p := ⟨w10.heap.size, 1, none⟩) HF2.out (.int .i64 t2))
        obtain ⟨V2, hV2⟩ : ∃ W, W = (w12.setCell ⟨w10.heap.size, 0, none⟩ (.int .i64 t1)).setCell ⟨w10.heap.size, 1, none⟩ (.int .i64 t2) := ⟨_, rfl⟩
        rw [← hV2] at F1 F2N FC T12
        go_upto_region 19 with fail
        rw [← hV2]
        clear hV2 F2c0 F2c1 F2z0 F2z1 F2
        have F2 := F2N
        clear F2N S1 T1' FA FB
        obtain ⟨FCc0, FCc1, _, _⟩ := FC.out
        obtain ⟨bP, hbP⟩ : ∃ b, b = decide (s3 = 0 ∧ t3 = 0 ∧ 0 < cn) := ⟨_, rfl⟩
        have HbP := hid hbP
        clear hbP
        go_cut [175] (fun c wx => c = .bool bP ∧ V2 = wx)
        case first =>
          by_cases hx : s3 = 0
          · subst hx
            by_cases hy : t3 = 0
            · subst hy
              by_cases hz : 0 < cn
              · have hzb : decide (0 < cn) = true := decide_eq_true hz
                go_wp2_with fail
                go_meet
                exact ⟨by rw [HbP.out]; simp [hz], rfl⟩
              · have hzb : decide (0 < cn) = false := decide_eq_false hz
                go_wp2_with fail
                go_meet
                exact ⟨by rw [HbP.out]; simp [hz], rfl⟩
            · have hyb : (t3 == 0) = false := by simp [hy]
              go_wp2_with fail
              go_meet
              exact ⟨by rw [HbP.out]; simp [hy], rfl⟩
          · have hxb : (s3 == 0) = false := by simp [hx]
            go_wp2_with fail
            go_meet
            exact ⟨by rw [HbP.out]; simp [hx], rfl⟩
        case rest => as_aux_lemma =>
          obtain ⟨rfl, rfl⟩ := hcut
          clear FCc0 FCc1
          cases bP with
          | true =>
            have hxy := of_decide_eq_true HbP.out.symm
            have hw := WP.out hxy.1 hxy.2.1 hxy.2.2
            have HW := hid hw
            obtain ⟨F1c0, F1c1, _, _⟩ := F1.out
            obtain ⟨F2c0, F2c1, _, _⟩ := F2.out
            have hnn : (n != n) = false := by simp
            clear hw hxy
            go_wp2_with fail
            refine (Compare_any s1 s2 t1 t2 JS.out.1 JS.out.2 JT.out.1 JT.out.2 _).mono ?_
            rintro e w' ⟨rfl, hb'⟩
            rw [HW.out]
            have T' := hid (below_t T12.out hb')
            clear hb' F1c0 F1c1 F2c0 F2c1
            go_wp2
            go_ret
            exact ⟨rfl, T'.out⟩
          | false =>
            go_wp2
            go_ret
            exact ⟨rfl, T12.out⟩
theorem order_any (an ad bn bd cn cd : Int) (i1 : I64 an) (i2 : I64 ad) (i3 : I64 bn) (i4 : I64 bd) (i5 : I64 cn) (i6 : I64 cd) (w : World) :
    Calls Try.prog 7 #[RV an ad, RV bn bd, RV cn cd] w fun e w' => e = .returned (.bool true) ∧ Below w.heap.size w w' := by
  by_cases ha : chk an ad = 0
  · by_cases hb : chk bn bd = 0
    · by_cases hc : chk cn cd = 0
      · exact order_vd an ad bn bd cn cd (chk_ok.1 ha) (chk_ok.1 hb) (chk_ok.1 hc) i1 i2 i3 i4 i5 i6 w
      · exact order_bad_c an ad bn bd cn cd i1 i2 i3 i4 i5 i6 ha hb hc w
    · exact order_bad_b an ad bn bd cn cd i1 i2 i3 i4 i5 i6 ha hb w
  · exact order_bad_a an ad bn bd cn cd i1 i2 i3 i4 i5 i6 ha w
end Go.Proofs.Ythmakdlmadgpcaa

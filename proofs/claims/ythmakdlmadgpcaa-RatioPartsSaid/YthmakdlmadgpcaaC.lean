/- Contracts: the closures of Add, Mul and Compare; combine; Add, Mul, Compare. -/
import Derived.Test.YthmakdlmadgpcaaB
namespace Go.Proofs.Ythmakdlmadgpcaa
open Go.RowKit Go
set_option linter.unusedVariables false
set_option linter.unusedSimpArgs false
/-- two cells of a fraction in memory -/
structure FR (w : World) (B : Nat) (p q : Int) : Prop where
  c0 : w.cell? ⟨B, 0, none⟩ = some (.int .i64 p)
  c1 : w.cell? ⟨B, 1, none⟩ = some (.int .i64 q)
  f0 : w.frozen? ⟨B, 0, none⟩ = false
  f1 : w.frozen? ⟨B, 1, none⟩ = false
theorem fr_new (w : World) (p q : Int) : FR (w.alloc (.cells #[.int .i64 p, .int .i64 q] 23)) w.heap.size p q := by
  obtain ⟨a, b, c, d⟩ := new2 w (.int .i64 p) (.int .i64 q) 23
  exact ⟨a, b, c, d⟩
theorem FR.lt {w : World} {B : Nat} {p q : Int} (h : FR w B p q) : B < w.heap.size := by
  have h0 := h.c0
  rcases Nat.lt_or_ge B w.heap.size with hh | hh
  · exact hh
  · simp [World.cell?, Array.getElem?_eq_none hh] at h0
theorem FR.ups {w w' : World} {B : Nat} {p q : Int} (h : FR w B p q) (hb : Below w.heap.size w w') : FR w' B p q :=
  ⟨(hb.cell (p := ⟨B, 0, none⟩) h.lt).trans h.c0, (hb.cell (p := ⟨B, 1, none⟩) h.lt).trans h.c1, (hb.frozen (p := ⟨B, 0, none⟩) h.lt).trans h.f0, (hb.frozen (p := ⟨B, 1, none⟩) h.lt).trans h.f1⟩
theorem FR.ups' {w w' : World} {B n : Nat} {p q : Int} (h : FR w B p q) (hb : Below n w w') (hn : B < n) : FR w' B p q :=
  ⟨(hb.cell (p := ⟨B, 0, none⟩) hn).trans h.c0, (hb.cell (p := ⟨B, 1, none⟩) hn).trans h.c1, (hb.frozen (p := ⟨B, 0, none⟩) hn).trans h.f0, (hb.frozen (p := ⟨B, 1, none⟩) hn).trans h.f1⟩
theorem fin3 {f : Func} {u v : Nat} {p q e : Int} {w w1 : World} {x : Int × Int × Int} {x0 y0 : Value} {ts : Array Value} {ds : List Deferred} (hf : f.results = #[ResultVar.cell u 23, ResultVar.tmp v]) (hv : x = (p, q, e)) (hb : Below w.heap.size w w1)
    {B : Nat} (hB : w.heap.size ≤ B) (h0 : w1.cell? ⟨B, 0, none⟩ = some x0) (h1 : w1.cell? ⟨B, 1, none⟩ = some y0)
    (h4 : ts[u]? = some (.pointer (some ⟨B, 0, none⟩)) := by rfl) (h5 : ts[v]? = some (.int .i64 e) := by rfl) (hd : ds = [] := by rfl) :
    bodyPost Try.prog f (fun e w' => e = Ending.returned (RR x) ∧ Below w.heap.size w w') Exit.ret { tmps := ts, defers := ds } ((w1.setCell ⟨B, 0, none⟩ (.int .i64 p)).setCell ⟨B, 1, none⟩ (.int .i64 q)) := by
  subst hd
  rw [hv]
  obtain ⟨c0, c1⟩ := cells2 (W := w1) (.int .i64 p) (.int .i64 q) h0 h1
  refine bodyPost_ret (v := RR (p, q, e)) ?_ rfl ⟨rfl, (hb.setCell (p := ⟨B, 0, none⟩) hB _).setCell (p := ⟨B, 1, none⟩) hB _⟩
  simp [results, hf, go_sem, h4, h5, c0, c1]
set_option maxRecDepth 100000 in
theorem AddF_any (an ad bn bd : Int) (A B : Nat) (ha : Vd an ad) (hb : Vd bn bd) (w : World) (hA : FR w A an ad) (hB : FR w B bn bd) :
    Calls Try.prog 30 #[.pointer (some ⟨A, 0, none⟩), .pointer (some ⟨B, 0, none⟩)] w fun e w' => e = .returned (RR (sm an ad bn bd)) ∧ Below w.heap.size w w' := by
  obtain ⟨x1, hx1⟩ : ∃ x, an * bd = x := ⟨_, rfl⟩
  obtain ⟨x2, hx2⟩ : ∃ x, bn * ad = x := ⟨_, rfl⟩
  obtain ⟨x3, hx3⟩ : ∃ x, ad * bd = x := ⟨_, rfl⟩
  have ha1 := ha.q1; have ha2 := ha.q2; have ha3 := ha.p1; have ha4 := ha.p2
  have hb1 := hb.q1; have hb2 := hb.q2; have hb3 := hb.p1; have hb4 := hb.p2
  have b1 := vd_mul ha3 ha4 (by omega) hb2
  have b2 := vd_mul hb3 hb4 (by omega) ha2
  have b3 := vd_mul (by omega) ha2 (by omega) hb2
  have hsm : sm an ad bn bd = nw (x1 + x2) x3 := by unfold sm; rw [hx1, hx2, hx3]
  rw [hx1] at b1; rw [hx2] at b2; rw [hx3] at b3
  obtain ⟨l1, u1⟩ := b1; obtain ⟨l2, u2⟩ := b2; obtain ⟨l3, u3⟩ := b3
  have i1 : I64 (x1 + x2) := ⟨by omega, by omega⟩
  have i2 : I64 x3 := ⟨by omega, by omega⟩
  have HSM := hid hsm; have I1 := hid i1; have I2 := hid i2
  clear hsm i1 i2 ha1 ha2 ha3 ha4 hb1 hb2 hb3 hb4 ha hb
  have al : Below w.heap.size w (w.alloc (.cells #[.int .i64 0, .int .i64 0] 23)) := (Below.refl _ w).alloc (Nat.le_refl _) _
  obtain ⟨a0, a1, _, _⟩ := hA.ups al
  obtain ⟨b0, b1, _, _⟩ := hB.ups al
  have HR := hid (fr_new w 0 0)
  have AL := hid al; clear al hA hB
  go_enter Try.func30, Try.ntmps30
  go_wp2_with fail
  refine (New_any _ _ I1.out I2.out _).mono ?_
  rintro e w1 ⟨rfl, hb1⟩
  rw [← HSM.out]
  have HB1 := hid (below_t AL.out hb1)
  obtain ⟨c0, c1, z0, z1⟩ := HR.out.ups hb1
  have HC0 := hid c0; have HC1 := hid c1
  obtain ⟨⟨p, q, e⟩, hx⟩ : ∃ x, x = sm an ad bn bd := ⟨_, rfl⟩
  rw [← hx]
  have HX := hid hx; clear hx hb1 a0 a1 b0 b1
  go_wp2
  rw [← HX.out]
  exact fin3 rfl rfl HB1.out (Nat.le_refl _) HC0.out HC1.out
set_option maxRecDepth 100000 in
theorem MulF_any (an ad bn bd : Int) (A B : Nat) (ha : Vd an ad) (hb : Vd bn bd) (w : World) (hA : FR w A an ad) (hB : FR w B bn bd) :
    Calls Try.prog 32 #[.pointer (some ⟨A, 0, none⟩), .pointer (some ⟨B, 0, none⟩)] w fun e w' => e = .returned (RR (pr an ad bn bd)) ∧ Below w.heap.size w w' := by
  obtain ⟨x1, hx1⟩ : ∃ x, an * bn = x := ⟨_, rfl⟩
  obtain ⟨x3, hx3⟩ : ∃ x, ad * bd = x := ⟨_, rfl⟩
  have ha1 := ha.q1; have ha2 := ha.q2; have ha3 := ha.p1; have ha4 := ha.p2
  have hb1 := hb.q1; have hb2 := hb.q2; have hb3 := hb.p1; have hb4 := hb.p2
  have b1 := vd_mul ha3 ha4 hb3 hb4
  have b3 := vd_mul (by omega) ha2 (by omega) hb2
  have hsm : pr an ad bn bd = nw x1 x3 := by unfold pr; rw [hx1, hx3]
  rw [hx1] at b1; rw [hx3] at b3
  obtain ⟨l1, u1⟩ := b1; obtain ⟨l3, u3⟩ := b3
  have i1 : I64 x1 := ⟨by omega, by omega⟩
  have i2 : I64 x3 := ⟨by omega, by omega⟩
  have HSM := hid hsm; have I1 := hid i1; have I2 := hid i2
  clear hsm i1 i2 ha1 ha2 ha3 ha4 hb1 hb2 hb3 hb4 ha hb
  have al : Below w.heap.size w (w.alloc (.cells #[.int .i64 0, .int .i64 0] 23)) := (Below.refl _ w).alloc (Nat.le_refl _) _
  obtain ⟨a0, a1, _, _⟩ := hA.ups al
  obtain ⟨b0, b1, _, _⟩ := hB.ups al
  have HR := hid (fr_new w 0 0)
  have AL := hid al; clear al hA hB
  go_enter Try.func32, Try.ntmps32
  go_wp2_with fail
  refine (New_any _ _ I1.out I2.out _).mono ?_
  rintro e w1 ⟨rfl, hb1⟩
  rw [← HSM.out]
  have HB1 := hid (below_t AL.out hb1)
  obtain ⟨c0, c1, z0, z1⟩ := HR.out.ups hb1
  have HC0 := hid c0; have HC1 := hid c1
  obtain ⟨⟨p, q, e⟩, hx⟩ : ∃ x, x = pr an ad bn bd := ⟨_, rfl⟩
  rw [← hx]
  have HX := hid hx; clear hx hb1 a0 a1 b0 b1
  go_wp2
  rw [← HX.out]
  exact fin3 rfl rfl HB1.out (Nat.le_refl _) HC0.out HC1.out
theorem nan_any (x : Int) (w : World) : Calls Try.prog 39 #[.int .i64 x] w fun e w' => e = .returned (.bool false) ∧ w = w' := by
  go_enter Try.func39, Try.ntmps39
  go_wp2
  go_ret
  exact ⟨by simp, rfl⟩
theorem cmp_any (x y : Int) (w : World) : Calls Try.prog 35 #[.int .i64 x, .int .i64 y] w fun e w' => e = .returned (.int .i64 (cmpr x y)) ∧ w = w' := by
  rcases (by omega : x < y ∨ x = y ∨ y < x) with h | h | h
  · have e := cmpr_lt.2 h
    have E := hid e; clear e
    go_enter Try.func35, Try.ntmps35
    go_wp2_with fail
    refine (nan_any x _).mono ?_
    rintro e w1 ⟨rfl, hw⟩
    obtain rfl := hw
    go_wp2_with fail
    refine (nan_any y _).mono ?_
    rintro e w1 ⟨rfl, hw⟩
    obtain rfl := hw
    go_wp2
    go_ret
    exact ⟨ret_int E.out.symm, rfl⟩
  · subst h
    have e := cmpr_eq.2 (rfl : x = x)
    have E := hid e; clear e
    go_enter Try.func35, Try.ntmps35
    go_wp2_with fail
    refine (nan_any x _).mono ?_
    rintro e w1 ⟨rfl, hw⟩
    obtain rfl := hw
    go_wp2_with fail
    refine (nan_any x _).mono ?_
    rintro e w1 ⟨rfl, hw⟩
    obtain rfl := hw
    go_wp2
    go_ret
    exact ⟨ret_int E.out.symm, rfl⟩
  · have e := cmpr_gt.2 h
    have E := hid e; clear e
    have h' : ¬ x < y := by omega
    go_enter Try.func35, Try.ntmps35
    go_wp2_with fail
    refine (nan_any x _).mono ?_
    rintro e w1 ⟨rfl, hw⟩
    obtain rfl := hw
    go_wp2_with fail
    refine (nan_any y _).mono ?_
    rintro e w1 ⟨rfl, hw⟩
    obtain rfl := hw
    go_wp2
    go_ret
    exact ⟨ret_int E.out.symm, rfl⟩
set_option maxRecDepth 100000 in
theorem CompareF_any (an ad bn bd : Int) (A B : Nat) (ha : Vd an ad) (hb : Vd bn bd) (w : World) (hA : FR w A an ad) (hB : FR w B bn bd) :
    Calls Try.prog 34 #[.pointer (some ⟨A, 0, none⟩), .pointer (some ⟨B, 0, none⟩)] w fun e w' => e = .returned (.tuple #[.int .i64 (cmpr (an * bd) (bn * ad)), .int .i64 0]) ∧ Below w.heap.size w w' := by
  obtain ⟨x1, hx1⟩ : ∃ x, an * bd = x := ⟨_, rfl⟩
  obtain ⟨x2, hx2⟩ : ∃ x, bn * ad = x := ⟨_, rfl⟩
  have ha1 := ha.q1; have ha2 := ha.q2; have ha3 := ha.p1; have ha4 := ha.p2
  have hb1 := hb.q1; have hb2 := hb.q2; have hb3 := hb.p1; have hb4 := hb.p2
  have b1 := vd_mul ha3 ha4 (by omega) hb2
  have b2 := vd_mul hb3 hb4 (by omega) ha2
  rw [hx1] at b1 ⊢; rw [hx2] at b2 ⊢
  obtain ⟨l1, u1⟩ := b1; obtain ⟨l2, u2⟩ := b2
  clear ha1 ha2 ha3 ha4 hb1 hb2 hb3 hb4 ha hb
  obtain ⟨a0, a1, _, _⟩ := hA
  obtain ⟨b0, b1, _, _⟩ := hB
  go_enter Try.func34, Try.ntmps34
  go_wp2_with fail
  refine (cmp_any _ _ _).mono ?_
  rintro e w1 ⟨rfl, hw⟩
  obtain rfl := hw
  go_wp2
  go_ret2
  exact ⟨rfl, Below.refl _ _⟩
end Go.Proofs.Ythmakdlmadgpcaa

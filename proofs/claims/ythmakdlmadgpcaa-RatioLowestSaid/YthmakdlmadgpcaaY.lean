/- The law of lowest terms. -/
import Derived.Test.YthmakdlmadgpcaaQ
namespace Go.Proofs.Ythmakdlmadgpcaa
open Go.RowKit Go
set_option linter.unusedVariables false
set_option linter.unusedSimpArgs false
set_option maxRecDepth 100000 in
theorem lowest_zero (n d k : Int) (n1 : -2147483648 ≤ n) (n2 : n ≤ 2147483647) (d1 : -2147483648 ≤ d) (d2 : d ≤ 2147483647) (k1 : -32768 ≤ k) (k2 : k ≤ 32767) (hz : d = 0 ∨ (d ≠ 0 ∧ k = 0)) (w : World) :
    Calls Try.prog 8 #[.int .i32 n, .int .i32 d, .int .i16 k] w fun e w' => e = .returned (.bool true) ∧ Below w.heap.size w w' := by
  have i1 := hid (i64_of (n := n) (by omega) (by omega))
  have T0 := hid (Below.refl w.heap.size w)
  rcases hz with rfl | ⟨hd, rfl⟩
  · go_enter Try.func8, Try.ntmps8
    go_wp2_with fail
    refine (sane_any _).mono ?_
    rintro e w1 ⟨rfl, hb1⟩
    have T1 := hid (below_t T0.out hb1)
    clear hb1
    go_wp2_with fail
    refine (New_any n 0 i1.out (i64s (by decide)) _).mono ?_
    rintro e w2 ⟨rfl, hb2⟩
    rw [nw_zero]
    have T2 := hid (below_t T1.out hb2)
    clear hb2
    go_wp2
    go_ret
    exact ⟨rfl, below_t T2.out ((Below.refl _ _).alloc (Nat.le_refl _) _)⟩
  · have hb : (d == 0) = false := by simp [hd]
    go_enter Try.func8, Try.ntmps8
    go_wp2_with fail
    refine (sane_any _).mono ?_
    rintro e w1 ⟨rfl, hb1⟩
    have T1 := hid (below_t T0.out hb1)
    clear hb1
    go_wp2_with fail
    refine (New_any n 0 i1.out (i64s (by decide)) _).mono ?_
    rintro e w2 ⟨rfl, hb2⟩
    rw [nw_zero]
    have T2 := hid (below_t T1.out hb2)
    clear hb2
    go_wp2
    go_ret
    exact ⟨rfl, below_t T2.out ((Below.refl _ _).alloc (Nat.le_refl _) _)⟩
set_option maxRecDepth 100000 in
set_option maxHeartbeats 2000000 in
theorem lowest_some (n d k : Int) (n1 : -2147483648 ≤ n) (n2 : n ≤ 2147483647) (d1 : -2147483648 ≤ d) (d2 : d ≤ 2147483647) (k1 : -32768 ≤ k) (k2 : k ≤ 32767) (hd : d ≠ 0) (hk : k ≠ 0) (w : World) :
    Calls Try.prog 8 #[.int .i32 n, .int .i32 d, .int .i16 k] w fun e w' => e = .returned (.bool true) ∧ Below w.heap.size w w' := by
  have i1 := hid (i64_of (n := n) (by omega) (by omega))
  have i2 := hid (i64_of (n := d) (by omega) (by omega))
  have i5 := hid (i64_of (n := -n) (by omega) (by omega))
  have i6 := hid (i64_of (n := -d) (by omega) (by omega))
  have hm := nw_mul n d k hd hk
  have hng := nw_neg n d hd
  obtain ⟨N1, hN1⟩ : ∃ x, n * k = x := ⟨_, rfl⟩
  obtain ⟨D1, hD1⟩ : ∃ x, d * k = x := ⟨_, rfl⟩
  have m1 := mul_bd (show -2147483648 ≤ n by omega) (show n ≤ 2147483648 by omega) (show -32768 ≤ k by omega) (show k ≤ 32768 by omega)
  have m2 := mul_bd (show -2147483648 ≤ d by omega) (show d ≤ 2147483648 by omega) (show -32768 ≤ k by omega) (show k ≤ 32768 by omega)
  rw [hN1] at m1 hm
  rw [hD1] at m2 hm
  obtain ⟨m11, m12⟩ := m1; obtain ⟨m21, m22⟩ := m2
  have i3 := hid (i64_of (n := N1) (by omega) (by omega))
  have i4 := hid (i64_of (n := D1) (by omega) (by omega))
  obtain ⟨j1, j2⟩ := nw_i64 n d
  obtain ⟨⟨x1, x2, x3⟩, hX⟩ : ∃ x, x = nw n d := ⟨_, rfl⟩
  rw [← hX] at hm hng j1 j2
  have HM := hid hm; have HNG := hid hng; have HX := hid hX.symm; have J1 := hid j1; have J2 := hid j2
  have hcase : (x3 = 0 ∧ Vd x1 x2 ∧ x1 * d = n * x2) ∨ (x3 = 2 ∧ x1 = 0 ∧ x2 = 0) := by
    rcases nw_cases n d with ⟨p, q, h, hv⟩ | h | h
    · have h2 := nw_some h
      rw [← hX] at h
      simp only [Prod.mk.injEq] at h
      obtain ⟨rfl, rfl, rfl⟩ := h
      exact .inl ⟨rfl, hv, h2.2.2⟩
    · exact absurd (nw_one h) hd
    · rw [← hX] at h
      simp only [Prod.mk.injEq] at h
      exact .inr ⟨h.2.2, h.1, h.2.1⟩
  have HCS := hid hcase
  have T0 := hid (Below.refl w.heap.size w)
  have hdb : (d == 0) = false := by simp [hd]
  have hkb : (k == 0) = false := by simp [hk]
  clear hm hng hX j1 j2 hcase
  go_enter Try.func8, Try.ntmps8
  go_wp2_with fail
  refine (sane_any _).mono ?_
  rintro e w1 ⟨rfl, hb1⟩
  have T1 := hid (below_t T0.out hb1)
  clear hb1
  go_wp2_with fail
  refine (New_any n d i1.out i2.out _).mono ?_
  rintro e w2 ⟨rfl, hb2⟩
  rw [HX.out]
  have T2 := hid (below_t T1.out hb2)
  clear hb2
  have A0 : Below w2.heap.size w2 (w2.alloc (.cells #[.int .i64 (x1), .int .i64 (x2)] 23)) := (Below.refl _ _).alloc (Nat.le_refl _) _
  have F1 := hid (fr_new w2 (x1) (x2))
  have T2 := hid (below_t T2.out A0)
  clear A0
  go_wp2_with fail
  refine (New_any N1 D1 i3.out i4.out _).mono ?_
  rintro e w3 ⟨rfl, hb3⟩
  rw [HM.out]
  have F1 := hid (F1.out.ups hb3)
  have T3 := hid (below_t T2.out hb3)
  clear hb3
  have A0 : Below w3.heap.size w3 (w3.alloc (.cells #[.int .i64 (x1), .int .i64 (x2)] 23)) := (Below.refl _ _).alloc (Nat.le_refl _) _
  have F1 := hid (F1.out.ups A0)
  have F2 := hid (fr_new w3 (x1) (x2))
  have T3 := hid (below_t T3.out A0)
  clear A0
  go_wp2_with fail
  refine (New_any (-n) (-d) i5.out i6.out _).mono ?_
  rintro e w4 ⟨rfl, hb4⟩
  rw [HNG.out]
  have F1 := hid (F1.out.ups hb4)
  have F2 := hid (F2.out.ups hb4)
  have T4 := hid (below_t T3.out hb4)
  clear hb4
  have A0 : Below w4.heap.size w4 (w4.alloc (.cells #[.int .i64 (x1), .int .i64 (x2)] 23)) := (Below.refl _ _).alloc (Nat.le_refl _) _
  have F1 := hid (F1.out.ups A0)
  have F2 := hid (F2.out.ups A0)
  have F3 := hid (fr_new w4 (x1) (x2))
  have T4 := hid (below_t T4.out A0)
  clear A0
  rcases HCS.out with ⟨rfl, hv, he⟩ | ⟨rfl, rfl, rfl⟩
  · have HO := hid ((vd_iff x1 x2).1 hv)
    have HK := hid (chk_ok.2 hv)
    have p1 := mul_bd hv.p1 hv.p2 (show -2147483648 ≤ d by omega) (show d ≤ 2147483648 by omega)
    obtain ⟨P, hP⟩ : ∃ x, x1 * d = x := ⟨_, rfl⟩
    rw [hP] at p1 he
    obtain ⟨p11, p12⟩ := p1
    have he2 := he.symm
    clear he hv
    obtain ⟨F1c0, F1c1, _, _⟩ := F1.out
    obtain ⟨F2c0, F2c1, _, _⟩ := F2.out
    obtain ⟨F3c0, F3c1, _, _⟩ := F3.out
    go_wp2_with fail
    refine (New_any x1 x2 J1.out J2.out _).mono ?_
    rintro e w5 ⟨rfl, hb5⟩
    rw [HO.out]
    have F1 := hid (F1.out.ups hb5)
    have F2 := hid (F2.out.ups hb5)
    have F3 := hid (F3.out.ups hb5)
    have T5 := hid (below_t T4.out hb5)
    clear hb5
    clear F1c0 F1c1 F2c0 F2c1 F3c0 F3c1
    have A0 : Below w5.heap.size w5 (w5.alloc (.cells #[.int .i64 (x1), .int .i64 (x2)] 23)) := (Below.refl _ _).alloc (Nat.le_refl _) _
    have F1 := hid (F1.out.ups A0)
    have F2 := hid (F2.out.ups A0)
    have F3 := hid (F3.out.ups A0)
    have F4 := hid (fr_new w5 (x1) (x2))
    have T5 := hid (below_t T5.out A0)
    clear A0
    obtain ⟨F1c0, F1c1, _, _⟩ := F1.out
    obtain ⟨F4c0, F4c1, _, _⟩ := F4.out
    go_wp2_with fail
    refine (Check_any x1 x2 J1.out J2.out _).mono ?_
    rintro e w6 ⟨rfl, hb6⟩
    rw [HK.out]
    have F1 := hid (F1.out.ups hb6)
    have F2 := hid (F2.out.ups hb6)
    have F3 := hid (F3.out.ups hb6)
    have F4 := hid (F4.out.ups hb6)
    have T6 := hid (below_t T5.out hb6)
    clear hb6
    go_wp2
    go_ret
    exact ⟨by simp, T6.out⟩
  · obtain ⟨F1c0, F1c1, _, _⟩ := F1.out
    obtain ⟨F2c0, F2c1, _, _⟩ := F2.out
    obtain ⟨F3c0, F3c1, _, _⟩ := F3.out
    go_wp2
    go_ret
    exact ⟨by simp, T4.out⟩
theorem lowest_any (n d k : Int) (hn : -2147483648 ≤ n ∧ n ≤ 2147483647) (hd : -2147483648 ≤ d ∧ d ≤ 2147483647) (hk : -32768 ≤ k ∧ k ≤ 32767) (w : World) :
    Calls Try.prog 8 #[.int .i32 n, .int .i32 d, .int .i16 k] w fun e w' => e = .returned (.bool true) ∧ Below w.heap.size w w' := by
  by_cases h1 : d = 0
  · exact lowest_zero n d k hn.1 hn.2 hd.1 hd.2 hk.1 hk.2 (.inl h1) w
  · by_cases h2 : k = 0
    · exact lowest_zero n d k hn.1 hn.2 hd.1 hd.2 hk.1 hk.2 (.inr ⟨h1, h2⟩) w
    · exact lowest_some n d k hn.1 hn.2 hd.1 hd.2 hk.1 hk.2 h1 h2 w
end Go.Proofs.Ythmakdlmadgpcaa

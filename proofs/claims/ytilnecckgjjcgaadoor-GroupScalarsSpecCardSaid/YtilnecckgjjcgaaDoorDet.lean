/- The statement on scalars: they depend on the hash alone, and are private keys. -/
import Derived.Test.YtilnecckgjjcgaaDoorScl
import Derived.Test.YtilnecckgjjcgaaDoorDEqs
import Derived.Test.YtilnecckgjjcgaaDoorNm
namespace Go.Proofs.YtilnecckgjjcgaaDoor
open Go.RowKit Go
open Dg (Konst BS RetD IsD tagd vb Tagged_any eqD)
set_option linter.unusedVariables false
set_option linter.unusedSimpArgs false
theorem base_r (k y : Nat) (hk : Hid (Sc k)) (hy : Hid (mp 4611686018427377339 4 k = y)) (w : World) : Calls Tryd.prog 31 #[.int .i64 (k : Int)] w fun e w' => e = pz (y : Int) 0 ∧ Below w.heap.size w w' := by
  have := Base_ok k hk w; rwa [hy.out] at this
theorem scalar_r (tag : ByteArray) (v : Value) (b : List UInt8) (k : Nat) (w : World) (hv : BS w v b) (hk : Konst w) (ht : tag.size ≤ 1000000000) (hn : b.length ≤ 70368744000000) (h : Hid (1 + scl (tagd tag.data.toList b) = k)) :
    Calls Tryd.prog 29 #[.string tag, v] w fun e w' => e = .returned (.int .i64 (k : Int)) ∧ Below w.heap.size w w' := by
  have := Scalar_any tag v b w hv hk ht hn; rwa [h.out] at this
set_option maxRecDepth 100000 in
set_option maxHeartbeats 4000000 in
theorem determined_any (s t : ByteArray) (v u : Value) (b c : List UInt8) (hs : s.size ≤ 140737488355328) (ht : t.size ≤ 140737488355328) (w : World) (hv : BS w v b) (hu : BS w u c) (hk : Konst w) (lb : b.length ≤ 140737488355328) (lc : c.length ≤ 140737488355328) :
    Calls Tryd.prog 8 #[.string s, .string t, v, u] w fun e w' => e = .returned (.bool true) ∧ Below w.heap.size w w' := by
  obtain ⟨p, cp, rfl⟩ := hv.form
  obtain ⟨q, cq, rfl⟩ := hu.form
  have HV := Lib.hid hv; have HU := Lib.hid hu; have HK := Lib.hid hk
  clear hv hu hk
  generalize hm : b.length = m at *
  generalize hn : c.length = n at *
  have HM := Lib.hid hm; have HN := Lib.hid hn; clear hm hn
  by_cases h3 : 300 < s.size + t.size
  · go_enter Tryd.func8, Tryd.ntmps8
    go_wp2_with fail
    refine (sane_any _).mono ?_
    rintro e w1 ⟨rfl, h1⟩
    have hd : decide ((300 : Int) < (s.size : Int) + (t.size : Int)) = true := decide_eq_true (by omega)
    go_wp2
    go_ret
    exact ⟨rfl, h1⟩
  by_cases h4 : 1000 < m + n
  · go_enter Tryd.func8, Tryd.ntmps8
    go_wp2_with fail
    refine (sane_any _).mono ?_
    rintro e w1 ⟨rfl, h1⟩
    have hd : decide ((300 : Int) < (s.size : Int) + (t.size : Int)) = false := decide_eq_false (by omega)
    have hd2 : decide ((1000 : Int) < (m : Int) + (n : Int)) = true := decide_eq_true (by omega)
    go_wp2
    go_ret
    exact ⟨rfl, h1⟩
  have e1 : s.size ≤ 300 := by omega
  have e2 : t.size ≤ 300 := by omega
  have e3 : m ≤ 1000 := by omega
  have e4 : n ≤ 1000 := by omega
  obtain ⟨T, hT⟩ : ∃ T, T = tagd s.data.toList b := ⟨_, rfl⟩
  obtain ⟨U, hU⟩ : ∃ U, U = tagd t.data.toList c := ⟨_, rfl⟩
  obtain ⟨k, hk⟩ : ∃ k, 1 + scl T = k := ⟨_, rfl⟩
  obtain ⟨l, hl⟩ : ∃ l, 1 + scl U = l := ⟨_, rfl⟩
  have k0 : 1 ≤ k := by omega
  have kQ : k < 2305843009213688669 := by have := scl_lt T; omega
  have sk : Hid (Sc k) := Lib.hid kQ
  obtain ⟨y, hy⟩ : ∃ y, mp 4611686018427377339 4 k = y := ⟨_, rfl⟩
  have ey : El y := by rw [← hy, mpP _ _ (by omega)]; exact el_pow el4.out k
  have ny : y ≠ 1 := by rw [← hy]; exact base_ne k k0 kQ
  have EY := Lib.hid ey; have HY := Lib.hid hy
  have KT : Hid (1 + scl (tagd s.data.toList b) = k) := Lib.hid (by rw [← hT]; exact hk)
  have KU : Hid (1 + scl (tagd t.data.toList c) = l) := Lib.hid (by rw [← hU]; exact hl)
  have HT := Lib.hid hT; have HU' := Lib.hid hU
  have E := Lib.hid (show s.size ≤ 300 ∧ t.size ≤ 300 ∧ m ≤ 1000 ∧ n ≤ 1000 from ⟨e1, e2, e3, e4⟩)
  have hd : decide ((300 : Int) < (s.size : Int) + (t.size : Int)) = false := decide_eq_false (by omega)
  have hd2 : decide ((1000 : Int) < (m : Int) + (n : Int)) = false := decide_eq_false (by omega)
  have hd3 : decide ((k : Int) < 1) = false := decide_eq_false (by omega)
  have hd4 : decide ((2305843009213688669 : Int) ≤ (k : Int)) = false := decide_eq_false (by omega)
  have hd5 : ((y : Int) == 1) = false := by simp only [beq_eq_false_iff_ne, ne_eq]; omega
  have hkl : T = U → k = l := fun e => by rw [← hk, ← hl, e]
  clear hT hU hk hl hy ey ny h3 h4 kQ k0
  go_enter Tryd.func8, Tryd.ntmps8
  go_wp2_with fail
  refine (sane_any _).mono ?_
  rintro e w1 ⟨rfl, h1⟩
  have HV1 := Lib.hid (HV.out.ups h1); have HU1 := Lib.hid (HU.out.ups h1); have HK1 := Lib.hid (HK.out.ups h1)
  have B1 := Lib.hid h1; clear h1
  go_wp2_with fail
  refine (scalar_r s _ b k _ HV1.out HK1.out (by omega) (by rw [HM.out]; omega) KT).mono ?_
  rintro e w2 ⟨rfl, h2⟩
  have B2 := Lib.hid (below_tr B1.out h2); have HV2 := Lib.hid (HV1.out.ups h2); have HU2 := Lib.hid (HU1.out.ups h2); have HK2 := Lib.hid (HK1.out.ups h2); clear h2
  go_wp2_with fail
  refine (base_r k y sk HY _).mono ?_
  unfold pz
  rintro e w3 ⟨rfl, h3⟩
  have B3 := Lib.hid (below_tr B2.out h3); have HV3 := Lib.hid (HV2.out.ups h3); have HU3 := Lib.hid (HU2.out.ups h3); have HK3 := Lib.hid (HK2.out.ups h3); clear h3
  go_wp2_with fail
  refine (Check_ok y EY _).mono ?_
  rintro e w4 ⟨rfl, h4⟩
  have B4 := Lib.hid (below_tr B3.out h4); have HV4 := Lib.hid (HV3.out.ups h4); have HU4 := Lib.hid (HU3.out.ups h4); have HK4 := Lib.hid (HK3.out.ups h4); clear h4
  go_wp2_with fail
  refine (Tagged_any s _ b _ HV4.out HK4.out (by omega) (by rw [HM.out]; omega)).mono ?_
  rintro e w5 ⟨v5, d5, rfl, h5⟩
  rw [← HT.out] at d5
  have B5 := Lib.hid (below_tr B4.out h5); have HV5 := Lib.hid (HV4.out.ups h5); have HU5 := Lib.hid (HU4.out.ups h5); have HK5 := Lib.hid (HK4.out.ups h5); clear h5
  go_wp2_with fail
  refine (Tagged_any t _ c _ HU5.out HK5.out (by omega) (by rw [HN.out]; omega)).mono ?_
  rintro e w6 ⟨v6, d6, rfl, h6⟩
  rw [← HU'.out] at d6
  have B6 := Lib.hid (below_tr B5.out h6); have HV6 := Lib.hid (HV5.out.ups h6); have HU6 := Lib.hid (HU5.out.ups h6); have HK6 := Lib.hid (HK5.out.ups h6); clear h6
  have hq := eqD d5 d6
  by_cases htu : T = U
  · have hkl := hkl htu
    subst hkl
    have hq2 : ∀ w : World, (Op.equalIn 10000 26 (.agg v5.toArray) (.agg v6.toArray)).run Tryd.prog w = .ok true w := fun w => by rw [hq, htu, beq_self_eq_true]
    have hkk : ((k : Int) == (k : Int)) = true := by simp
    clear hq htu
    go_wp2_with fail
    refine (scalar_r t _ c k _ HU6.out HK6.out (by omega) (by rw [HN.out]; omega) KU).mono ?_
    rintro e w7 ⟨rfl, h7⟩
    have B7 := Lib.hid (below_tr B6.out h7); clear h7
    go_wp2
    go_ret
    exact ⟨rfl, B7.out⟩
  · have hq2 : ∀ w : World, (Op.equalIn 10000 26 (.agg v5.toArray) (.agg v6.toArray)).run Tryd.prog w = .ok false w := fun w => by rw [hq, beq_eq_false_iff_ne.2 htu]
    clear hq htu hkl
    go_wp2
    go_ret
    exact ⟨rfl, B6.out⟩
end Go.Proofs.YtilnecckgjjcgaaDoor

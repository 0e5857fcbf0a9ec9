/- The law of scalars: both implementations answer alike. -/
import Derived.Test.YtilnecckgjjcgaaDoorRH
import Derived.Test.YtilnecckgjjcgaaDoorDet
namespace Go.Proofs.YtilnecckgjjcgaaDoor
open Go.RowKit Go
open Dg (Konst BS RetD IsD tagd vb)
set_option linter.unusedVariables false
set_option linter.unusedSimpArgs false
set_option maxRecDepth 100000 in
set_option maxHeartbeats 4000000 in
theorem scalarsSpec_any (a b : Int) (s : ByteArray) (v : Value) (c : List UInt8) (hs : s.size ≤ 140737488355328) (w : World) (hv : BS w v c) (hk : Konst w) (lc : c.length ≤ 140737488355328) :
    Calls Tryd.prog 7 #[.int .i64 a, .int .i64 b, .string s, v] w fun e w' => e = .returned (.bool true) ∧ Below w.heap.size w w' := by
  obtain ⟨p, cp, rfl⟩ := hv.form
  have HV := Lib.hid hv; have HK := Lib.hid hk
  clear hv hk
  generalize hm : c.length = m at *
  have HM := Lib.hid hm; clear hm
  by_cases h3 : 300 < s.size
  · go_enter Tryd.func7, Tryd.ntmps7
    go_wp2_with fail
    refine (sane_any _).mono ?_
    rintro e w1 ⟨rfl, h1⟩
    have hd : decide ((300 : Int) < (s.size : Int)) = true := decide_eq_true (by omega)
    go_wp2
    go_ret
    exact ⟨rfl, h1⟩
  by_cases h4 : 1000 < m
  · go_enter Tryd.func7, Tryd.ntmps7
    go_wp2_with fail
    refine (sane_any _).mono ?_
    rintro e w1 ⟨rfl, h1⟩
    have hd : decide ((300 : Int) < (s.size : Int)) = false := decide_eq_false (by omega)
    have hd2 : decide ((1000 : Int) < (m : Int)) = true := decide_eq_true (by omega)
    go_wp2
    go_ret
    exact ⟨rfl, h1⟩
  have e1 : s.size ≤ 300 := by omega
  have e3 : m ≤ 1000 := by omega
  have hd : decide ((300 : Int) < (s.size : Int)) = false := decide_eq_false (by omega)
  have hd2 : decide ((1000 : Int) < (m : Int)) = false := decide_eq_false (by omega)
  obtain ⟨k, hk⟩ : ∃ k, 1 + scl (tagd s.data.toList c) = k := ⟨_, rfl⟩
  have KT := Lib.hid hk
  obtain ⟨c1, c2, m1, m2⟩ := sum_both a b
  obtain ⟨d1, d2, n1, n2⟩ := product_both a b
  have M1 := Lib.hid m1; have M2 := Lib.hid m2; have N1 := Lib.hid n1; have N2 := Lib.hid n2
  clear m1 m2 n1 n2 hk h3 h4
  have q1 : (c1 == c1) = true := by simp
  have q2 : (c2 == c2) = true := by simp
  have q3 : (d1 == d1) = true := by simp
  have q4 : (d2 == d2) = true := by simp
  have q5 : ((k : Int) == (k : Int)) = true := by simp
  have E := Lib.hid (show s.size ≤ 300 ∧ m ≤ 1000 from ⟨e1, e3⟩)
  go_enter Tryd.func7, Tryd.ntmps7
  go_wp2_with fail
  refine (sane_any _).mono ?_
  rintro e w1 ⟨rfl, h1⟩
  have HV1 := Lib.hid (HV.out.ups h1); have HK1 := Lib.hid (HK.out.ups h1)
  have B1 := Lib.hid h1; clear h1
  go_wp2_with fail
  unfold pz at M1 M2 N1 N2
  refine (M1.out _).mono ?_
  rintro e w2 ⟨rfl, h2⟩
  have B2 := Lib.hid (below_tr B1.out h2); have HV2 := Lib.hid (HV1.out.ups h2); have HK2 := Lib.hid (HK1.out.ups h2); clear h2
  go_wp2_with fail
  refine (M2.out _).mono ?_
  rintro e w2' ⟨rfl, rfl⟩
  go_wp2_with fail
  refine (N1.out _).mono ?_
  rintro e w3 ⟨rfl, h3⟩
  have B3 := Lib.hid (below_tr B2.out h3); have HV3 := Lib.hid (HV2.out.ups h3); have HK3 := Lib.hid (HK2.out.ups h3); clear h3
  go_wp2_with fail
  refine (N2.out _).mono ?_
  rintro e w3' ⟨rfl, rfl⟩
  go_wp2_with fail
  refine (scalar_r s _ c k _ HV3.out HK3.out (by omega) (by rw [HM.out]; omega) KT).mono ?_
  rintro e w4 ⟨rfl, h4⟩
  have B4 := Lib.hid (below_tr B3.out h4); have HV4 := Lib.hid (HV3.out.ups h4); clear h4
  go_wp2_with fail
  refine (rScalar_any s _ c k _ HV4.out (by omega) (by rw [HM.out]; omega) KT).mono ?_
  rintro e w5 ⟨rfl, h5⟩
  have B5 := Lib.hid (below_tr B4.out h5); clear h5
  go_wp2
  go_ret
  exact ⟨rfl, B5.out⟩
end Go.Proofs.YtilnecckgjjcgaaDoor

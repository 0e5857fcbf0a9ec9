/- The examples of the law's chapter 4: they hold. -/
import Derived.Test.YtaoehkoffhnidaaDoorSJ
import Derived.Test.YtaoehkoffhnidaaDoorSL
namespace Go.Proofs.YtaoehkoffhnidaaDoor
open Go.RowKit Go
open Dg (Konst BS IsD hid zerosD isD_zeros)
set_option linter.unusedVariables false
set_option maxRecDepth 20000
set_option linter.unusedSimpArgs false
theorem pk_one : Hid (PrK 1) := hid ⟨by omega, by omega⟩
theorem bad_zero : Hid (Pk1 0 = false) := hid (by decide)
theorem bad_q : Hid (Pk1 2305843009213688669 = false) := hid (by decide)
theorem pub_one : Hid (mp 4611686018427377339 4 1 = 4) := hid (by decide +kernel)
theorem nil_bs (w : World) : BS w (.slice none 0 0) [] := .inl ⟨rfl, rfl⟩
theorem not_vf0 (m : List UInt8) : ¬ Vf 0 0 0 m := by
  rintro ⟨p, r, s, e, _, _, h, _⟩; have := h.1; omega
theorem not_vfq (m : List UInt8) : ¬ Vf 4 4 2305843009213688669 m := by
  rintro ⟨p, r, s, _, _, e, _, _, h, _⟩; unfold Sc at h; omega
theorem bool_no {b : Bool} {p : Prop} (h : b = true ↔ p) (hn : ¬ p) : b = false := by
  cases b
  · rfl
  · exact absurd (h.1 rfl) hn
theorem seven_bs {w W : World} (hc : Dg.Cells W ⟨w.heap.size, 0, none⟩ [.int .u8 7]) (hs : w.heap.size < W.heap.size) : BS W (.slice (some ⟨w.heap.size, 0, none⟩) 1 1) [7] :=
  .inr ⟨_, 1, rfl, Nat.le_refl _, by unfold maxLen; omega, hc, hs⟩
set_option maxRecDepth 100000 in
set_option maxHeartbeats 4000000 in
theorem ssane_any (w : World) (hk : Konst w) : Calls Tryd.prog 12 #[] w fun e w' => e = .returned (.bool true) ∧ Below w.heap.size w w' := by
  obtain ⟨R, hR⟩ : ∃ R, R = sigR 1 [7] := ⟨_, rfl⟩
  obtain ⟨S, hS⟩ : ∃ S, S = sigS 1 [7] := ⟨_, rfl⟩
  obtain ⟨Z, hZ⟩ : ∃ Z, Z = privN zerosD ⟨#[]⟩ 0 := ⟨_, rfl⟩
  have hv : Hid (Vf 4 R S [7]) := hid (by
    have := vf_sig pk_one.out [7]
    rw [← hR, ← hS, show pubN 1 = 4 from pub_one.out] at this
    exact this)
  have hrp : 0 < R := by rw [hR, sigR_pw]; exact (pw_el _).1
  have hz1 : 0 < Z := by rw [hZ]; exact sclOf_pos _ _
  have hz2 : Z < 2305843009213688669 := by rw [hZ]; exact sclOf_lt _ _
  have HR := hid hR; have HS' := hid hS; have HZ := hid hZ; have HRP := hid hrp; have HZ1 := hid hz1; have HZ2 := hid hz2
  have HK := hid hk
  clear hR hS hZ hrp hz1 hz2 hk
  go_enter Tryd.func12, Tryd.ntmps12
  go_wp2_with fail
  refine (Public_ok 1 4 pk_one pub_one _).mono ?_
  unfold pz
  rintro e w1 ⟨rfl, h1⟩
  have B1 := hid h1
  clear h1
  go_wp2_with fail
  refine (Public_bad 0 bad_zero _).mono ?_
  unfold pz
  rintro e u ⟨rfl, rfl⟩
  go_wp2_with fail
  refine (Public_bad 2305843009213688669 bad_q _).mono ?_
  unfold pz
  rintro e u ⟨rfl, rfl⟩
  go_wp2_with fail
  refine (Sign_bad 0 bad_zero _ _).mono ?_
  unfold ps
  rintro e w2 ⟨rfl, h2⟩
  have B2 := hid (Dg.below_tr B1.out h2)
  clear h2
  go_wp2_with fail
  have al2 := Dg.below_al w2 (.cells #[.int .i64 0, .int .i64 0] 30)
  have es2 : (w2.alloc (.cells #[.int .i64 0, .int .i64 0] 30)).heap.size = w2.heap.size + 1 := by simp
  refine Dg.calls_alloc (zs := [.int .u8 7]) ?_
  intro W3 hc hf hb hs
  have B3 := hid (Dg.below_tr (Dg.below_tr B2.out al2) hb)
  have S3 := hid (seven_bs hc (by omega))
  rw [es2] at S3
  clear hc hf hb hs al2 es2
  refine (Sign_ok 1 pk_one _ [7] _ S3.out (HK.out.ups B3.out) (by simp)).mono ?_
  unfold ps
  rw [← HR.out, ← HS'.out]
  rintro e w4 ⟨rfl, h4⟩
  have B4 := hid (Dg.below_tr B3.out h4)
  clear h4 S3
  go_upto_region 6 with fail
  refine Dg.code_alloc (zs := [.int .i64 (R : Int), .int .i64 (S : Int)]) ?_
  intro W5 hc hf hb hs
  obtain ⟨g9, hg9⟩ : ∃ g, g = w4.heap.size := ⟨_, rfl⟩
  rw [← hg9] at hc ⊢
  have B5 := hid (Dg.below_tr B4.out hb); have C5 := hid hc
  clear hc hf hb hs hg9
  go_wp2_with fail
  refine Dg.calls_alloc (zs := [.int .u8 7]) ?_
  intro W6 hc hf hb hs
  have B6 := hid (Dg.below_tr B5.out hb); have C6 := hid (C5.out.ups hb)
  have S6 := hid (seven_bs hc (by omega))
  clear hc hf hb hs
  refine (Sign_ok 1 pk_one _ [7] _ S6.out (HK.out.ups B6.out) (by simp)).mono ?_
  unfold ps
  rw [← HR.out, ← HS'.out]
  rintro e w7 ⟨rfl, h7⟩
  have B7 := hid (Dg.below_tr B6.out h7); have C7 := hid (C6.out.ups h7)
  clear h7 S6
  go_upto_region 7 with fail
  refine Dg.code_alloc (zs := [.int .i64 (R : Int), .int .i64 (S : Int)]) ?_
  intro W8 hc hf hb hs
  obtain ⟨g11, hg11⟩ : ∃ g, g = w7.heap.size := ⟨_, rfl⟩
  rw [← hg11] at hc ⊢
  have B8 := hid (Dg.below_tr B7.out hb); have C8 := hid (C7.out.ups hb); have D8 := hid hc
  clear hc hf hb hs hg11
  go_wp2_with fail
  refine (Private_any zerosD (zerosD.map Dg.vb) ⟨#[]⟩ 0 _ isD_zeros (HK.out.ups B8.out) (by decide)).mono ?_
  rintro e w9 ⟨rfl, h9⟩
  rw [← HZ.out]
  have B9 := hid (Dg.below_tr B8.out h9); have C9 := hid (C8.out.ups h9); have D9 := hid (D8.out.ups h9)
  clear h9 B1 B2 B3 B4 B5 B6 B7 B8 C5 C6 C7 C8 D8
  have z1 : decide ((Z : Int) < 1) = false := by have := HZ1.out; simp; omega
  have z2 : decide (2305843009213688669 ≤ (Z : Int)) = false := by have := HZ2.out; simp; omega
  have c0 : w9.cell? ⟨g9, 0, none⟩ = some (.int .i64 (R : Int)) := C9.out.at0 (j := 0) rfl
  have c1 : w9.cell? ⟨g9, 1, none⟩ = some (.int .i64 (S : Int)) := C9.out.at0 (j := 1) rfl
  have d0 : w9.cell? ⟨g11, 0, none⟩ = some (.int .i64 (R : Int)) := D9.out.at0 (j := 0) rfl
  have d1 : w9.cell? ⟨g11, 1, none⟩ = some (.int .i64 (S : Int)) := D9.out.at0 (j := 1) rfl
  have r0 : decide (0 < (R : Int)) = true := by have := HRP.out; simp; omega
  go_wp2_with fail
  clear c0 c1 d0 d1 z1 z2 r0 HZ1 HZ2 HRP
  refine (Verify_any 0 0 0 _ [] _ (nil_bs _) (HK.out.ups B9.out) (by simp)).mono ?_
  rintro e w10 ⟨b, rfl, hb, h10⟩
  obtain rfl : b = false := bool_no hb (not_vf0 [])
  have B10 := hid (Dg.below_tr B9.out h10); have C10 := hid (C9.out.ups h10)
  clear h10 hb D9 C9
  go_wp2_with fail
  refine (Verify_any 4 4 2305843009213688669 _ [] _ (nil_bs _) (HK.out.ups B10.out) (by simp)).mono ?_
  rintro e w11 ⟨b, rfl, hb, h11⟩
  obtain rfl : b = false := bool_no hb (not_vfq [])
  have B11 := hid (Dg.below_tr B10.out h11); have C11 := hid (C10.out.ups h11)
  clear h11 hb C10
  have al := Dg.below_al w11 (.cells #[.int .u8 7] 5)
  have CA := C11.out.ups al
  have c0 : (w11.alloc (.cells #[.int .u8 7] 5)).cell? ⟨g9, 0, none⟩ = some (.int .i64 (R : Int)) := CA.at0 (j := 0) rfl
  have c1 : (w11.alloc (.cells #[.int .u8 7] 5)).cell? ⟨g9, 1, none⟩ = some (.int .i64 (S : Int)) := CA.at0 (j := 1) rfl
  clear al CA
  go_wp2_with fail
  clear c0 c1
  refine Dg.calls_alloc (zs := [.int .u8 7]) ?_
  intro W12 hc hf hb hs
  have B12 := hid (Dg.below_tr B11.out hb)
  have S12 := hid (seven_bs hc (by omega))
  clear hc hf hb hs
  refine (Verify_any 4 R S _ [7] _ S12.out (HK.out.ups B12.out) (by simp)).mono ?_
  rintro e w13 ⟨b, rfl, hb, h13⟩
  obtain rfl : b = true := hb.2 hv.out
  have B13 := hid (Dg.below_tr B12.out h13)
  clear h13 hb
  go_wp2
  go_ret
  exact ⟨rfl, B13.out⟩
end Go.Proofs.YtaoehkoffhnidaaDoor

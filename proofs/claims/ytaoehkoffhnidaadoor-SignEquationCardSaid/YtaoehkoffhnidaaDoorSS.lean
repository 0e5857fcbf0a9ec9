/- The law SignEquation. -/
import Derived.Test.YtaoehkoffhnidaaDoorSO

namespace Go.Proofs.YtaoehkoffhnidaaDoor
open Go.RowKit Go
open Dg (Konst BS IsD hid)
set_option linter.unusedVariables false
set_option maxRecDepth 20000
set_option linter.unusedSimpArgs false
set_option maxRecDepth 100000 in
set_option maxHeartbeats 4000000 in
theorem equation_any (pub R S : Int) (v : Value) (m : List UInt8) (w : World) (hv : BS w v m) (hk : Konst w) :
    Calls Tryd.prog 7 #[.int .i64 pub, v, .agg #[.int .i64 R, .int .i64 S]] w fun e w' => e = .returned (.bool true) ∧ Below w.heap.size w w' := by
  obtain ⟨p, c, rfl⟩ := hv.form
  have HV := hid hv; have HK := hid hk
  obtain ⟨ln, hln⟩ : ∃ ln, ln = m.length := ⟨_, rfl⟩
  rw [← hln] at HV ⊢
  have HLN := hid hln
  clear hv hk hln
  by_cases hle : ln ≤ 1000
  · have hn : Hid (m.length ≤ 90000000) := hid (by have := HLN.out; omega)
    have hd : decide ((1000 : Int) < (ln : Int)) = false := by simp; omega
    obtain ⟨k, hkk⟩ : ∃ k, k = chal pub R m := ⟨_, rfl⟩
    have hks : Hid (Sc k) := hid (by rw [hkk]; exact chal_lt _ _ _)
    obtain ⟨c1, e1, B, hB⟩ := base_t S
    obtain ⟨c2, e2, X, hX⟩ := exp_t pub k hks
    obtain ⟨c3, e3, M, hM⟩ := mul_t R c2
    have key := hid (vf_key pub R S m k c1 e1 c2 e2 c3 e3 hkk hks hB hX hM)
    have HKK := hid hkk
    have l1 : e1 = 0 ∨ e1 = 1 := by rcases hB with ⟨h, _⟩ | ⟨h, _⟩ <;> simp [h]
    have l2 : e2 = 0 ∨ e2 = 30 := by rcases hX with ⟨h, _⟩ | ⟨h, _⟩ <;> simp [h]
    have l3 : e3 = 0 ∨ e3 = 30 := by rcases hM with ⟨h, _⟩ | ⟨h, _⟩ <;> simp [h]
    clear hB hX hM hkk hle
    go_enter Tryd.func7, Tryd.ntmps7
    go_upto_region 1 with fail
    refine Dg.code_alloc (zs := [.int .i64 R, .int .i64 S]) ?_
    intro W0 hc hf hb hs
    obtain ⟨g, hg⟩ : ∃ g, g = w.heap.size := ⟨_, rfl⟩
    rw [← hg] at hc ⊢
    have B0 := hid hb; have C0 := hid hc
    clear hc hf hb hs hg
    go_wp2_with fail
    refine (ssane_any _ (HK.out.ups B0.out)).mono ?_
    rintro e w1 ⟨rfl, h1⟩
    have B1 := hid (Dg.below_tr B0.out h1); have C1 := hid (C0.out.ups h1)
    clear h1 C0
    have c0 : w1.cell? ⟨g, 1, none⟩ = some (.int .i64 S) := C1.out.at0 (j := 1) rfl
    go_wp2_with fail
    clear c0 hd
    refine (B.out _).mono ?_
    unfold pz
    rintro e w2 ⟨rfl, h2⟩
    have B2 := hid (Dg.below_tr B1.out h2); have C2 := hid (C1.out.ups h2)
    clear h2 C1
    have c0 : w2.cell? ⟨g, 0, none⟩ = some (.int .i64 R) := C2.out.at0 (j := 0) rfl
    go_wp2_with fail
    clear c0
    refine (lchal_any pub R _ m _ (HV.out.ups B2.out) (HK.out.ups B2.out) hn.out).mono ?_
    rintro e w3 ⟨rfl, h3⟩
    rw [← HKK.out]
    have B3 := hid (Dg.below_tr B2.out h3); have C3 := hid (C2.out.ups h3)
    clear h3 C2
    go_wp2_with fail
    refine (X.out _).mono ?_
    unfold pz
    rintro e w4 ⟨rfl, h4⟩
    have B4 := hid (Dg.below_tr B3.out h4); have C4 := hid (C3.out.ups h4)
    clear h4 C3
    have c0 : w4.cell? ⟨g, 0, none⟩ = some (.int .i64 R) := C4.out.at0 (j := 0) rfl
    go_wp2_with fail
    clear c0
    refine (M.out _).mono ?_
    unfold pz
    rintro e w5 ⟨rfl, h5⟩
    have B5 := hid (Dg.below_tr B4.out h5); have C5 := hid (C4.out.ups h5)
    clear h5 C4
    have c0 : w5.cell? ⟨g, 0, none⟩ = some (.int .i64 R) := C5.out.at0 (j := 0) rfl
    have c1' : w5.cell? ⟨g, 1, none⟩ = some (.int .i64 S) := C5.out.at0 (j := 1) rfl
    go_wp2_with fail
    clear c0 c1'
    refine (Verify_any pub R S _ m _ (HV.out.ups B5.out) (HK.out.ups B5.out) (Nat.le_trans hn.out (by omega))).mono ?_
    rintro e w6 ⟨b, rfl, hb, h6⟩
    have hbb : b = ((e1 == 0 && (e2 == 0 && e3 == 0)) && (c1 == c3)) := by rw [Bool.eq_iff_iff, hb]; exact key.out.symm
    have B6 := hid (Dg.below_tr B5.out h6)
    clear h6 hb C5 key B X M HKK
    subst hbb
    rcases l1 with rfl | rfl <;> rcases l2 with rfl | rfl <;> rcases l3 with rfl | rfl
    all_goals
      simp only [show ((0 : Int) == 0) = true from rfl, show ((1 : Int) == 0) = false from rfl, show ((30 : Int) == 0) = false from rfl, Bool.and_true, Bool.true_and, Bool.and_false, Bool.false_and]
      go_wp2
      go_ret
      exact ⟨by simp, B6.out⟩
  · have hd : decide ((1000 : Int) < (ln : Int)) = true := by simp; omega
    clear hle
    go_enter Tryd.func7, Tryd.ntmps7
    go_upto_region 1 with fail
    refine Dg.code_alloc (zs := [.int .i64 R, .int .i64 S]) ?_
    intro W0 hc hf hb hs
    have B0 := hid hb
    clear hc hf hb hs
    go_wp2_with fail
    refine (ssane_any _ (HK.out.ups B0.out)).mono ?_
    rintro e w1 ⟨rfl, h1⟩
    have B1 := hid (Dg.below_tr B0.out h1)
    clear h1
    go_wp2
    go_ret
    exact ⟨rfl, B1.out⟩
end Go.Proofs.YtaoehkoffhnidaaDoor

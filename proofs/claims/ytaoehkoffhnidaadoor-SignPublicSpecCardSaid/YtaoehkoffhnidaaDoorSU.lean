/- The law SignPublicSpec. -/
import Derived.Test.YtaoehkoffhnidaaDoorSO
import Derived.Test.YtaoehkoffhnidaaDoorSK
namespace Go.Proofs.YtaoehkoffhnidaaDoor
open Go.RowKit Go
open Dg (Konst BS IsD hid)
set_option linter.unusedVariables false
set_option maxRecDepth 20000
set_option linter.unusedSimpArgs false
theorem pub_both (n : Int) : ∃ c e : Int, Hid (∀ w, Calls Tryd.prog 14 #[.int .i64 n] w fun x w' => x = pz c e ∧ Below w.heap.size w w') ∧ Hid (∀ w, Calls Tryd.prog 15 #[.int .i64 n] w fun x w' => x = pz c e ∧ w = w') := by
  rcases pk_or n with ⟨x, rfl, h⟩ | h
  · exact ⟨_, 0, hid (Public_ok x _ h (hid rfl)), hid (rPublic_ok x _ h (hid rfl))⟩
  · exact ⟨0, 40, hid fun w => (Public_bad n h w).mono fun e w' ⟨h1, h2⟩ => ⟨h1, by subst h2; exact Below.refl _ _⟩, hid (rPublic_bad n h)⟩
theorem sign_both (n : Int) (v : Value) (m : List UInt8) (hn : m.length ≤ 90000000) : ∃ R S e : Int, Hid (∀ w, BS w v m → Konst w → Calls Tryd.prog 16 #[.int .i64 n, v] w fun x w' => x = ps R S e ∧ Below w.heap.size w w') ∧ Hid (∀ w, BS w v m → Calls Tryd.prog 17 #[.int .i64 n, v] w fun x w' => x = ps R S e ∧ Below w.heap.size w w') := by
  rcases pk_or n with ⟨x, rfl, h⟩ | h
  · exact ⟨_, _, 0, hid fun w hv hk => Sign_ok x h v m w hv hk (by omega), hid fun w hv => rSign_ok x h v m w hv hn⟩
  · exact ⟨0, 0, 40, hid fun w hv hk => Sign_bad n h v w, hid fun w hv => rSign_bad n h v w⟩
set_option maxRecDepth 100000 in
set_option maxHeartbeats 4000000 in
theorem pubspec_any (x : Int) (v : Value) (m : List UInt8) (w : World) (hv : BS w v m) (hk : Konst w) :
    Calls Tryd.prog 3 #[.int .i64 x, v] w fun e w' => e = .returned (.bool true) ∧ Below w.heap.size w w' := by
  obtain ⟨p, c, rfl⟩ := hv.form
  have HV := hid hv; have HK := hid hk
  obtain ⟨ln, hln⟩ : ∃ ln, ln = m.length := ⟨_, rfl⟩
  rw [← hln] at HV ⊢
  have HLN := hid hln
  clear hv hk hln
  obtain ⟨kx, HKN⟩ : ∃ k, Hid (keyN x = k) := ⟨_, hid rfl⟩
  by_cases hle : ln ≤ 1000
  · have hn : Hid (m.length ≤ 90000000) := hid (by have := HLN.out; omega)
    have hd : decide ((1000 : Int) < (ln : Int)) = false := by simp; omega
    clear hle
    go_enter Tryd.func3, Tryd.ntmps3
    go_wp2_with fail
    refine (ssane_any _ HK.out).mono ?_
    rintro e w1 ⟨rfl, h1⟩
    have B1 := hid h1
    clear h1
    go_wp2_with fail
    refine (Key_any x kx HKN _).mono ?_
    rintro e u ⟨rfl, rfl⟩
    clear hd
    go_upto_region 6 with fail
    refine Dg.code_alloc (zs := [.int .i64 x, .int .i64 (kx : Int)]) ?_
    intro W2 hc hf hb hs
    obtain ⟨gl, hgl⟩ : ∃ g, g = w1.heap.size := ⟨_, rfl⟩
    rw [← hgl] at hc ⊢
    have B2 := hid (Dg.below_tr B1.out hb); have C2 := hid hc
    clear hc hf hb hs hgl
    have hpart : ∀ j, j < 2 → ∃ n : Int, [Value.int .i64 x, .int .i64 (kx : Int)][j]? = some (.int .i64 n) := by
      intro j hj
      rcases (by omega : j = 0 ∨ j = 1) with rfl | rfl
      · exact ⟨_, rfl⟩
      · exact ⟨_, rfl⟩
    have HP := hid hpart
    clear hpart
    go_loopw [25] (fun i w1 => ∃ j : Nat, j ≤ 2 ∧ i = .int .i64 j ∧ Hid (Below W2.heap.size W2 w1)) (fun i _ => 2 - (intOf i).toNat)
    case atStart => exact ⟨0, by omega, rfl, hid (Below.refl _ _)⟩
    case round =>
      obtain ⟨j, hj, rfl, hb⟩ := hrel
      by_cases hlt : j < 2
      · obtain ⟨n, hnn⟩ := HP.out j hlt
        have hcell := (C2.out.ups hb.out).at0 hnn
        obtain ⟨pc, pe, P1, P2⟩ := pub_both n
        obtain ⟨R, S, se, S1, S2⟩ := sign_both n (.slice p ln c) m hn.out
        have BR := hid (Dg.below_tr B2.out hb.out)
        have HB := hid hb.out
        clear hnn hb
        go_wp2_with fail
        clear hcell
        refine (P1.out _).mono ?_
        unfold pz
        rintro e w3 ⟨rfl, h3⟩
        have B3 := hid (Dg.below_tr BR.out h3); have HB3 := hid (Dg.below_tr HB.out h3)
        clear h3 HB BR
        go_wp2_with fail
        refine (P2.out _).mono ?_
        unfold pz
        rintro e u ⟨rfl, rfl⟩
        go_wp2_with fail
        refine (S1.out _ (HV.out.ups B3.out) (HK.out.ups B3.out)).mono ?_
        unfold ps
        rintro e w4 ⟨rfl, h4⟩
        have B4 := hid (Dg.below_tr B3.out h4); have HB4 := hid (Dg.below_tr HB3.out h4)
        clear h4 HB3 B3
        go_upto_region 11 with fail
        refine Dg.code_alloc (zs := [.int .i64 R, .int .i64 S]) ?_
        intro W5 hc hf hb5 hs
        obtain ⟨g1, hg1⟩ : ∃ g, g = w4.heap.size := ⟨_, rfl⟩
        rw [← hg1] at hc ⊢
        have B5 := hid (Dg.below_tr B4.out hb5); have HB5 := hid (Dg.below_tr HB4.out hb5); have C5 := hid hc
        clear hc hf hb5 hs hg1 HB4 B4
        go_wp2_with fail
        refine (S2.out _ (HV.out.ups B5.out)).mono ?_
        unfold ps
        rintro e w6 ⟨rfl, h6⟩
        have B6 := hid (Dg.below_tr B5.out h6); have HB6 := hid (Dg.below_tr HB5.out h6); have C6 := hid (C5.out.ups h6)
        clear h6 HB5 B5 C5
        go_upto_region 12 with fail
        refine Dg.code_alloc (zs := [.int .i64 R, .int .i64 S]) ?_
        intro W7 hc hf hb7 hs
        obtain ⟨g2, hg2⟩ : ∃ g, g = w6.heap.size := ⟨_, rfl⟩
        rw [← hg2] at hc ⊢
        have HB7 := hid (Dg.below_tr HB6.out hb7); have C7 := hid (C6.out.ups hb7); have D7 := hid hc
        clear hc hf hb7 hs hg2 HB6 B6 C6 P1 P2 S1 S2
        have a0 : W7.cell? ⟨g1, 0, none⟩ = some (.int .i64 R) := C7.out.at0 (j := 0) rfl
        have a1 : W7.cell? ⟨g1, 1, none⟩ = some (.int .i64 S) := C7.out.at0 (j := 1) rfl
        have b0 : W7.cell? ⟨g2, 0, none⟩ = some (.int .i64 R) := D7.out.at0 (j := 0) rfl
        have b1 : W7.cell? ⟨g2, 1, none⟩ = some (.int .i64 S) := D7.out.at0 (j := 1) rfl
        have q1 : (pc == pc) = true := by simp
        have q2 : (pe == pe) = true := by simp
        have q3 : (R == R) = true := by simp
        have q4 : (S == S) = true := by simp
        have q5 : (se == se) = true := by simp
        go_wp2
        go_roundw
        case rel => exact ⟨j + 1, by omega, by go_num, HB7⟩
        case measure => simp [intOf]; omega
      · have BR := hid (Dg.below_tr B2.out hb.out)
        have hd2 : decide ((j : Int) < 2) = false := by simp; omega
        clear hlt
        go_wp2
        go_ret
        exact ⟨rfl, BR.out⟩
  · have hd : decide ((1000 : Int) < (ln : Int)) = true := by simp; omega
    clear hle
    go_enter Tryd.func3, Tryd.ntmps3
    go_wp2_with fail
    refine (ssane_any _ HK.out).mono ?_
    rintro e w1 ⟨rfl, h1⟩
    have B1 := hid h1
    clear h1
    go_wp2
    go_ret
    exact ⟨rfl, B1.out⟩
end Go.Proofs.YtaoehkoffhnidaaDoor

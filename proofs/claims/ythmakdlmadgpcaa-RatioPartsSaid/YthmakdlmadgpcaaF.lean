/- Contracts of the reference: size, common, New, Check. -/
import Derived.Test.YthmakdlmadgpcaaE
namespace Go.Proofs.Ythmakdlmadgpcaa
open Go.RowKit Go
set_option linter.unusedVariables false
set_option linter.unusedSimpArgs false
theorem rsize_any (n : Int) (hn : I64 n) (w : World) :
    Calls Try.prog 28 #[.int .i64 n] w fun e w' => e = .returned (.int .u64 (n.natAbs : Int)) ∧ w = w' := by
  obtain ⟨h0, h1⟩ := hn
  rcases Int.lt_or_le n 0 with hlt | hge
  · have e2 : IntKind.u64.wrap (-IntKind.u64.wrap n) = (n.natAbs : Int) := by simp only [wrap_u64]; omega
    have E := hid e2; clear e2
    go_enter Try.func28, Try.ntmps28
    go_wp2
    go_ret
    exact ⟨ret_int E.out, rfl⟩
  · obtain ⟨k, rfl⟩ : ∃ k : Nat, n = (k : Int) := ⟨n.natAbs, by omega⟩
    go_enter Try.func28, Try.ntmps28
    go_wp2
    go_ret
    exact ⟨ret_int (by simp), rfl⟩
set_option maxRecDepth 100000 in
theorem rcommon_any (a b : Nat) (w : World) :
    Calls Try.prog 27 #[.int .u64 (a : Int), .int .u64 (b : Int)] w fun e w' => e = .returned (.int .u64 (Nat.gcd a b : Int)) ∧ ∃ n, w' = w.drewN n := by
  obtain ⟨g, hg⟩ : ∃ g, g = Nat.gcd a b := ⟨_, rfl⟩
  rw [← hg]
  have HG := hid hg.symm; clear hg
  go_enter Try.func27, Try.ntmps27
  go_wp2_with fail
  go_loopw [0, 1] (fun x y wr => ∃ (a' b' : Nat), x = .int .u64 (a' : Int) ∧ y = .int .u64 (b' : Int) ∧ Hid (Nat.gcd a' b' = g) ∧ ∃ n, wr = w.drewN n) (fun _ y _ => (RowKit.intOf y).toNat)
  case atStart => exact ⟨a, b, rfl, rfl, HG, 0, rfl⟩
  case round =>
    obtain ⟨a', b', rfl, rfl, HG', n, rfl⟩ := hrel
    by_cases h0 : b' = 0
    · subst h0
      have h1 : a' = g := by rw [← HG'.out]; simp
      have H1 := hid h1; clear h1
      go_wp2
      go_ret
      exact ⟨ret_int (by rw [H1.out]), n, rfl⟩
    · have hs := gcd_step a' b' h0
      have hm : a' % b' < b' := Nat.mod_lt _ (by omega)
      have hp : 0 < (b' : Int) := by omega
      have hb0 : (b' : Int) ≠ 0 := by omega
      have hbz : ((b' : Int) == 0) = false := by simp; omega
      have HS := hid hs; have HM := hid hm; clear hs hm
      go_wp2_with fail
      go_quiet (fail)
      go_wp2
      go_roundw
      case rel => exact ⟨b', a' % b', rfl, by simp, hid (by rw [HS.out, HG'.out]), n + nq, by simp⟩
      case measure => simp [RowKit.intOf]; have := HM.out; omega
set_option maxRecDepth 100000 in
theorem rNew_any (n d : Int) (hn : I64 n) (hd : I64 d) (w : World) :
    Calls Try.prog 13 #[.int .i64 n, .int .i64 d] w fun e w' => e = .returned (RR (nw n d)) ∧ Below w.heap.size w w' := by
  by_cases h0 : d = 0
  · subst h0
    rw [nw_zero]
    clear hn hd
    go_enter Try.func13, Try.ntmps13
    go_wp2
    exact bodyPost_ret (v := RR (0, 0, 1)) (by simp [results, Try.results13, go_sem]) rfl ⟨rfl, (Below.refl _ w).alloc (Nat.le_refl _) _⟩
  · obtain ⟨g, hg⟩ : ∃ g, g = Nat.gcd n.natAbs d.natAbs := ⟨_, rfl⟩
    have HN := hid hn; have HD := hid hd
    have hln : n.natAbs < 18446744073709551616 := by unfold I64 at hn; omega
    have hld : d.natAbs < 18446744073709551616 := by unfold I64 at hd; omega
    have HLN := hid hln; have HLD := hid hld
    clear hn hd hln hld
    go_enter Try.func13, Try.ntmps13
    go_wp2_with fail
    refine (rsize_any n HN.out _).mono ?_
    rintro e w1 ⟨rfl, hw⟩
    obtain rfl := hw
    go_wp2_with fail
    refine (rsize_any d HD.out _).mono ?_
    rintro e w1 ⟨rfl, hw⟩
    obtain rfl := hw
    go_wp2_with fail
    refine (rcommon_any _ _ _).mono ?_
    rintro e w1 ⟨rfl, nn, hw⟩
    have hb1 : Below (w.alloc (.cells #[.int .i64 0, .int .i64 0] 23)).heap.size (w.alloc (.cells #[.int .i64 0, .int .i64 0] 23)) w1 := by rw [hw]; exact below_drewN (Below.refl _ _) nn
    clear hw
    rw [← hg]
    have hg0 : 0 < g := by rw [hg]; exact Nat.gcd_pos_of_pos_right _ (by omega)
    have hB0 : Below w.heap.size w w1 := below_t ((Below.refl _ w).alloc (Nat.le_refl _) _) hb1
    obtain ⟨x0, x1, f0, f1⟩ := new2 w (.int .i64 0) (.int .i64 0) 23
    have k0 : (⟨w.heap.size, 0, none⟩ : Addr).block < (w.alloc (.cells #[.int .i64 0, .int .i64 0] 23)).heap.size := by simp
    have c0 := (hb1.cell (p := ⟨w.heap.size, 0, none⟩) k0).trans x0
    have c1 := (hb1.cell (p := ⟨w.heap.size, 1, none⟩) k0).trans x1
    have z0 := (hb1.frozen (p := ⟨w.heap.size, 0, none⟩) k0).trans f0
    have z1 := (hb1.frozen (p := ⟨w.heap.size, 1, none⟩) k0).trans f1
    clear x0 x1 f0 f1 hb1 k0
    have hq1 := u64_quo n.natAbs g HLN.out
    have hq2 := u64_quo d.natAbs g HLD.out
    have hnw := nw_eq n d g h0 hg
    obtain ⟨N, hN⟩ : ∃ N, N = n.natAbs / g := ⟨_, rfl⟩
    obtain ⟨D, hD⟩ : ∃ D, D = d.natAbs / g := ⟨_, rfl⟩
    rw [← hN] at hq1 hnw
    rw [← hD] at hq2 hnw
    have hgz : ((g : Int) == 0) = false := by simp; omega
    have hgn : (g : Int) ≠ 0 := by omega
    have hgm : ¬ g = 0 := by omega
    have HG := hid hg; have HB0 := hid hB0; have HNW := hid hnw; have HG0 := hid hg0
    clear hg hB0 hnw hg0 hN hD
    go_wp2_with fail
    refine (rsize_any n HN.out _).mono ?_
    rintro e w2 ⟨rfl, hw⟩
    obtain rfl := hw
    go_wp2_with fail
    refine (rsize_any d HD.out _).mono ?_
    rintro e w2 ⟨rfl, hw⟩
    obtain rfl := hw
    clear h0
    have HC0 := hid c0; have HC1 := hid c1
    by_cases hl : 1073741824 < N ∨ 1073741824 < D
    · have hv : nw n d = (0, 0, 2) := by rw [HNW.out, if_pos hl]
      have HV := hid hv; clear hv
      rcases Nat.lt_or_ge 1073741824 N with h1 | h1
      · clear hl
        go_wp2
        exact fin3 (p := 0) (q := 0) (e := 2) rfl HV.out HB0.out (Nat.le_refl _) HC0.out HC1.out
      · have h2 : 1073741824 < D := by omega
        clear hl
        go_wp2
        exact fin3 (p := 0) (q := 0) (e := 2) rfl HV.out HB0.out (Nat.le_refl _) HC0.out HC1.out
    · have h1 : N ≤ 1073741824 := by omega
      have h2 : D ≤ 1073741824 := by omega
      by_cases hs : decide (n < 0) = decide (d < 0)
      · have hv : nw n d = ((N : Int), (D : Int), 0) := by rw [HNW.out, if_neg hl, if_pos hs]
        have HV := hid hv; clear hv hl
        go_wp2
        exact fin3 rfl HV.out HB0.out (Nat.le_refl _) HC0.out HC1.out
      · have hv : nw n d = (-(N : Int), (D : Int), 0) := by rw [HNW.out, if_neg hl, if_neg hs]
        have HV := hid hv; clear hv hl
        have hs2 : (decide (n < 0) = true ∧ decide (d < 0) = false) ∨ (decide (n < 0) = false ∧ decide (d < 0) = true) := by
          cases h3 : decide (n < 0) <;> cases h4 : decide (d < 0) <;> simp_all
        clear hs
        rcases hs2 with ⟨h3, h4⟩ | ⟨h3, h4⟩
        · go_wp2
          exact fin3 rfl HV.out HB0.out (Nat.le_refl _) HC0.out HC1.out
        · go_wp2
          exact fin3 rfl HV.out HB0.out (Nat.le_refl _) HC0.out HC1.out
end Go.Proofs.Ythmakdlmadgpcaa

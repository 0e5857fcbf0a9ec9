/- Contracts of the first part's length and of a path's length; memory is left as it was. -/
import Derived.Test.YtaoehkoffhnidaaDoorDPure
import Derived.Test.YtaoehkoffhnidaaDoorShelf
import Derived.Test.YtaoehkoffhnidaaDoorDA
import Derived.Lib.ItoaNum
namespace Go.Proofs.YtaoehkoffhnidaaDoor.Dg
open Go.RowKit Go
set_option linter.unusedVariables false
set_option linter.unusedSimpArgs false
theorem fp_bits (n : Nat) (h : 2 ≤ n) (hn : n < 9223372036854775808) : ∃ j, Lib.bitLen (n - 1) = j + 1 ∧ j < 63 ∧ fp n = 2 ^ j := by
  have hb := Lib.bitLenAux_bounds 64 (n - 1) (by omega) (by omega)
  have hle : Lib.bitLenAux 64 (n - 1) ≤ 63 := Lib.bitLen_le (n - 1) 63 (by omega) (by omega)
  obtain ⟨h1, h2, h3⟩ := hb
  obtain ⟨j, hj⟩ : ∃ j, Lib.bitLenAux 64 (n - 1) = j + 1 := ⟨Lib.bitLenAux 64 (n - 1) - 1, by omega⟩
  rw [hj, Nat.add_sub_cancel] at h2
  rw [hj, Nat.pow_succ] at h3
  exact ⟨j, hj, by omega, fp_eq n j (by omega) (by omega)⟩
theorem pow_small (j : Nat) (h : j < 63) : (2 ^ j : Nat) < 9223372036854775808 := by
  have := Nat.pow_lt_pow_right (a := 2) (by omega) h; exact this
theorem firstPart_any (n : Nat) (w : World) (h : 2 ≤ n) (hn : n < 9223372036854775808) : Calls Tryd.prog 67 #[.int .i64 n] w fun e w' => e = .returned (.int .i64 (fp n)) ∧ w = w' := by
  obtain ⟨j, h1, h2, h3⟩ := fp_bits n h hn
  have H1 := hid h1; have H3 := hid h3
  have hp := pow_small j h2
  have HP := hid hp
  clear h1 h3 hp
  go_enter Tryd.func67, Tryd.ntmps67
  go_wp2_with fail
  refine (Tryd.bits_Len _ _ (by omega) (by omega)).mono ?_
  rintro e w' ⟨rfl, rfl⟩
  rw [show ((n : Int) - 1).toNat = n - 1 from by omega, H1.out]
  go_wp2
  go_ret
  exact ⟨ret_int (by rw [H3.out]; have hp := HP.out; have e : ((2 : Int) ^ j) = ((2 ^ j : Nat) : Int) := by (push_cast; rfl)
                     rw [e]; generalize (2 : Nat) ^ j = x at hp; unfold wrap64; omega), rfl⟩
set_option maxHeartbeats 1000000 in
theorem pathLength_any (i n : Nat) (w : World) (hi : i < n) (hn : n < 9223372036854775808) : Calls Tryd.prog 74 #[.int .i64 i, .int .i64 n] w fun e w' => e = .returned (.int .i64 (plen i n)) ∧ w = w' := by
  have hle := plen_le 63 i n (by omega)
  have HL := hid hle; clear hle
  go_enter Tryd.func74, Tryd.ntmps74
  go_wp2
  go_loopw [0, 1, 4] (fun a m t w1 => ∃ x y k : Nat, a = .int .i64 x ∧ m = .int .i64 y ∧ t = .int .i64 k ∧ x < y ∧ y ≤ n ∧ k + plen x y = plen i n ∧ w1 = w) (fun _ m _ _ => (intOf m).toNat)
  case atStart => exact ⟨i, n, 0, rfl, rfl, rfl, hi, Nat.le_refl _, by omega, rfl⟩
  case round =>
    obtain ⟨x, y, k, rfl, rfl, rfl, hx, hy, hk, rfl⟩ := hrel
    by_cases hlt : 1 < y
    · have hp := fp_pos y (by omega)
      have hl := fp_lt y (by omega)
      have hk63 : k < 64 := by have := HL.out; omega
      have HK := hid hk
      obtain ⟨f, hf⟩ : ∃ f, f = fp y := ⟨_, rfl⟩
      rw [← hf] at hp hl
      have HF := hid hf
      clear hk hf
      by_cases hxf : x < f
      · go_wp2_with fail
        refine (firstPart_any y _ (by omega) (by omega)).mono ?_
        rintro e w' ⟨rfl, rfl⟩
        rw [← HF.out]
        go_wp2
        go_roundw
        case rel => exact ⟨x, f, k + 1, rfl, rfl, by go_num, hxf, by omega, by have h := HK.out; rw [plen_lo x y (by omega) (by rw [← HF.out]; exact hxf), ← HF.out] at h; omega, trivial⟩
        case measure => simp [intOf]; omega
      · go_wp2_with fail
        refine (firstPart_any y _ (by omega) (by omega)).mono ?_
        rintro e w' ⟨rfl, rfl⟩
        rw [← HF.out]
        go_wp2
        go_roundw
        case rel => exact ⟨x - f, y - f, k + 1, by go_num, by go_num, by go_num, by omega, by omega, by have h := HK.out; rw [plen_hi x y (by omega) (by rw [← HF.out]; exact hxf), ← HF.out] at h; omega, trivial⟩
        case measure => simp [intOf]; omega
    · have h1 := hid (plen_one x y (by omega))
      have HK := hid hk; clear hk
      go_wp2
      go_ret
      exact ⟨ret_int (by have h := HK.out; rw [h1.out] at h; omega), rfl⟩
end Go.Proofs.YtaoehkoffhnidaaDoor.Dg

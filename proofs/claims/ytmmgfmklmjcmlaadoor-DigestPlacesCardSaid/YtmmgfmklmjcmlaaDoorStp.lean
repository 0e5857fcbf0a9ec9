/- Contract of counting the steps to an index: the length of its path; memory is left as it was. -/
import Derived.Test.YtmmgfmklmjcmlaaDoorDg
namespace Go.Proofs.YtmmgfmklmjcmlaaDoor
open Go.RowKit Go
set_option linter.unusedVariables false
set_option linter.unusedSimpArgs false
set_option maxRecDepth 100000 in
set_option maxHeartbeats 4000000 in
theorem steps_any (i n : Nat) (w : World) (hi : i < n) (hn : n ≤ 2199023255552) : Calls Tryd.prog 24 #[.int .i64 i, .int .i64 n] w fun e w' => e = .returned (.int .i64 (plen i n)) ∧ w = w' := by
  have hle := plen_le 63 i n (by omega)
  have HL := hid hle; clear hle
  go_enter Tryd.func24, Tryd.ntmps24
  go_wp2
  go_loopw [0, 1, 5] (fun a m t w1 => ∃ x y k : Nat, a = .int .i64 x ∧ m = .int .i64 y ∧ t = .int .i64 k ∧ x < y ∧ y ≤ n ∧ k + plen x y = plen i n ∧ w1 = w) (fun _ m _ _ => (intOf m).toNat)
  case atStart => exact ⟨i, n, 0, rfl, rfl, rfl, hi, Nat.le_refl _, by omega, rfl⟩
  case round =>
    obtain ⟨x, y, k, rfl, rfl, rfl, hx, hy, hk, rfl⟩ := hrel
    by_cases hlt : 1 < y
    · have HK := hid hk; clear hk
      go_wp2
      go_loopw [6] (fun f w1 => ∃ j m : Nat, f = .int .i64 m ∧ m = 2 ^ j ∧ m < y ∧ w1 = wr) (fun f _ => y - (intOf f).toNat)
      case atStart => exact ⟨0, 1, rfl, rfl, hlt, rfl⟩
      case round =>
        obtain ⟨j, m, rfl, hm, hmy, rfl⟩ := hrel
        have hm0 : 0 < m := by rw [hm]; exact Nat.two_pow_pos j
        have HM := hid hm; clear hm
        by_cases h2 : 2 * m < y
        · go_wp2
          go_roundw
          case rel => exact ⟨j + 1, 2 * m, by go_num, by rw [HM.out, Nat.pow_succ]; omega, h2, trivial⟩
          case measure => simp [intOf]; omega
        · have hf := hid (fp_eq y j (by rw [← HM.out]; exact hmy) (by rw [← HM.out]; omega))
          have hk63 : k < 64 := by have := HL.out; have := HK.out; omega
          by_cases hxf : x < m
          · go_wp2
            go_roundw
            case rel => exact ⟨x, m, k + 1, rfl, rfl, by go_num, hxf, by omega, by have h := HK.out; rw [plen_lo x y (by omega) (by rw [hf.out, ← HM.out]; exact hxf), hf.out, ← HM.out] at h; omega, trivial⟩
            case measure => simp [intOf]; omega
          · go_wp2
            go_roundw
            case rel => exact ⟨x - m, y - m, k + 1, by go_num, by go_num, by go_num, by omega, by omega, by have h := HK.out; rw [plen_hi x y (by omega) (by rw [hf.out, ← HM.out]; exact hxf), hf.out, ← HM.out] at h; omega, trivial⟩
            case measure => simp [intOf]; omega
    · have h1 := hid (plen_one x y (by omega))
      have HK := hid hk; clear hk
      go_wp2
      go_ret
      exact ⟨ret_int (by have h := HK.out; rw [h1.out] at h; omega), rfl⟩
end Go.Proofs.YtmmgfmklmjcmlaaDoor

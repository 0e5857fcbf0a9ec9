/- The reference of layer 2: the first part's length, a path's length. -/
import Derived.Test.YtaoehkoffhnidaaDoorDK
namespace Go.Proofs.YtaoehkoffhnidaaDoor.Dg
open Go.RowKit Go
set_option linter.unusedVariables false
set_option maxRecDepth 20000
set_option linter.unusedSimpArgs false
set_option maxRecDepth 100000 in
theorem half_any (n f : Nat) (w : World) (h : 2 ≤ n) (hn : n ≤ 4398046511104) (hf : Hid (fp n = f)) : Calls Tryd.prog 70 #[.int .i64 n] w fun e w' => e = .returned (.int .i64 f) ∧ w = w' := by
  go_enter Tryd.func70, Tryd.ntmps70
  go_wp2
  go_loopw [3] (fun s w1 => ∃ k : Nat, Hid (∃ j, k = 2 ^ j) ∧ 0 < k ∧ k < n ∧ s = .int .i64 k ∧ w1 = w) (fun s _ => n - (intOf s).toNat)
  case atStart => exact ⟨1, hid ⟨0, rfl⟩, by omega, by omega, rfl, rfl⟩
  case round =>
    obtain ⟨k, hj, h0, hk, rfl, rfl⟩ := hrel
    by_cases hlt : 2 * k < n
    · go_wp2
      go_roundw
      case rel => exact ⟨2 * k, hid (by obtain ⟨j, hj⟩ := hj.out; exact ⟨j + 1, by rw [hj, Nat.pow_succ]; omega⟩), by omega, hlt, by go_num, trivial⟩
      case measure => simp [intOf]; omega
    · have he : k = f := by
        obtain ⟨j, hj⟩ := hj.out
        have := fp_eq n j (by omega) (by omega)
        rw [← hf.out, this, hj]
      go_wp2
      go_ret
      exact ⟨ret_int (by rw [he]), rfl⟩
set_option maxRecDepth 100000 in
theorem rlength_any (N : Nat) : ∀ (n i : Nat) (w : World), n ≤ N → 1 ≤ n → n ≤ 4398046511104 → i < n → Calls Tryd.prog 76 #[.int .i64 i, .int .i64 n] w fun e w' => e = .returned (.int .i64 (plen i n)) ∧ w = w' := by
  induction N with
  | zero => intro n i w h1 h2; omega
  | succ N ih =>
    intro n i w hN h1 hn hi
    by_cases h2 : 2 ≤ n
    · obtain ⟨f, hf⟩ : ∃ f, fp n = f := ⟨_, rfl⟩
      have hl := fp_lt n h2; have hp := fp_pos n h2
      rw [hf] at hl hp
      have hle := plen_le 63 i n (by omega)
      have HF := hid hf
      obtain ⟨L, hL⟩ : ∃ L, plen i n = L := ⟨_, rfl⟩
      rw [hL] at hle ⊢
      have HL := hid hL
      have hd1 : ((n : Int) == 1) = false := by simp; omega
      clear hf hL
      by_cases hlo : i < f
      · have C := hid (ih f i w (by omega) (by omega) (by omega) hlo)
        have hpl := plen_lo i n h2 (by rw [HF.out]; exact hlo)
        rw [HL.out, HF.out] at hpl
        have HPL := hid hpl
        clear ih hpl
        go_enter Tryd.func76, Tryd.ntmps76
        go_wp2_with fail
        refine (half_any n f _ h2 hn HF).mono ?_
        rintro e u ⟨rfl, rfl⟩
        go_wp2_with fail
        refine C.out.mono ?_
        rintro e u ⟨rfl, rfl⟩
        obtain ⟨M, hM⟩ : ∃ M, plen i f = M := ⟨_, rfl⟩
        rw [hM] at HPL ⊢
        have hLM : L = M + 1 := HPL.out
        clear hM HPL
        go_wp2
        go_ret
        exact ⟨ret_int (by omega), rfl⟩
      · have C := hid (ih (n - f) (i - f) w (by omega) (by omega) (by omega) (by omega))
        have hpl := plen_hi i n h2 (by rw [HF.out]; exact hlo)
        rw [HL.out, HF.out] at hpl
        have HPL := hid hpl
        have e1 : IntKind.i64.wrap ((i : Int) - f) = ((i - f : Nat) : Int) := by rw [IntWalk.i64_in _ (by omega)]; omega
        have e2 : IntKind.i64.wrap ((n : Int) - f) = ((n - f : Nat) : Int) := by rw [IntWalk.i64_in _ (by omega)]; omega
        clear ih hpl
        go_enter Tryd.func76, Tryd.ntmps76
        go_wp2_with fail
        refine (half_any n f _ h2 hn HF).mono ?_
        rintro e u ⟨rfl, rfl⟩
        go_wp2_with fail
        refine C.out.mono ?_
        rintro e u ⟨rfl, rfl⟩
        obtain ⟨M, hM⟩ : ∃ M, plen (i - f) (n - f) = M := ⟨_, rfl⟩
        rw [hM] at HPL ⊢
        have hLM : L = M + 1 := HPL.out
        clear hM HPL e1 e2
        go_wp2
        go_ret
        exact ⟨ret_int (by omega), rfl⟩
    · obtain rfl : n = 1 := by omega
      have h0 := hid (plen_one i 1 (by omega))
      clear ih
      rw [h0.out]
      go_enter Tryd.func76, Tryd.ntmps76
      go_wp2
      go_ret
      exact ⟨rfl, rfl⟩
end Go.Proofs.YtaoehkoffhnidaaDoor.Dg

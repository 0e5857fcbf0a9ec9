/- Contracts of the rotations: what each returns for every number; memory is left as it was. -/
import Derived.Test.YtilnecckgjjcgaaDoorProg
import Derived.Test.YtilnecckgjjcgaaDoorDBits
import Derived.Test.YtilnecckgjjcgaaDoorDMem
namespace Go.Proofs.YtilnecckgjjcgaaDoor.Dg
open Go.RowKit Go
set_option linter.unusedVariables false
set_option linter.unusedSimpArgs false
theorem ret_int {k : IntKind} {a b : Int} (h : a = b) : Ending.returned (.int k a) = .returned (.int k b) := by rw [h]
theorem rot_any (x : BitVec 32) (n : Int) (w : World) (h0 : 0 < n) (h1 : n < 32) : Calls Tryd.prog 82 #[.int .u32 x.toNat, .int .i64 (-n)] w fun e w' => e = .returned (.int .u32 (rr x n.toNat).toNat) ∧ w = w' := by
  obtain ⟨n, rfl⟩ := Int.eq_ofNat_of_zero_le (by omega : 0 ≤ n)
  have hk := neg_31 n (by omega) (by omega)
  have hs : IntKind.u64.wrap (32 - ((32 - n : Nat) : Int)) = (n : Int) := by rw [wrap_u64']; omega
  obtain ⟨m, hm⟩ : ∃ m, m = 32 - n := ⟨_, rfl⟩
  rw [← hm] at hk hs
  have hr := hid (rr_eq x n m hm.symm (by omega))
  clear hm
  go_enter Tryd.func82, Tryd.ntmps82
  go_wp2
  go_ret
  exact ⟨ret_int hr.out, rfl⟩
theorem ror_any (x : BitVec 32) (n : Int) (w : World) (h0 : 0 < n) (h1 : n < 32) : Calls Tryd.prog 77 #[.int .u32 x.toNat, .int .i64 n] w fun e w' => e = .returned (.int .u32 (rr x n.toNat).toNat) ∧ w = w' := by
  go_enter Tryd.func77, Tryd.ntmps77
  go_wp2_with fail
  refine (rot_any _ _ _ h0 h1).mono ?_
  rintro e w' ⟨rfl, rfl⟩
  go_wp2
  go_ret
  exact ⟨rfl, rfl⟩
theorem rots_any (x : BitVec 32) (a b c : Int) (w : World) (h0 : 0 < a) (h1 : a < 32) (h2 : 0 < b) (h3 : b < 32) (h4 : 0 < c) (h5 : c < 32) : Calls Tryd.prog 68 #[.int .u32 x.toNat, .int .i64 a, .int .i64 b, .int .i64 c] w fun e w' => e = .returned (.int .u32 (r3 x a.toNat b.toNat c.toNat).toNat) ∧ w = w' := by
  go_enter Tryd.func68, Tryd.ntmps68
  go_wp2_with fail
  refine (ror_any _ _ _ h0 h1).mono ?_
  rintro e w' ⟨rfl, rfl⟩
  go_wp2_with fail
  refine (ror_any _ _ _ h2 h3).mono ?_
  rintro e w' ⟨rfl, rfl⟩
  go_wp2_with fail
  refine (ror_any _ _ _ h4 h5).mono ?_
  rintro e w' ⟨rfl, rfl⟩
  go_wp2
  go_ret
  exact ⟨ret_int (by rw [xor32, xor32]; rfl), rfl⟩
end Go.Proofs.YtilnecckgjjcgaaDoor.Dg

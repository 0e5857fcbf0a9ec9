/- Contracts of the rotations: what each returns for every number; memory is left as it was. -/
import Derived.Test.YtaoehkoffhnidaaDoorProg
import Derived.Test.YtaoehkoffhnidaaDoorDBits
import Derived.Test.YtaoehkoffhnidaaDoorDMem
namespace Go.Proofs.YtaoehkoffhnidaaDoor.Dg
open Go.RowKit Go
set_option linter.unusedVariables false
set_option linter.unusedSimpArgs false
theorem ret_int {k : IntKind} {a b : Int} (h : a = b) : Ending.returned (.int k a) = .returned (.int k b) := by rw [h]
theorem rot_any (x : BitVec 32) (n : Int) (w : World) (h0 : 0 < n) (h1 : n < 32) : Calls Tryd.prog 110 #[.int .u32 x.toNat, .int .i64 (-n)] w fun e w' => e = .returned (.int .u32 (rr x n.toNat).toNat) ∧ w = w' := by
  obtain ⟨n, rfl⟩ := Int.eq_ofNat_of_zero_le (by omega : 0 ≤ n)
  have hk := neg_31 n (by omega) (by omega)
  have hs : IntKind.u64.wrap (32 - ((32 - n : Nat) : Int)) = (n : Int) := by rw [wrap_u64']; omega
  obtain ⟨m, hm⟩ : ∃ m, m = 32 - n := ⟨_, rfl⟩
  rw [← hm] at hk hs
  have hr := hid (rr_eq x n m hm.symm (by omega))
  clear hm
  go_enter Tryd.func110, Tryd.ntmps110
  go_wp2
  go_ret
  exact ⟨ret_int hr.out, rfl⟩
theorem ror_any (x : BitVec 32) (n : Int) (w : World) (h0 : 0 < n) (h1 : n < 32) : Calls Tryd.prog 106 #[.int .u32 x.toNat, .int .i64 n] w fun e w' => e = .returned (.int .u32 (rr x n.toNat).toNat) ∧ w = w' := by
  go_enter Tryd.func106, Tryd.ntmps106
  go_wp2_with fail
  refine (rot_any _ _ _ h0 h1).mono ?_
  rintro e w' ⟨rfl, rfl⟩
  go_wp2
  go_ret
  exact ⟨rfl, rfl⟩
theorem rots_any (x : BitVec 32) (a b c : Int) (w : World) (h0 : 0 < a) (h1 : a < 32) (h2 : 0 < b) (h3 : b < 32) (h4 : 0 < c) (h5 : c < 32) : Calls Tryd.prog 100 #[.int .u32 x.toNat, .int .i64 a, .int .i64 b, .int .i64 c] w fun e w' => e = .returned (.int .u32 (r3 x a.toNat b.toNat c.toNat).toNat) ∧ w = w' := by
  go_enter Tryd.func100, Tryd.ntmps100
  go_wp2_with fail
  refine (ror_any _ _ _ h0 h1).mono ?_
  rintro e w' ⟨rfl, rfl⟩
  go_wp2_with fail
  refine (ror_any _ _ _ h2 h3).mono ?_
  rintro e w' ⟨rfl, rfl⟩
  go_wp2_with fail
  refine (ror_any _ _ _ h4 h5).mono ?_
  rintro e w' ⟨rfl, rfl⟩
  go_wp2
  go_ret
  exact ⟨ret_int (by rw [xor32, xor32]; rfl), rfl⟩
end Go.Proofs.YtaoehkoffhnidaaDoor.Dg
namespace Go.Proofs.YtaoehkoffhnidaaDoor.Dg
open Go.RowKit Go
set_option linter.unusedVariables false
set_option linter.unusedSimpArgs false
def wp (l : List UInt8) : Nat → BitVec 32
  | 0 => 0
  | n + 1 => wp l n <<< 8 ||| BitVec.ofNat 32 (l.getD n 0).toNat
theorem wp_step (x : BitVec 32) (c : UInt8) : bits BinOp.or IntKind.u32 ((x.toNat : Int) * 256 % 4294967296) ((c.toNat : Int) % 4294967296) = ((x <<< 8 ||| BitVec.ofNat 32 c.toNat).toNat : Int) := by
  have hc := c.toNat_lt
  rw [show (256 : Int) = 2 ^ 8 from rfl, shl32, show ((c.toNat : Int) % 4294967296) = ((BitVec.ofNat 32 c.toNat).toNat : Int) from by rw [BitVec.toNat_ofNat]; omega, or32]
theorem shl8_or (x : BitVec 32) (c : UInt8) : (x <<< 8 ||| BitVec.ofNat 32 c.toNat).toNat = (x.toNat * 256) % 4294967296 + c.toNat := by
  have hc := c.toNat_lt
  rw [BitVec.toNat_or, BitVec.toNat_shiftLeft, BitVec.toNat_ofNat, Nat.mod_eq_of_lt (by omega : c.toNat < 2 ^ 32), Nat.shiftLeft_eq, nat_join 8 _ _ (by omega) (by omega)]
theorem wp_wd (l : List UInt8) : wp l 4 = wd l := by
  apply BitVec.eq_of_toNat_eq
  have h0 := (l.getD 0 0).toNat_lt; have h1 := (l.getD 1 0).toNat_lt; have h2 := (l.getD 2 0).toNat_lt; have h3 := (l.getD 3 0).toNat_lt
  simp only [wp, shl8_or, wd, BitVec.toNat_ofNat]
  omega
theorem byte_cell {w : World} {a : Addr} {l : List UInt8} (hc : Cells w a (l.map vb)) {k : Nat} (h : k < l.length) : w.cell? (a.add k) = some (.int .u8 ((l[k]?.getD 0).toNat : Int)) :=
  hc k _ (by simp [vb, List.getElem?_map, List.getElem?_eq_getElem h])
theorem word_any (l : List UInt8) (a : Addr) (len cap : Nat) (w : World) (hc : Cells w a (l.map vb)) (hl : 4 ≤ l.length) (hn : 4 ≤ len) (hm : len ≤ maxLen) :
   Calls Tryd.prog 105 #[.slice (some a) len cap] w fun e w' => e = .returned (.int .u32 (wd l).toNat) ∧ w = w' := by
  unfold maxLen at hm
  go_enter Tryd.func105, Tryd.ntmps105
  go_wp2
  go_loop [2, 4] (fun v i => ∃ k : Nat, k ≤ 4 ∧ i = .int .i64 k ∧ v = .int .u32 (wp l k).toNat) (fun _ i => 4 - (intOf i).toNat)
  case atStart => exact ⟨0, by omega, rfl, rfl⟩
  case round =>
    obtain ⟨k, hk, rfl, rfl⟩ := hrel
    by_cases hlt : k < 4
    · have hce := byte_cell hc (k := k) (by omega)
      go_wp2
      go_round
      case rel => exact ⟨k + 1, by omega, by go_num, by rw [wp_step, wp]; simp⟩
      case measure => simp [intOf]; omega
    · go_wp2
      go_ret
      obtain rfl : k = 4 := by omega
      exact ⟨ret_int (by rw [wp_wd]), rfl⟩
end Go.Proofs.YtaoehkoffhnidaaDoor.Dg

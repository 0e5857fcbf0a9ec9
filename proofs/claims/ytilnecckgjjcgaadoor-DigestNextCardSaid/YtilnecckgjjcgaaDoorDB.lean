/- Contract of reading four bytes as a word: the number of the first four bytes; memory is left as it was. -/
import Derived.Test.YtilnecckgjjcgaaDoorDA
namespace Go.Proofs.YtilnecckgjjcgaaDoor.Dg
open Go.RowKit Go
set_option linter.unusedVariables false
set_option linter.unusedSimpArgs false
def wp (l : List UInt8) : Nat → BitVec 32
  | 0 => 0
  | n + 1 => wp l n <<< 8 ||| BitVec.ofNat 32 (l.getD n 0).toNat
theorem wp_step (x : BitVec 32) (c : UInt8) : bits BinOp.or IntKind.u32 ((x.toNat : Int) * 256 % 4294967296) ((c.toNat : Int) % 4294967296) = ((x <<< 8 ||| BitVec.ofNat 32 c.toNat).toNat : Int) := by
  have hc := c.toNat_lt
  rw [show (256 : Int) = 2 ^ 8 from rfl, shl32, show ((c.toNat : Int) % 4294967296) = ((BitVec.ofNat 32 c.toNat).toNat : Int) from by rw [BitVec.toNat_ofNat]; omega, or32]
theorem shl8_or (x : BitVec 32) (c : UInt8) : (x <<< 8 ||| BitVec.ofNat 32 c.toNat).toNat = (x.toNat * 256) % 4294967296 + c.toNat := by
  have hc := c.toNat_lt
  rw [BitVec.toNat_or, BitVec.toNat_shiftLeft, BitVec.toNat_ofNat, Nat.mod_eq_of_lt (by omega : c.toNat < 2 ^ 32), Nat.shiftLeft_eq, nat_join 8 _ _ (by omega) (by omega)]
theorem wp_wd (l : List UInt8) : wp l 4 = wd l := by
  apply BitVec.eq_of_toNat_eq
  have h0 := (l.getD 0 0).toNat_lt; have h1 := (l.getD 1 0).toNat_lt; have h2 := (l.getD 2 0).toNat_lt; have h3 := (l.getD 3 0).toNat_lt
  simp only [wp, shl8_or, wd, BitVec.toNat_ofNat]
  omega
theorem byte_cell {w : World} {a : Addr} {l : List UInt8} (hc : Cells w a (l.map vb)) {k : Nat} (h : k < l.length) : w.cell? (a.add k) = some (.int .u8 ((l[k]?.getD 0).toNat : Int)) :=
  hc k _ (by simp [vb, List.getElem?_map, List.getElem?_eq_getElem h])
theorem word_any (l : List UInt8) (a : Addr) (len cap : Nat) (w : World) (hc : Cells w a (l.map vb)) (hl : 4 ≤ l.length) (hn : 4 ≤ len) (hm : len ≤ maxLen) :
   Calls Tryd.prog 76 #[.slice (some a) len cap] w fun e w' => e = .returned (.int .u32 (wd l).toNat) ∧ w = w' := by
  unfold maxLen at hm
  go_enter Tryd.func76, Tryd.ntmps76
  go_wp2
  go_loop [2, 4] (fun v i => ∃ k : Nat, k ≤ 4 ∧ i = .int .i64 k ∧ v = .int .u32 (wp l k).toNat) (fun _ i => 4 - (intOf i).toNat)
  case atStart => exact ⟨0, by omega, rfl, rfl⟩
  case round =>
    obtain ⟨k, hk, rfl, rfl⟩ := hrel
    by_cases hlt : k < 4
    · have hce := byte_cell hc (k := k) (by omega)
      go_wp2
      go_round
      case rel => exact ⟨k + 1, by omega, by go_num, by rw [wp_step, wp]; simp⟩
      case measure => simp [intOf]; omega
    · go_wp2
      go_ret
      obtain rfl : k = 4 := by omega
      exact ⟨ret_int (by rw [wp_wd]), rfl⟩
end Go.Proofs.YtilnecckgjjcgaaDoor.Dg

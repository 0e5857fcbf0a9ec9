/- The reference of layer 2: rotations, words, the numbers K. -/
import Derived.Test.YtaoehkoffhnidaaDoorDI
namespace Go.Proofs.YtaoehkoffhnidaaDoor.Dg
open Go.RowKit Go
set_option linter.unusedVariables false
set_option maxRecDepth 20000
set_option linter.unusedSimpArgs false
theorem rr_eq2 (x : BitVec 32) (n : Nat) : bits BinOp.or IntKind.u32 ((x.toNat : Int) / 2 ^ n) ((x.toNat : Int) * 2 ^ (32 - n) % 4294967296) = ((rr x n).toNat : Int) := by
  rw [shr32, shl32, or32]; rfl
set_option maxRecDepth 100000 in
theorem rror_any (x : BitVec 32) (n : Int) (w : World) (h0 : 0 < n) (h1 : n < 32) : Calls Tryd.prog 108 #[.int .u32 x.toNat, .int .i64 n] w fun e w' => e = .returned (.int .u32 (rr x n.toNat).toNat) ∧ ∃ q, w' = w.drewN q := by
  obtain ⟨n, rfl⟩ := Int.eq_ofNat_of_zero_le (by omega : 0 ≤ n)
  have hs : IntKind.i64.wrap (32 - (n : Int)) = ((32 - n : Nat) : Int) := by rw [IntWalk.i64_in _ (by omega)]; omega
  go_enter Tryd.func108, Tryd.ntmps108
  go_wp2_with fail
  go_quiet (fail)
  go_wp2
  go_ret
  exact ⟨ret_int (by rw [rr_eq2]; rfl), nq, rfl⟩
theorem or4 (a b c d : UInt8) : bits .or .u32 (bits .or .u32 (bits .or .u32 ((a.toNat : Int) * 16777216) ((b.toNat : Int) * 65536)) ((c.toNat : Int) * 256)) (d.toNat : Int) = ((a.toNat * 16777216 + b.toNat * 65536 + c.toNat * 256 + d.toNat : Nat) : Int) := by
  have h0 := a.toNat_lt; have h1 := b.toNat_lt; have h2 := c.toNat_lt; have h3 := d.toNat_lt
  have hk : ∀ n : Int, 0 ≤ n → n < 2 ^ 32 → IntKind.u32.wrap n = n := fun n p q => by
    rw [IntKind.wrap_u32]; omega
  rw [bits_join .u32 32 (by decide) hk 24 ((a.toNat : Int) * 16777216) ((b.toNat : Int) * 65536) (by omega) (by omega) (by omega) (by omega) (by omega) (by omega)]
  rw [bits_join .u32 32 (by decide) hk 16 ((a.toNat : Int) * 16777216 + (b.toNat : Int) * 65536) ((c.toNat : Int) * 256) (by omega) (by omega) (by omega) (by omega) (by omega) (by omega)]
  rw [bits_join .u32 32 (by decide) hk 8 ((a.toNat : Int) * 16777216 + (b.toNat : Int) * 65536 + (c.toNat : Int) * 256) (d.toNat : Int) (by omega) (by omega) (by omega) (by omega) (by omega) (by omega)]
  omega
set_option maxRecDepth 100000 in
theorem rword_any (l : List UInt8) (a : Addr) (len cap : Nat) (w : World) (hc : Cells w a (l.map vb)) (hl : 4 ≤ l.length) (hn : 4 ≤ len) (hm : len ≤ maxLen) :
   Calls Tryd.prog 107 #[.slice (some a) len cap] w fun e w' => e = .returned (.int .u32 (wd l).toNat) ∧ ∃ q, w' = w.drewN q := by
  unfold maxLen at hm
  have c0 := byte_cell hc (k := 0) (by omega)
  rw [show a.add 0 = a by simp [Addr.add]] at c0
  have c1 := byte_cell hc (k := 1) (by omega)
  rw [show a.add 1 = ⟨a.block, a.off + 1, none⟩ by simp [Addr.add]] at c1
  have c2 := byte_cell hc (k := 2) (by omega)
  rw [show a.add 2 = ⟨a.block, a.off + 2, none⟩ by simp [Addr.add]] at c2
  have c3 := byte_cell hc (k := 3) (by omega)
  rw [show a.add 3 = ⟨a.block, a.off + 3, none⟩ by simp [Addr.add]] at c3
  obtain ⟨x0, k0⟩ : ∃ x, x = l[0]?.getD 0 := ⟨_, rfl⟩
  obtain ⟨x1, k1⟩ : ∃ x, x = l[1]?.getD 0 := ⟨_, rfl⟩
  obtain ⟨x2, k2⟩ : ∃ x, x = l[2]?.getD 0 := ⟨_, rfl⟩
  obtain ⟨x3, k3⟩ : ∃ x, x = l[3]?.getD 0 := ⟨_, rfl⟩
  rw [← k0] at c0; rw [← k1] at c1; rw [← k2] at c2; rw [← k3] at c3
  have hw : ((x0.toNat * 16777216 + x1.toNat * 65536 + x2.toNat * 256 + x3.toNat : Nat) : Int) = ((wd l).toNat : Int) := by
    have h0 := x0.toNat_lt; have h1 := x1.toNat_lt; have h2 := x2.toNat_lt; have h3 := x3.toNat_lt
    simp only [wd, BitVec.toNat_ofNat, List.getD_eq_getElem?_getD, ← k0, ← k1, ← k2, ← k3]
    omega
  have HW := hid hw
  clear hw k0 k1 k2 k3 hc
  have h0 := x0.toNat_lt; have h1 := x1.toNat_lt; have h2 := x2.toNat_lt; have h3 := x3.toNat_lt
  have n0 : 0 < len := by omega
  have m1 : (1 : Int) < (len : Int) := by omega
  have m2 : (2 : Int) < (len : Int) := by omega
  have m3 : (3 : Int) < (len : Int) := by omega
  go_enter Tryd.func107, Tryd.ntmps107
  go_wp2_with fail
  go_quiet (fail)
  go_wp2_with fail
  go_ret
  exact ⟨ret_int (by rw [or4]; exact HW.out), nq, rfl⟩
end Go.Proofs.YtaoehkoffhnidaaDoor.Dg
namespace Go.Proofs.YtaoehkoffhnidaaDoor.Dg
open Go.RowKit Go
set_option linter.unusedVariables false
set_option maxRecDepth 20000
set_option linter.unusedSimpArgs false
def Kv : List Value := Kn.map fun k : Nat => .int .u32 (k : Int)
set_option maxRecDepth 100000 in
set_option maxHeartbeats 2000000 in
theorem numbers_any (w : World) : Calls Tryd.prog 109 #[] w fun e w' => e = .returned (.agg Kv.toArray) ∧ Below w.heap.size w w' := by
  go_enter Tryd.func109, Tryd.ntmps109
  go_upto_region 1 with fail
  refine code_alloc ?_
  intro W hc hf hb hs
  have hlen : Kv.length = 64 := by decide
  have hone : Kv.toArray.all (·.oneCell') = true := all_oneCell_toArray (fun v hv => by unfold Kv at hv; obtain ⟨x, _, rfl⟩ := List.mem_map.1 hv; rfl)
  have hz : Kv.toArray.size = 64 := by rw [List.size_toArray, hlen]
  have hth : W.there w.heap.size 0 Kv.toArray.size := by rw [hz]; exact hc.there hf
  have hinf : (Tryd.prog.info? 98).map (·.size) = some Kv.toArray.size := by rw [hz, ← hlen]; exact info65 hlen
  have hsame : Cells (W.setCells w.heap.size 0 Kv) ⟨w.heap.size, 0, none⟩ Kv := range_cells (World.rangeAt_setCells_same W w.heap.size 0 Kv (by rw [hlen]; exact hc.there hf))
  have HS := hid hsame; have HB := hid (setCells_below w.heap.size (Nat.le_refl _) Kv 0 W hb); have HI := hid (info65 hlen)
  clear hc hf hb hs hsame hlen hz
  go_wp2_with (refine wpList_store_mid rfl 98 (.tmp 0) (.tmp 1) rfl w.heap.size 0 Kv.toArray rfl rfl hth hinf hone ?_)
  exact bodyPost_ret (v := .agg Kv.toArray) (results_cell_mid Tryd.results109 _ _ w.heap.size Kv _ (by simp only [Array.getD]; rfl) HS.out.range Tryd.underlying98 rfl HI.out) rfl ⟨rfl, HB.out⟩
end Go.Proofs.YtaoehkoffhnidaaDoor.Dg

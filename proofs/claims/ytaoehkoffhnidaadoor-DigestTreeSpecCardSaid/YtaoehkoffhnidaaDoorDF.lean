/- Contract of writing the state as a digest: its 32 bytes, in new memory. -/
import Derived.Test.YtaoehkoffhnidaaDoorDE
namespace Go.Proofs.YtaoehkoffhnidaaDoor.Dg
open Go.RowKit Go
set_option linter.unusedVariables false
set_option linter.unusedSimpArgs false
@[irreducible] def IsV (l : List UInt8) (vs : List Value) : Prop := vs = l.map vb
theorem isV_of (l : List UInt8) : ∃ vs, IsV l vs := ⟨l.map vb, by unfold IsV; rfl⟩
theorem isV_eq {l : List UInt8} {vs : List Value} (h : IsV l vs) : vs = l.map vb := by unfold IsV at h; exact h
/-- the digest of which the first k bytes have been written -/
def outs (s : St) (k : Nat) : List UInt8 := (out s).take k ++ List.replicate (32 - k) 0
theorem outs_length (s : St) (k : Nat) (h : k ≤ 32) : (outs s k).length = 32 := by simp [outs, out_length]; omega
theorem outs_set (s : St) (k : Nat) (h : k < 32) : (outs s k).set k (byteAt s.list k) = outs s (k + 1) := by
  have hw := out_length s
  unfold outs
  rw [show 32 - k = (32 - (k + 1)) + 1 from by omega, List.replicate_succ, List.set_append_right _ _ (by simp; omega)]
  rw [List.take_succ_eq_append_getElem (by omega)]
  simp [hw, out, Nat.min_eq_left (Nat.le_of_lt h)]
theorem outs_all (s : St) : outs s 32 = out s := by simp [outs, List.take_of_length_le (Nat.le_of_eq (out_length s))]
theorem st_get (s : St) (j : Nat) (h : j < 8) : (Kc s)[j]? = some (.int .u32 (s.list.getD j 0).toNat) := by
  rcases (by omega : j = 0 ∨ j = 1 ∨ j = 2 ∨ j = 3 ∨ j = 4 ∨ j = 5 ∨ j = 6 ∨ j = 7) with rfl | rfl | rfl | rfl | rfl | rfl | rfl | rfl <;> rfl
set_option maxRecDepth 100000 in
set_option maxHeartbeats 4000000 in
theorem digest_any (s : St) (gs : Nat) (w : World) (hs : Cells w ⟨gs, 0, none⟩ (Kc s)) :
   Calls Tryd.prog 92 #[.pointer (some ⟨gs, 0, none⟩)] w fun e w' => e = .returned (.agg ((out s).map vb).toArray) ∧ Below w.heap.size w w' := by
  obtain ⟨g, hg⟩ : ∃ g, g = w.heap.size := ⟨_, rfl⟩
  have HGS := hid (show gs < g from by rw [hg]; exact hs.lt (by unfold Kc St.list; simp))
  have HG := hid hg; have HS := hid hs; clear hg hs
  have hgg : w.heap.size ≤ g := by rw [HG.out]; omega
  go_enter Tryd.func92, Tryd.ntmps92
  go_wp2
  rw [← HG.out]
  go_loopw [4] (fun i w1 => ∃ k : Nat, k ≤ 32 ∧ i = .int .i64 k ∧ Cells w1 ⟨g, 0, none⟩ ((outs s k).map vb) ∧ Below w.heap.size w w1 ∧ Free w1 g) (fun i _ => 32 - (intOf i).toNat)
  case atStart => exact ⟨0, by omega, rfl, by have := cells_alloc w ((outs s 0).map vb) 35; rw [← HG.out] at this; exact this, below_al _ _, by have := free_alloc w ((outs s 0).map vb).toArray 35; rw [← HG.out] at this; exact this⟩
  case round =>
    obtain ⟨k, hk, rfl, hcs, hb, hfr⟩ := hrel
    by_cases hlt : k < 32
    · obtain ⟨x, hx⟩ : ∃ x, x = s.list.getD (k / 4) 0 := ⟨_, rfl⟩
      have cs : wr.cell? ⟨gs, k / 4, none⟩ = some (.int .u32 x.toNat) := by rw [hx]; exact (HS.out.up hb (by rw [← HG.out]; exact HGS.out)).at0 (st_get s (k / 4) (by omega))
      obtain ⟨x1, hx1⟩ := byte_there hcs (j := k) (by rw [outs_length s k hk]; omega)
      have hfx := hfr k
      have HX := hid hx; have HCS := hid hcs; have HFR := hid hfr; have HB := hid hb
      clear hx hcs hfr hb
      go_wp2
      go_roundw
      case rel => exact ⟨k + 1, by omega, by go_num, by rw [← outs_set s k hlt]; exact byte_put HCS.out (by rw [byteAt, byte_ofNat, ← HX.out, Nat.shiftRight_eq_div_pow]; push_cast; rfl), HB.out.setCell hgg _, HFR.out.set _ _⟩
      case measure => simp [intOf]; omega
    · have hk32 := hid (show k = 32 by omega)
      rw [show k = 32 from by omega, outs_all] at hcs
      have hlen : ((out s).map vb).length = 32 := by rw [List.length_map, out_length]
      have h1 : ((out s).map vb).toArray.all (·.oneCell') = true := all_oneCell_toArray (one_vb _)
      have hst := store_cells (P := Tryd.prog) hcs hcs hfr h1 rfl
      have hsame := hid (range_cells (World.rangeAt_setCells_same wr g 0 ((out s).map vb) (hcs.there hfr)))
      have hinf : (Tryd.prog.info? 35).map (·.size) = some ((out s).map vb).length := by rw [hlen]; kernel_rfl
      obtain ⟨vs, hvs⟩ := isV_of (out s)
      rw [← isV_eq hvs] at hst hsame hcs hlen hinf
      have HCS := hid hcs; have HFR := hid hfr; have HB := hid hb
      clear hcs hfr hb h1
      go_wp2_with (refine wpList_load_mid rfl 35 (.tmp 2) rfl g 0 rfl vs _ HCS.out.range Tryd.underlying35 rfl hinf ?_)
      exact bodyPost_ret (v := .agg vs.toArray) (results_cell_mid Tryd.results92 _ _ g vs _ (by simp only [Array.getD]; rfl) hsame.out.range Tryd.underlying35 rfl hinf) rfl ⟨by rw [isV_eq hvs], setCells_below g hgg vs 0 wr HB.out⟩
end Go.Proofs.YtaoehkoffhnidaaDoor.Dg

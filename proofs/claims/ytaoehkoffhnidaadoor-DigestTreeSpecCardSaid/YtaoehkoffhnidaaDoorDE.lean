/- Contracts of the beginning, of a block of bytes and of the padded end: the end is that of the padded bytes, in new memory. -/
import Derived.Test.YtaoehkoffhnidaaDoorDPad
import Derived.Test.YtaoehkoffhnidaaDoorDA
namespace Go.Proofs.YtaoehkoffhnidaaDoor.Dg
open Go.RowKit Go
set_option linter.unusedVariables false
set_option linter.unusedSimpArgs false
theorem begin_any (w : World) : Calls Tryd.prog 88 #[] w fun e w' => e = .returned (.agg (Kc st0).toArray) ∧ Below w.heap.size w w' := by
  go_enter Tryd.func88, Tryd.ntmps88
  go_wp2
  exact bodyPost_ret (v := .agg (Kc st0).toArray) (by simp [results, Tryd.results88, go_sem]; rfl) rfl ⟨rfl, below_al _ _⟩
theorem slice_len {p : Option Addr} {n m c : Nat} (h : n = m) : Ending.returned (.slice p n c) = .returned (.slice p m c) := by rw [h]
theorem blockAt_any (a : Addr) (len cap : Nat) (i : Int) (w : World) (h0 : 0 ≤ i) (h1 : (i + 1) * 64 ≤ len) (h2 : len ≤ cap) (h3 : cap ≤ maxLen) :
    Calls Tryd.prog 90 #[.slice (some a) len cap, .int .i64 i] w fun e w' => e = .returned (.slice (some (a.add (i.toNat * 64))) 64 (cap - i.toNat * 64)) ∧ w' = w := by
  obtain ⟨i, rfl⟩ := Int.eq_ofNat_of_zero_le h0
  unfold maxLen at h3
  go_enter Tryd.func90, Tryd.ntmps90
  go_wp2
  go_ret
  exact ⟨slice_len (by omega), rfl⟩
theorem Tryd.info5 : (Tryd.prog.info? 5).map (fun i => (i.zero, i.size, i.bytes)) = some (some (.int .u8 0), 1, 1) := by kernel_rfl
set_option maxRecDepth 100000 in
theorem make_bytes (w : World) (n : Nat) (m : Int) (hm : m = n) (hn : n ≤ 1000) : ∃ W, (Instr.makeSlice 22 (.int .i64 m) (.int .i64 m)).run Tryd.prog w = .ok (.slice (some ⟨w.heap.size, 0, none⟩) n n) W ∧
    W.heap[w.heap.size]? = some (.cells ((List.replicate n (0 : UInt8)).map vb).toArray 5 (0, 0)) ∧ Below w.heap.size w W ∧ W.heap.size = w.heap.size + 1 := by
  subst hm
  obtain ⟨i, hi, hf⟩ := Option.map_eq_some_iff.1 Tryd.info5
  simp only [Prod.mk.injEq] at hf
  obtain ⟨hz, hs, hb⟩ := hf
  have hr := run_makeSlice (P := Tryd.prog) w 22 5 i (.int .u8 0) Tryd.underlying22 hi hz .i64 .i64 n n (by omega) (by omega) (by rw [hs]; simp; omega) (by rw [hb]; omega) (by omega)
  simp only [Int.toNat_natCast, hs, Nat.mul_one] at hr
  refine ⟨_, hr, ?_, below_al _ _, by simp⟩
  rw [heap_alloc_new]
  congr 2
  apply Array.ext'
  apply List.ext_getElem
  · simp [madeCells]
  · intro k h1 h2
    simp [madeCells, Value.cells, vb, Nat.mod_one]
theorem put_end {w : World} {g s n k z : Nat} {l : List UInt8} (h : Cells w ⟨g, 0, none⟩ ((ends l z (8 * n) k).map vb)) (hs : l.length + z + 9 = s + 1) (hk : k < 8) :
    Cells (w.setCell ⟨g, s - k, none⟩ (.int .u8 (8 * (n : Int) / 2 ^ (8 * k) % 256))) ⟨g, 0, none⟩ ((ends l z (8 * n) (k + 1)).map vb) := by
  rw [← ends_set l z (8 * n) k hk, hs, Nat.add_sub_cancel]
  refine byte_put h ?_
  rw [byte_ofNat, Nat.shiftRight_eq_div_pow]
  push_cast
  rfl
theorem copy_bytes {w W : World} {l L : List UInt8} {len g dl : Nat} {p : Option Addr} {cap : Nat} (hl : len = l.length) (h : 0 < len → ∃ ad, p = some ad ∧ Cells w ad (l.map vb) ∧ ad.block < w.heap.size) (hb : Below w.heap.size w W)
    (hrow : W.heap[g]? = some (.cells (L.map vb).toArray 5 (0, 0))) (hg : w.heap.size ≤ g) (hfit : len ≤ L.length) (hdl : len ≤ dl) :
    ∃ W2, (Builtin.copy_ #[22, 22] 3 #[.slice (some ⟨g, 0, none⟩) dl dl, .slice p len cap]).run Tryd.prog W = .ok (.int .i64 len) W2 ∧ W2.heap[g]? = some (.cells ((l ++ L.drop len).map vb).toArray 5 (0, 0)) ∧ Below w.heap.size w W2 ∧ W2.heap.size = W.heap.size := by
  by_cases h0 : len = 0
  · have hl0 : l = [] := List.eq_nil_of_length_eq_zero (by omega)
    have hr := run_copy_none (P := Tryd.prog) W 22 22 3 5 (some ⟨g, 0, none⟩) p dl dl len cap Tryd.underlying22 (by kernel_rfl) (by rw [h0]; exact Nat.zero_min dl)
    refine ⟨W, ?_, by rw [hl0, h0]; simpa using hrow, hb, rfl⟩
    rw [hr, h0]; rfl
  · obtain ⟨ad, rfl, h2, h3⟩ := h (by omega)
    have hr := run_copy_row (P := Tryd.prog) W 22 22 3 5 g 0 dl dl ad len cap (L.map vb).toArray 5 (l.map vb) Tryd.underlying22 (by kernel_rfl) hrow (by rw [List.length_map, ← hl]; exact (Nat.min_eq_left hdl).symm) (h2.up hb h3) (by simp; omega) (one_vb l)
    rw [List.length_map, ← hl] at hr
    refine ⟨_, hr, ?_, below_setRow hb hg _, by simp⟩
    rw [setRow_heap W g _ _ 5 _ hrow]
    simp
set_option maxRecDepth 100000 in
set_option maxHeartbeats 4000000 in
theorem ending_any (w : World) (v : Value) (l : List UInt8) (n : Nat) (hv : BS w v l) (hl : l.length = n % 64) (hn : n < 1152921504606846976) :
    Calls Tryd.prog 91 #[v, .int .i64 n] w fun e w' => e = .returned (.slice (some ⟨w.heap.size, 0, none⟩) (l ++ tail n).length (l ++ tail n).length) ∧ Cells w' ⟨w.heap.size, 0, none⟩ ((l ++ tail n).map vb) ∧ Below w.heap.size w w' := by
  obtain ⟨p, len, cap, rfl, hlen, hcap, hpp⟩ : ∃ p len cap, v = .slice p len cap ∧ len = l.length ∧ len ≤ cap ∧ (0 < len → ∃ ad, p = some ad ∧ Cells w ad (l.map vb) ∧ ad.block < w.heap.size) := by
    rcases hv with ⟨rfl, rfl⟩ | ⟨a, cap, rfl, h2, h3, h4, h5⟩
    · exact ⟨none, 0, 0, rfl, rfl, Nat.le_refl _, fun h => absurd h (by omega)⟩
    · exact ⟨some a, _, cap, rfl, rfl, h2, fun _ => ⟨a, rfl, h4, h5⟩⟩
  have hlt : len < 64 := by omega
  have HL := hid hlen; have HLN := hid hl; have HP := hid hpp; clear hlen hl hpp hv
  go_enter Tryd.func91, Tryd.ntmps91
  by_cases hs : len ≤ 55
  · skip
    obtain ⟨z, hz⟩ : ∃ z, len + z + 9 = 64 := ⟨64 - 9 - len, by omega⟩
    obtain ⟨W, hmk, hrow, hb, hsz⟩ := make_bytes w 64 64 rfl (by omega)
    obtain ⟨g, hg⟩ : ∃ g, g = w.heap.size := ⟨_, rfl⟩
    rw [← hg] at hmk hrow
    have hd : decide ((64 : Int) < (len : Int) + 1 + 8) = false := by simp; omega
    have hrow2 : W.heap[g]? = some (.cells ((List.replicate (l.length + z + 9) (0 : UInt8)).map vb).toArray 5 (0, 0)) := by
      rw [← HL.out, hz]; exact hrow
    have HROW := hid hrow2; have HB := hid hb; have HSZ := hid hsz; have HG := hid hg; have HZ := hid hz
    have hzl : len + 8 < 64 := by omega
    clear hrow hrow2 hb hsz hg hz
    obtain ⟨W2, hcp, hrow2, hb2, hsz2⟩ := copy_bytes (cap := cap) (dl := 64) HL.out HP.out HB.out HROW.out (by rw [HG.out]; omega) (by rw [List.length_replicate, ← HL.out]; omega) (by omega)
    rw [List.drop_replicate, show l.length + z + 9 - len = z + 9 from by rw [← HL.out]; omega] at hrow2
    have hcs := cells_of_block hrow2
    have hfr := free_of_block hrow2
    obtain ⟨x0, hx0⟩ := byte_there hcs (j := len) (by simp [← HL.out])
    have hfx := hfr len
    have HCS := hid hcs; have HFR := hid hfr; have HB2 := hid hb2; have HSZ2 := hid hsz2
    clear hrow2 hcs hfr hb2 hsz2
    go_wp2
    have h0c : Hid (Cells (W2.setCell ⟨g, len, none⟩ (.int .u8 128)) ⟨g, 0, none⟩ ((ends l z (8 * n) 0).map vb)) := by
      have := byte_put (t := len) (c := 128) (r := 128) HCS.out rfl
      rw [HL.out, set_mark, ← ends_zero l z (8 * n), ← HL.out] at this
      exact this
    have h0f : Hid (Free (W2.setCell ⟨g, len, none⟩ (.int .u8 128)) g) := HFR.out.set _ _
    have h0b : Hid (Below w.heap.size w (W2.setCell ⟨g, len, none⟩ (.int .u8 128))) := HB2.out.setCell (by show w.heap.size ≤ g; rw [HG.out]; omega) _
    clear hx0 hfx hcp hmk hd
    go_loopw [28] (fun i w1 => ∃ k : Nat, k ≤ 8 ∧ i = .int .i64 k ∧ Cells w1 ⟨g, 0, none⟩ ((ends l z (8 * n) k).map vb) ∧ Free w1 g ∧ Below w.heap.size w w1) (fun i _ => 8 - (intOf i).toNat)
    case atStart => exact ⟨0, by omega, rfl, h0c.out, h0f.out, h0b.out⟩
    case round =>
      clear h0c h0f h0b
      obtain ⟨k, hk, rfl, hcs, hfr, hb3⟩ := hrel
      by_cases hlt2 : k < 8
      · obtain ⟨x1, hx1⟩ := byte_there hcs (j := 63 - k) (by rw [ends_length _ _ _ _ hk, ← HL.out, HZ.out]; omega)
        have hfx := hfr (63 - k)
        have e1 : ((63 : Int) - (k : Int)).toNat = 63 - k := by omega
        have HCS3 := hid hcs; have HFR3 := hid hfr; have HB3 := hid hb3
        clear hcs hfr hb3
        go_wp2
        go_roundw
        case rel => exact ⟨k + 1, by omega, by go_num, put_end HCS3.out (by rw [← HL.out, HZ.out]) hlt2, HFR3.out.set _ _, HB3.out.setCell (by show w.heap.size ≤ g; rw [HG.out]; omega) _⟩
        case measure => simp [intOf]; omega
      · have hk8 := hid (show k = 8 by omega)
        have HCS3 := hid hcs; have HB3 := hid hb3
        clear hcs hfr hb3
        go_wp2
        go_ret
        have hzz : z = (119 - n % 64) % 64 := by have h1 := HZ.out; have h2 := HL.out; have h3 := HLN.out; omega
        have hend := ends_last l n HLN.out z hzz
        have hlen2 : (l ++ tail n).length = 64 := by rw [← hend, ends_length _ _ _ _ (Nat.le_refl 8), ← HL.out]; exact HZ.out
        have hc8 := HCS3.out
        rw [hk8.out, hend] at hc8
        rw [hlen2]
        refine ⟨?_, by rw [← HG.out]; exact hc8, HB3.out⟩
        rw [← HG.out]; rfl
  · skip
    obtain ⟨z, hz⟩ : ∃ z, len + z + 9 = 128 := ⟨128 - 9 - len, by omega⟩
    obtain ⟨W, hmk, hrow, hb, hsz⟩ := make_bytes w 128 128 rfl (by omega)
    obtain ⟨g, hg⟩ : ∃ g, g = w.heap.size := ⟨_, rfl⟩
    rw [← hg] at hmk hrow
    have hd : decide ((64 : Int) < (len : Int) + 1 + 8) = true := by simp; omega
    have hrow2 : W.heap[g]? = some (.cells ((List.replicate (l.length + z + 9) (0 : UInt8)).map vb).toArray 5 (0, 0)) := by
      rw [← HL.out, hz]; exact hrow
    have HROW := hid hrow2; have HB := hid hb; have HSZ := hid hsz; have HG := hid hg; have HZ := hid hz
    have hzl : len + 8 < 128 := by omega
    clear hrow hrow2 hb hsz hg hz
    obtain ⟨W2, hcp, hrow2, hb2, hsz2⟩ := copy_bytes (cap := cap) (dl := 128) HL.out HP.out HB.out HROW.out (by rw [HG.out]; omega) (by rw [List.length_replicate, ← HL.out]; omega) (by omega)
    rw [List.drop_replicate, show l.length + z + 9 - len = z + 9 from by rw [← HL.out]; omega] at hrow2
    have hcs := cells_of_block hrow2
    have hfr := free_of_block hrow2
    obtain ⟨x0, hx0⟩ := byte_there hcs (j := len) (by simp [← HL.out])
    have hfx := hfr len
    have HCS := hid hcs; have HFR := hid hfr; have HB2 := hid hb2; have HSZ2 := hid hsz2
    clear hrow2 hcs hfr hb2 hsz2
    go_wp2
    have h0c : Hid (Cells (W2.setCell ⟨g, len, none⟩ (.int .u8 128)) ⟨g, 0, none⟩ ((ends l z (8 * n) 0).map vb)) := by
      have := byte_put (t := len) (c := 128) (r := 128) HCS.out rfl
      rw [HL.out, set_mark, ← ends_zero l z (8 * n), ← HL.out] at this
      exact this
    have h0f : Hid (Free (W2.setCell ⟨g, len, none⟩ (.int .u8 128)) g) := HFR.out.set _ _
    have h0b : Hid (Below w.heap.size w (W2.setCell ⟨g, len, none⟩ (.int .u8 128))) := HB2.out.setCell (by show w.heap.size ≤ g; rw [HG.out]; omega) _
    clear hx0 hfx hcp hmk hd
    go_loopw [28] (fun i w1 => ∃ k : Nat, k ≤ 8 ∧ i = .int .i64 k ∧ Cells w1 ⟨g, 0, none⟩ ((ends l z (8 * n) k).map vb) ∧ Free w1 g ∧ Below w.heap.size w w1) (fun i _ => 8 - (intOf i).toNat)
    case atStart => exact ⟨0, by omega, rfl, h0c.out, h0f.out, h0b.out⟩
    case round =>
      clear h0c h0f h0b
      obtain ⟨k, hk, rfl, hcs, hfr, hb3⟩ := hrel
      by_cases hlt2 : k < 8
      · obtain ⟨x1, hx1⟩ := byte_there hcs (j := 127 - k) (by rw [ends_length _ _ _ _ hk, ← HL.out, HZ.out]; omega)
        have hfx := hfr (127 - k)
        have e1 : ((127 : Int) - (k : Int)).toNat = 127 - k := by omega
        have HCS3 := hid hcs; have HFR3 := hid hfr; have HB3 := hid hb3
        clear hcs hfr hb3
        go_wp2
        go_roundw
        case rel => exact ⟨k + 1, by omega, by go_num, put_end HCS3.out (by rw [← HL.out, HZ.out]) hlt2, HFR3.out.set _ _, HB3.out.setCell (by show w.heap.size ≤ g; rw [HG.out]; omega) _⟩
        case measure => simp [intOf]; omega
      · have hk8 := hid (show k = 8 by omega)
        have HCS3 := hid hcs; have HB3 := hid hb3
        clear hcs hfr hb3
        go_wp2
        go_ret
        have hzz : z = (119 - n % 64) % 64 := by have h1 := HZ.out; have h2 := HL.out; have h3 := HLN.out; omega
        have hend := ends_last l n HLN.out z hzz
        have hlen2 : (l ++ tail n).length = 128 := by rw [← hend, ends_length _ _ _ _ (Nat.le_refl 8), ← HL.out]; exact HZ.out
        have hc8 := HCS3.out
        rw [hk8.out, hend] at hc8
        rw [hlen2]
        refine ⟨?_, by rw [← HG.out]; exact hc8, HB3.out⟩
        rw [← HG.out]; rfl
end Go.Proofs.YtaoehkoffhnidaaDoor.Dg

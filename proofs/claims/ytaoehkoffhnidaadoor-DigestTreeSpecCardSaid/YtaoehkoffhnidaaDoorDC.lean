/- Contract of the schedule: the 64 words of a block; only new memory is written. -/
import Derived.Test.YtaoehkoffhnidaaDoorDA
import Derived.StillTailTactics
import Derived.Deep.QuietTactic
import Derived.BigQuiet
namespace Go.Proofs.YtaoehkoffhnidaaDoor.Dg
open Go.RowKit Go
set_option linter.unusedVariables false
set_option linter.unusedSimpArgs false
theorem info65 {vs : List Value} (h : vs.length = 64) : (Tryd.prog.info? 98).map (·.size) = some vs.length := by rw [h]; kernel_rfl
def sch1 (l : List UInt8) (k : Nat) : List Value := (((words l).take k ++ List.replicate (64 - k) 0).map v32)
def sch2 (l : List UInt8) (k : Nat) : List Value := ((sch l k ++ List.replicate (48 - k) 0).map v32)
theorem words_len (l : List UInt8) : (words l).length = 16 := by simp [words]
theorem sch_len (l : List UInt8) (k : Nat) : (sch l k).length = 16 + k := by
  induction k with
  | zero => exact words_len l
  | succ k ih => simp [sch, ih]; omega
theorem sch1_set (l : List UInt8) (k : Nat) (hk : k < 16) : (sch1 l k).set k (v32 (wd (l.drop (4 * k)))) = sch1 l (k + 1) := by
  have hw := words_len l
  unfold sch1
  rw [← List.map_set, show 64 - k = (64 - (k + 1)) + 1 from by omega, List.replicate_succ, List.set_append_right _ _ (by simp; omega)]
  rw [List.take_succ_eq_append_getElem (by omega)]
  simp [hw, words, Nat.min_eq_left (Nat.le_of_lt hk)]
theorem sch2_get (l : List UInt8) (k j : Nat) (h : j < 16 + k) : (sch2 l k)[j]? = some (v32 ((sch l k).getD j 0)) := by
  unfold sch2
  rw [List.getElem?_map, List.getElem?_append_left (by rw [sch_len]; exact h), List.getD_eq_getElem?_getD, List.getElem?_eq_getElem (by rw [sch_len]; exact h)]
  simp
theorem sch2_set (l : List UInt8) (k : Nat) (hk : k < 48) : (sch2 l k).set (16 + k) (v32 (nxt (sch l k) (16 + k))) = sch2 l (k + 1) := by
  have hw := sch_len l k
  unfold sch2
  rw [← List.map_set, show 48 - k = (48 - (k + 1)) + 1 from by omega, List.replicate_succ, List.set_append_right _ _ (by omega)]
  simp [hw, sch]
theorem ror_s (x : BitVec 32) (n : Int) (w : World) (h0 : 0 < n) (h1 : n < 32) : Calls Tryd.prog 106 #[.int .u32 x.toNat, .int .i64 n] w fun e w' => e = .returned (.int .u32 (rr x n.toNat).toNat) ∧ w' = w :=
  (ror_any x n w h0 h1).mono fun e w' ⟨h, k⟩ => ⟨h, k.symm⟩
theorem sch2_len (l : List UInt8) (k : Nat) (h : k ≤ 48) : (sch2 l k).length = 64 := by
  unfold sch2; simp [sch_len]; omega
theorem sch2_step (l : List UInt8) (t : Nat) (h : 16 ≤ t) (h2 : t < 64) : (sch2 l (t - 16)).set t (v32 (nxt (sch l (t - 16)) t)) = sch2 l (t + 1 - 16) := by
  have := sch2_set l (t - 16) (by omega)
  rwa [show 16 + (t - 16) = t from by omega, show t - 16 + 1 = t + 1 - 16 from by omega] at this
theorem nxt_raw (x16 x15 x7 x2 : BitVec 32) : ((x16.toNat : Int) + bits BinOp.xor IntKind.u32 (bits BinOp.xor IntKind.u32 ((rr x15 7).toNat : Int) ((rr x15 18).toNat : Int)) ((x15.toNat : Int) / 8) + (x7.toNat : Int) + bits BinOp.xor IntKind.u32 (bits BinOp.xor IntKind.u32 ((rr x2 17).toNat : Int) ((rr x2 19).toNat : Int)) ((x2.toNat : Int) / 1024)) % 4294967296
    = ((x16 + (rr x15 7 ^^^ rr x15 18 ^^^ x15 >>> 3) + x7 + (rr x2 17 ^^^ rr x2 19 ^^^ x2 >>> 10)).toNat : Int) := by
  rw [show (8 : Int) = 2 ^ 3 from rfl, show (1024 : Int) = 2 ^ 10 from rfl, shr32, shr32]
  simp only [xor32]
  generalize (rr x15 7 ^^^ rr x15 18 ^^^ x15 >>> 3) = p
  generalize (rr x2 17 ^^^ rr x2 19 ^^^ x2 >>> 10) = q
  simp only [BitVec.toNat_add]
  omega
@[irreducible] def IsSch (l : List UInt8) (vs : List Value) : Prop := vs = (sch l 48).map v32
theorem IsSch_eq {l : List UInt8} {vs : List Value} (h : IsSch l vs) : vs = (sch l 48).map v32 := by unfold IsSch at h; exact h
theorem sch_end (l : List UInt8) (w : World) (a : Addr) (h : Cells w a (sch2 l (64 - 16))) : ∃ vs, IsSch l vs ∧ Cells w a vs ∧ vs.length = 64 ∧ vs.toArray.all (·.oneCell') = true :=
  ⟨(sch l 48).map v32, by unfold IsSch; rfl, by have hs64 : sch2 l (64 - 16) = (sch l 48).map v32 := by (unfold sch2; simp)
                                                rwa [hs64] at h, by rw [List.length_map, sch_len], one_v32 _⟩
set_option maxRecDepth 100000 in
set_option maxHeartbeats 4000000 in
theorem schedule_any (l : List UInt8) (a : Addr) (cap : Nat) (w : World) (hc : Cells w a (l.map vb)) (hl : l.length = 64) (hcap : 64 ≤ cap) :
   Calls Tryd.prog 99 #[.slice (some a) 64 cap] w fun e w' => e = .returned (.agg ((sch l 48).map v32).toArray) ∧ Below w.heap.size w w' := by
  obtain ⟨g, hg⟩ : ∃ g, g = w.heap.size := ⟨_, rfl⟩
  have HL := hid hl; clear hl
  have hab : a.block < g := by rw [hg]; exact hc.lt (by intro h; have := congrArg List.length h; rw [List.length_map, HL.out] at this; simp at this)
  have HC := hid hc; clear hc
  have HG := hid hg; clear hg
  have hgg : w.heap.size ≤ g := by rw [HG.out]; omega
  go_enter Tryd.func99, Tryd.ntmps99
  go_wp2
  rw [← HG.out]
  go_loopw [7] (fun i w1 => ∃ k : Nat, k ≤ 16 ∧ i = .int .i64 k ∧ Cells w1 ⟨g, 0, none⟩ (sch1 l k) ∧ Below w.heap.size w w1 ∧ g < w1.heap.size ∧ Free w1 g) (fun i _ => 16 - (intOf i).toNat)
  case atStart => exact ⟨0, by omega, rfl, by have := cells_alloc w (sch1 l 0) 98; rw [← HG.out] at this; exact this, below_al _ _, by simp [HG.out], by have := free_alloc w (sch1 l 0).toArray 98; rw [← HG.out] at this; exact this⟩
  case round =>
    obtain ⟨k, hk, rfl, hcs, hb, hgs, hfr⟩ := hrel
    by_cases hlt : k < 16
    · have HD := hid ((HC.out.up hb (by rw [← HG.out]; omega)).drop (4 * k))
      rw [← List.map_drop] at HD
      go_wp2_with fail
      refine (word_any (l.drop (4 * k)) _ _ _ _ HD.out (by rw [List.length_drop, HL.out]; omega) (by omega) (by unfold maxLen; omega)).mono ?_
      rintro e w' ⟨rfl, rfl⟩
      have hx : ∃ x, (sch1 l k)[k]? = some x := ⟨_, List.getElem?_eq_getElem (by unfold sch1; have := words_len l; simp; omega)⟩
      obtain ⟨x, hx⟩ := hx
      have hcx := hcs.at0 hx
      have hset := hid (hcs.set k (v32 (wd (l.drop (4 * k)))))
      rw [sch1_set l k hlt] at hset
      have hfx := hfr k
      have HF := hid hfr
      clear hx hfr
      go_wp2
      go_roundw
      case rel => exact ⟨k + 1, by omega, by go_num, hset.out, hb.setCell hgg _, by simpa using hgs, HF.out.set _ _⟩
      case measure => simp [intOf]; omega
    · have hd : decide ((k : Int) < 16) = false := by simp; omega
      have HK := hid (show k = 16 by omega)
      have HF := hid hfr; have HC2 := hid hcs
      clear hfr hcs
      go_wp2
      go_loopw [4] (fun i w1 => ∃ t : Nat, 16 ≤ t ∧ t ≤ 64 ∧ i = .int .i64 t ∧ Cells w1 ⟨g, 0, none⟩ (sch2 l (t - 16)) ∧ Below w.heap.size w w1 ∧ g < w1.heap.size ∧ Free w1 g) (fun i _ => 64 - (intOf i).toNat)
      case atStart => exact ⟨16, by omega, by omega, rfl, by have := HC2.out; rw [HK.out] at this; unfold sch1 at this; rw [List.take_of_length_le (by rw [words_len]; omega)] at this; exact this, hb, hgs, HF.out⟩
      case round =>
        clear hgs hb HF HC2
        obtain ⟨t, ht0, ht, rfl, hcs, hb, hgs, hfr⟩ := hrel
        by_cases hlt : t < 64
        · obtain ⟨x15, hx15⟩ : ∃ x, x = (sch l (t - 16)).getD (t - 15) 0 := ⟨_, rfl⟩
          have c15 : wr.cell? ⟨g, t - 15, none⟩ = some (.int .u32 x15.toNat) := by rw [hx15]; exact hcs.at0 (sch2_get l (t - 16) (t - 15) (by omega))
          have HX15 := hid hx15; clear hx15
          obtain ⟨x16, hx16⟩ : ∃ x, x = (sch l (t - 16)).getD (t - 16) 0 := ⟨_, rfl⟩
          have c16 : wr.cell? ⟨g, t - 16, none⟩ = some (.int .u32 x16.toNat) := by rw [hx16]; exact hcs.at0 (sch2_get l (t - 16) (t - 16) (by omega))
          have HX16 := hid hx16; clear hx16
          obtain ⟨x7, hx7⟩ : ∃ x, x = (sch l (t - 16)).getD (t - 7) 0 := ⟨_, rfl⟩
          have c7 : wr.cell? ⟨g, t - 7, none⟩ = some (.int .u32 x7.toNat) := by rw [hx7]; exact hcs.at0 (sch2_get l (t - 16) (t - 7) (by omega))
          have HX7 := hid hx7; clear hx7
          obtain ⟨x2, hx2⟩ : ∃ x, x = (sch l (t - 16)).getD (t - 2) 0 := ⟨_, rfl⟩
          have c2 : wr.cell? ⟨g, t - 2, none⟩ = some (.int .u32 x2.toNat) := by rw [hx2]; exact hcs.at0 (sch2_get l (t - 16) (t - 2) (by omega))
          have HX2 := hid hx2; clear hx2
          have e15 : IntKind.i64.wrap ((t : Int) - 15) = ((t - 15 : Nat) : Int) := by rw [IntWalk.i64_in _ (by omega)]; omega
          have e16 : IntKind.i64.wrap ((t : Int) - 16) = ((t - 16 : Nat) : Int) := by rw [IntWalk.i64_in _ (by omega)]; omega
          have e7 : IntKind.i64.wrap ((t : Int) - 7) = ((t - 7 : Nat) : Int) := by rw [IntWalk.i64_in _ (by omega)]; omega
          have e2 : IntKind.i64.wrap ((t : Int) - 2) = ((t - 2 : Nat) : Int) := by rw [IntWalk.i64_in _ (by omega)]; omega
          have hcs' := hid hcs; clear hcs
          go_wp2_with fail
          go_quiet (fail)
          go_wp2_with fail
          obtain ⟨w3, hw3⟩ : ∃ w3, w3 = (wr.drewN nq).drew := ⟨_, rfl⟩
          have d16 : w3.cell? ⟨g, t - 16, none⟩ = some (.int .u32 x16.toNat) := by rw [hw3]; exact c16
          have d7 : w3.cell? ⟨g, t - 7, none⟩ = some (.int .u32 x7.toNat) := by rw [hw3]; exact c7
          have HW3 := hid hw3
          have b16 : ((t - 16 : Nat) : Int) < 64 := by omega
          have b7 : ((t - 7 : Nat) : Int) < 64 := by omega
          refine wp_region_still_tail 28 (by kernel_rfl) (by kernel_rfl) ?_
          simp only [List.take_succ_cons, List.take_zero, List.drop_succ_cons, List.drop_zero]
          change wpStill Tryd.prog _ (wr.drewN nq).drew (fun a' => wpList Tryd.prog _ _ _ a' (wr.drewN nq).drew) _ _
          rw [← hw3]
          clear c15 c16 c7 c2 e15 e2 hw3
          repeat still_step
          still_call (ror_s _ _ _ (by decide) (by decide))
          repeat still_step
          still_call (ror_s _ _ _ (by decide) (by decide))
          repeat still_step
          still_call (ror_s _ _ _ (by decide) (by decide))
          repeat still_step
          still_call (ror_s _ _ _ (by decide) (by decide))
          repeat still_step
          try refine wpStill_nil ?_
          obtain ⟨x, hx⟩ : ∃ x, (sch2 l (t - 16))[t]? = some x := ⟨_, List.getElem?_eq_getElem (by rw [sch2_len _ _ (by omega)]; omega)⟩
          have cx : w3.cell? ⟨g, t, none⟩ = some x := by rw [HW3.out]; exact hcs'.out.at0 hx
          have fx : w3.frozen? ⟨g, t, none⟩ = false := by rw [HW3.out]; exact hfr t
          have HF : Hid (Free w3 g) := by rw [HW3.out]; exact hfr
          have HC3 : Hid (Cells w3 ⟨g, 0, none⟩ (sch2 l (t - 16))) := by rw [HW3.out]; exact hcs'.out
          have HB3 : Hid (Below w.heap.size w w3) := by rw [HW3.out]; exact (below_drewN hb nq).drew
          have HS3 : Hid (g < w3.heap.size) := by rw [HW3.out]; exact hgs
          clear hx hfr hcs' hb hgs
          go_wp2
          go_roundw
          case rel => exact ⟨t + 1, by omega, by omega, by go_num, by rw [← sch2_step l t (by omega) (by omega)]; exact cells_put HC3.out ((nxt_raw x16 x15 x7 x2).trans (by rw [HX15.out, HX16.out, HX7.out, HX2.out]; rfl)), HB3.out.setCell hgg _, by simpa using HS3.out, HF.out.set _ _⟩
          case measure => simp [intOf]; omega
        · obtain rfl : t = 64 := by omega
          obtain ⟨vs, hvs, hcs, hlen, h1⟩ := sch_end l _ _ hcs
          have hinf := info65 hlen
          have HCS := hid hcs; have HF := hid hfr; have H1 := hid h1; clear hcs hfr h1
          have hst := store_cells (P := Tryd.prog) HCS.out HCS.out HF.out H1.out rfl
          go_wp2_with (refine wpList_load_mid rfl 98 (.tmp 2) rfl g 0 rfl vs _ HCS.out.range Tryd.underlying98 rfl hinf ?_)
          have hsame := range_cells (World.rangeAt_setCells_same wr g 0 vs (HCS.out.there HF.out))
          refine bodyPost_ret (v := .agg vs.toArray) ?_ ?_ ?_
          · exact results_cell_mid Tryd.results99 _ _ g vs _ (by simp only [Array.getD]; rfl) hsame.range Tryd.underlying98 rfl hinf
          · rfl
          · exact ⟨by rw [IsSch_eq hvs], setCells_below g hgg vs 0 wr hb⟩
end Go.Proofs.YtaoehkoffhnidaaDoor.Dg

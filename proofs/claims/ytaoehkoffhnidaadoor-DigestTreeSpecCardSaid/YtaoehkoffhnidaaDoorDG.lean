/- Contract of the hash of bytes: it is SHA-256 as the plain function has it; only new memory is written. -/
import Derived.Test.YtaoehkoffhnidaaDoorDF
import Derived.Test.YtaoehkoffhnidaaDoorDD
namespace Go.Proofs.YtaoehkoffhnidaaDoor.Dg
open Go.RowKit Go
set_option linter.unusedVariables false
set_option linter.unusedSimpArgs false
theorem kc_len (s : St) : (Kc s).length = 8 := rfl
theorem grown_tr {a b c : World} {g : Nat} (h : a.grownBy b (some g)) (k : b.grownBy c (some g)) : a.grownBy c (some g) :=
  ⟨k.os.trans h.os, k.tape.trans h.tape, k.output.trans h.output, Nat.le_trans h.size k.size, fun i hi e => (k.block i (Nat.lt_of_lt_of_le hi h.size) e).trans (h.block i hi e)⟩
theorem pad_block (b : List UInt8) (k : Nat) (h : 64 * k + 64 ≤ b.length) : ((pad b).drop (64 * k)).take 64 = (b.drop (64 * k)).take 64 := by
  unfold pad
  rw [List.drop_append_of_le_length (by omega), List.take_append_of_le_length (by rw [List.length_drop]; omega)]
theorem cells_block {w : World} {a : Addr} {b : List UInt8} (h : Cells w a (b.map vb)) (k : Nat) : Cells w (a.add (k * 64)) (((b.drop (64 * k)).take 64).map vb) := by
  rw [Nat.mul_comm 64 k, List.map_take, List.map_drop]; exact (h.drop _).take _
theorem Konst.grown {w w' : World} {g : Nat} (h : Konst w) (hg : w.grownBy w' (some g)) (h0 : 2 < g) : Konst w' := fun t ht => by
  have h1 := h t ht
  rw [World.cell?_of_block (w := w) (hg.block 2 (World.block_lt_of_cell? w _ h1) (by intro e; cases e; omega))]; exact h1
theorem Free.grown {w w' : World} {g k : Nat} (h : Free w k) (hg : w.grownBy w' (some g)) (h0 : k ≠ g) (hk : k < w.heap.size) : Free w' k := fun i => by
  rw [World.frozen?_of_block (w := w) (hg.block k hk (by intro e; cases e; exact h0 rfl))]; exact h i
theorem bs_rest {w : World} {p : Option Addr} {len cap : Nat} {b : List UInt8} (h : BS w (.slice p len cap) b) (m : Nat) (hm : m ≤ len) : BS w (.slice (p.map fun x => x.add m) (len - m) (cap - m)) (b.drop m) := by
  rcases h with ⟨h1, rfl⟩ | ⟨a, c, h1, h2, h3, h4, h5⟩
  · simp only [Value.slice.injEq] at h1
    obtain ⟨rfl, rfl, rfl⟩ := h1
    exact .inl ⟨by simp, by simp⟩
  · simp only [Value.slice.injEq] at h1
    obtain ⟨rfl, rfl, rfl⟩ := h1
    refine .inr ⟨a.add m, cap - m, by simp, by rw [List.length_drop]; omega, by omega, ?_, by rw [add_block]; exact h5⟩
    rw [List.map_drop]; exact h4.drop m
theorem bs_rest0 {w : World} {p : Option Addr} {len cap : Nat} {b : List UInt8} (h : BS w (.slice p len cap) b) (m : Nat) (hm : cap = m) (hl : m ≤ len) : BS w (.slice p (len - m) 0) (b.drop m) := by
  rcases h with ⟨h1, rfl⟩ | ⟨a, c, h1, h2, h3, h4, h5⟩
  · simp only [Value.slice.injEq] at h1
    obtain ⟨rfl, rfl, rfl⟩ := h1
    exact .inl ⟨by simp, by simp⟩
  · simp only [Value.slice.injEq] at h1
    obtain ⟨rfl, rfl, rfl⟩ := h1
    have hd : b.drop m = [] := List.drop_eq_nil_iff.2 (by omega)
    exact .inr ⟨a, 0, by rw [hd]; simp; omega, by rw [hd]; simp, by omega, by rw [hd]; intro j v hj; simp at hj, h5⟩
theorem BS.grown {w W w' : World} {v : Value} {b : List UInt8} {g : Nat} (h : BS w v b) (hb : Below w.heap.size w W) (hg : W.grownBy w' (some g)) (hge : w.heap.size ≤ g) : BS w' v b := by
  rcases h with h | ⟨a, c, h1, h2, h3, h4, h5⟩
  · exact .inl h
  · exact .inr ⟨a, c, h1, h2, h3, (h4.ups hb).grown hg (by omega), by have := hb.size; have := hg.size; omega⟩
theorem store_over {P : Program} {w : World} {g : Nat} {us vs : List Value} (h : Cells w ⟨g, 0, none⟩ vs) (hf : Free w g) (h1 : us.toArray.all (·.oneCell') = true) (hl : us.length = vs.length) :
    (storeCells ⟨g, 0, none⟩ us).run P w = .ok () (w.setCells g 0 us) ∧ Cells (w.setCells g 0 us) ⟨g, 0, none⟩ us := by
  have hth : w.there g 0 us.length := fun j hj => h.there hf j (by omega)
  have := run_storeCells_cells (P := P) g 0 us 0 w (fun j hj => by simpa using (hth j hj).1) (fun j hj => by simpa using hf j) (fun v hv => (Array.all_eq_true_iff_forall_mem.1 h1) v (by simpa using hv))
  exact ⟨by simpa using this, range_cells (World.rangeAt_setCells_same _ _ 0 us hth)⟩
theorem tail_length (n : Nat) : (tail n).length = 9 + (119 - n % 64) % 64 := by simp [tail, be8_length]; omega
theorem pad_parts (b : List UInt8) (m : Nat) (hm : m = b.length / 64) : ∃ q, (b.drop (m * 64) ++ tail b.length).length = 64 * q ∧ (pad b).length / 64 = m + q ∧ q ≤ 2 ∧ 1 ≤ q ∧
    ∀ j, j < q → ((pad b).drop (64 * (m + j))).take 64 = ((b.drop (m * 64) ++ tail b.length).drop (64 * j)).take 64 := by
  have ht := tail_length b.length
  have hl : (b.drop (m * 64) ++ tail b.length).length = b.length % 64 + 9 + (119 - b.length % 64) % 64 := by rw [List.length_append, List.length_drop, ht]; omega
  have hp : pad b = b.take (m * 64) ++ (b.drop (m * 64) ++ tail b.length) := by rw [← List.append_assoc, List.take_append_drop]; rfl
  have hpl : (pad b).length = m * 64 + (b.length % 64 + 9 + (119 - b.length % 64) % 64) := by rw [hp, List.length_append, hl, List.length_take]; omega
  refine ⟨(b.length % 64 + 9 + (119 - b.length % 64) % 64) / 64, by rw [hl]; omega, by rw [hpl]; omega, by omega, by omega, fun j hj => ?_⟩
  congr 1
  rw [hp]
  have h1 : (b.take (m * 64)).length = m * 64 := by rw [List.length_take]; omega
  rw [List.drop_append, h1, List.drop_eq_nil_of_le (by rw [h1]; omega), List.nil_append]
  congr 1; omega
theorem calls_alloc {P : Program} {f : FuncId} {args : Array Value} {w : World} {zs : List Value} {t : TypeId} {Q : Ending → World → Prop}
    (h : ∀ W, Cells W ⟨w.heap.size, 0, none⟩ zs → Free W w.heap.size → Below w.heap.size w W → W.heap.size = w.heap.size + 1 → Calls P f args W Q) : Calls P f args (w.alloc (.cells zs.toArray t)) Q :=
  h _ (cells_alloc w zs t) (free_alloc w zs.toArray t) (below_al _ _) (by simp)
set_option maxRecDepth 100000 in
set_option maxHeartbeats 4000000 in
theorem Sum_any (v : Value) (b : List UInt8) (w : World) (hv : BS w v b) (hk : Konst w) (hn : b.length < 1152921504606846976) :
   Calls Tryd.prog 64 #[v] w fun e w' => e = .returned (.agg ((sha b).map vb).toArray) ∧ Below w.heap.size w w' := by
  have HV := hid hv; have HK := hid hk; clear hk
  obtain ⟨p, cap, rfl⟩ : ∃ p cap, v = .slice p b.length cap := by
    rcases hv with ⟨rfl, rfl⟩ | ⟨a, cap, rfl, h2, h3, h4, h5⟩
    · exact ⟨none, 0, rfl⟩
    · exact ⟨some a, cap, rfl⟩
  clear hv
  obtain ⟨len, hlen⟩ : ∃ len, len = b.length := ⟨_, rfl⟩
  rw [← hlen] at HV hn ⊢
  have HLEN := hid hlen; clear hlen
  go_enter Tryd.func64, Tryd.ntmps64
  go_wp2_with fail
  refine calls_alloc ?_
  intro W0 hc0 hf0 hb0 hs0
  have HC0 := hid (show Cells W0 ⟨w.heap.size, 0, none⟩ ((List.replicate 32 (0 : UInt8)).map vb) from hc0)
  have HF0 := hid hf0; have HB0 := hid hb0; have HS0 := hid hs0
  obtain ⟨gd, hgd⟩ : ∃ gd, gd = w.heap.size := ⟨_, rfl⟩
  rw [← hgd]
  have HGD := hid hgd
  clear hc0 hf0 hb0 hs0 hgd
  refine (begin_any _).mono ?_
  rintro e w1 ⟨rfl, hb1⟩
  have HB1 := hid hb1; clear hb1
  have hk8 := kc_len st0
  go_wp2
  refine upon_store_new (by rfl) (one_v32 st0.list) ?_
  intro W hc1 hf1 hb1 hs1
  obtain ⟨gs, hgs⟩ : ∃ gs, gs = w1.heap.size := ⟨_, rfl⟩
  have HB := hid (below_tr (below_tr HB0.out HB1.out) hb1)
  have HX := hid (show gd < gs by have h1 := HB1.out.size; rw [HS0.out, ← HGD.out] at h1; omega)
  have HGE := hid (show w.heap.size ≤ gs by have := HX.out; have := HGD.out; omega)
  have HV1 := hid (HV.out.ups HB.out)
  have HK1 := hid (HK.out.ups HB.out)
  have HD1 := hid ((HC0.out.ups HB1.out).ups hb1)
  have HDF := hid ((HF0.out.up HB1.out (by rw [HS0.out]; omega)).up hb1 (show w.heap.size < w1.heap.size by have := HB1.out.size; rw [HS0.out] at this; omega))
  rw [← hgs] at hc1 hf1 ⊢
  have HC1 := hid hc1; have HF1 := hid hf1; have HS1 := hid hs1; have HGS := hid hgs
  clear hc1 hf1 hs1 hgs hb1 hk8
  obtain ⟨m, hm⟩ : ∃ m, m = len / 64 := ⟨_, rfl⟩
  have hq : (len : Int) / 64 = (m : Int) := by omega
  have HM := hid hm; clear hm
  have HPA : Hid (0 < len → ∃ a, p = some a ∧ len ≤ cap ∧ cap ≤ maxLen ∧ Cells W a (b.map vb) ∧ a.block < w.heap.size) := by
    intro h0
    rcases HV.out with ⟨h1, rfl⟩ | ⟨a, cap', h1, h2, h3, h4, h5⟩
    · simp only [Value.slice.injEq] at h1; omega
    · simp only [Value.slice.injEq] at h1
      obtain ⟨rfl, h6, rfl⟩ := h1
      exact ⟨a, rfl, by omega, h3, h4.ups HB.out, h5⟩
  have HG0 := hid (show 2 < gs by have := HGE.out; have := HK.out.lt; omega)
  go_wp2
  clear hq
  go_loopw [15] (fun i w1 => ∃ k : Nat, k ≤ m ∧ i = .int .i64 k ∧ Cells w1 ⟨gs, 0, none⟩ (Kc (runs st0 (pad b) k)) ∧ Free w1 gs ∧ W.grownBy w1 (some gs)) (fun i _ => m - (intOf i).toNat)
  case atStart => exact ⟨0, by omega, rfl, HC1.out, HF1.out, ⟨rfl, rfl, rfl, Nat.le_refl _, fun _ _ _ => rfl⟩⟩
  case round =>
    obtain ⟨k, hk, rfl, hcs, hfr, hgr⟩ := hrel
    by_cases hlt : k < m
    · have h64 : (k + 1) * 64 ≤ len := by have := HM.out; omega
      obtain ⟨a, rfl, hcap, hmax, hca, hab⟩ := HPA.out (by omega)
      have HCA := hid (hca.grown hgr (by have := HGE.out; omega))
      have HNE := hid (show a.block ≠ gs by have := HGE.out; omega)
      have HKK := hid (HK1.out.grown hgr HG0.out)
      have HCS := hid hcs; have HFR := hid hfr; have HGR := hid hgr
      clear hca hab hcs hfr hgr
      go_wp2_with fail
      refine (blockAt_any a len cap _ _ (by omega) (by omega) hcap hmax).mono ?_
      rintro e w2 ⟨rfl, rfl⟩
      rw [Int.toNat_natCast]
      go_wp2_with fail
      refine (absorb_any (runs st0 (pad b) k) ((b.drop (64 * k)).take 64) gs _ _ _ HKK.out HCS.out HFR.out HG0.out (cells_block HCA.out k) (by rw [List.length_take, List.length_drop, ← HLEN.out]; omega) (by omega) (by rw [add_block]; exact HNE.out)).mono ?_
      rintro e w2 ⟨rfl, hcs2, hfr2, hgr2⟩
      have HCS2 := hid hcs2; have HFR2 := hid hfr2; have HGR2 := hid hgr2
      clear hcs2 hfr2 hgr2
      go_wp2
      go_roundw
      case rel => exact ⟨k + 1, by omega, by go_num, by rw [runs, pad_block b k (by rw [← HLEN.out]; omega)]; exact HCS2.out, HFR2.out, grown_tr HGR.out HGR2.out⟩
      case measure => simp [intOf]; omega
    · have hkm := hid (show k = m by omega)
      have hw : wrap64 ((m : Int) * 64) = ((m * 64 : Nat) : Int) := by have := HM.out; unfold wrap64; omega
      have hle : ((m * 64 : Nat) : Int) ≤ (len : Int) := by have := HM.out; omega
      have hd0 : decide ((k : Int) < (m : Int)) = false := by simp; omega
      have HBS := hid (HV.out.grown HB.out hgr HGE.out)
      have HCS := hid hcs; have HFR := hid hfr; have HGR := hid hgr
      have HSZ := hid (show W.heap.size ≤ wr.heap.size from hgr.size)
      clear hcs hfr hgr
      obtain ⟨q, hq1, hq2, hq3, hq4, hq5⟩ := pad_parts b m (by rw [← HLEN.out]; exact HM.out)
      rw [← HLEN.out] at hq1 hq5
      have HQ1 := hid hq1; have HQ2 := hid hq2; have HQ5 := hid hq5
      clear hq1 hq2 hq5
      go_wp2_with fail
      all_goals clear hw hle
      case' inl => have hrest := hid (bs_rest0 HBS.out (m * 64) h (by have := HM.out; omega))
      case' inr => have hrest := hid (bs_rest HBS.out (m * 64) (by have := HM.out; omega))
      all_goals
        clear h
        refine (ending_any wr _ (b.drop (m * 64)) len hrest.out (by have := HM.out; rw [List.length_drop, ← HLEN.out]; omega) hn).mono ?_
        rintro e w3 ⟨rfl, hce, hbe⟩
        rw [HQ1.out]
        obtain ⟨ge, hge⟩ : ∃ ge, ge = wr.heap.size := ⟨_, rfl⟩
        rw [← hge] at hce ⊢
        have HGSW := hid (show gs < wr.heap.size from HCS.out.lt (by unfold Kc St.list; simp))
        have HCE := hid hce; have HBE := hid hbe
        have HCS3 := hid (HCS.out.ups hbe); have HFR3 := hid (HFR.out.up hbe HGSW.out)
        have HKK := hid ((HK1.out.grown HGR.out HG0.out).ups hbe)
        have HD3 := hid ((HD1.out.grown HGR.out (by show w.heap.size ≠ gs; have := HX.out; have := HGD.out; omega)).ups hbe)
        have HWW := hid (show w.heap.size < wr.heap.size by have h1 := HSZ.out; have h2 := HS1.out; have h3 := HB1.out.size; have h4 := HS0.out; omega)
        have HF3 := hid ((HDF.out.grown HGR.out (by have := HX.out; have := HGD.out; omega) (by have h2 := HS1.out; have h3 := HB1.out.size; have h4 := HS0.out; omega)).up hbe HWW.out)
        have HGG := hid (show gs < ge by rw [hge]; exact HGSW.out)
        have HBW := hid (show Below w.heap.size w w3 from (HB.out.grown HGR.out HB.out.size (fun i e => by cases e; exact HGE.out)).trans (hbe.mono (Nat.le_of_lt HWW.out)))
        have hz : ((64 * q : Nat) : Int) / 64 = (q : Int) := by omega
        clear hce hbe hge
        go_wp2
        clear hz
        go_loopw [34] (fun i w1 => ∃ j : Nat, j ≤ q ∧ i = .int .i64 j ∧ Cells w1 ⟨gs, 0, none⟩ (Kc (runs st0 (pad b) (m + j))) ∧ Free w1 gs ∧ w3.grownBy w1 (some gs)) (fun i _ => q - (intOf i).toNat)
        case atStart => exact ⟨0, by omega, rfl, by rw [Nat.add_zero, ← hkm.out]; exact HCS3.out, HFR3.out, ⟨rfl, rfl, rfl, Nat.le_refl _, fun _ _ _ => rfl⟩⟩
        case round =>
          obtain ⟨j, hj, rfl, hcs, hfr, hgr⟩ := hrel
          by_cases hlt2 : j < q
          · have HCA := hid (HCE.out.grown hgr (by show ge ≠ gs; have := HGG.out; omega))
            have HK2 := hid (HKK.out.grown hgr HG0.out)
            have HCS4 := hid hcs; have HFR4 := hid hfr; have HGR4 := hid hgr
            clear hcs hfr hgr
            go_wp2_with fail
            refine (blockAt_any ⟨ge, 0, none⟩ (64 * q) (64 * q) _ _ (by omega) (by omega) (Nat.le_refl _) (by unfold maxLen; omega)).mono ?_
            rintro e w2 ⟨rfl, rfl⟩
            rw [Int.toNat_natCast]
            go_wp2_with fail
            have hbk := cells_block HCA.out j
            rw [lit_add, Nat.zero_add] at hbk
            have HBK := hid hbk; clear hbk
            refine (absorb_any (runs st0 (pad b) (m + j)) (((b.drop (m * 64) ++ tail len).drop (64 * j)).take 64) gs _ _ _ HK2.out HCS4.out HFR4.out HG0.out HBK.out (by rw [List.length_take, List.length_drop, HQ1.out]; omega) (by omega) (by show ge ≠ gs; have := HGG.out; omega)).mono ?_
            rintro e w2 ⟨rfl, hcs2, hfr2, hgr2⟩
            have HCS5 := hid hcs2; have HFR5 := hid hfr2; have HGR5 := hid hgr2
            clear hcs2 hfr2 hgr2
            go_wp2
            go_roundw
            case rel => exact ⟨j + 1, by omega, by go_num, by rw [← Nat.add_assoc, runs, HQ5.out j hlt2]; exact HCS5.out, HFR5.out, grown_tr HGR4.out HGR5.out⟩
            case measure => simp [intOf]; omega
          · have hjq := hid (show j = q by omega)
            have HCS4 := hid hcs; have HGR4 := hid hgr
            clear hcs hfr hgr
            go_wp2_with fail
            refine (digest_any _ gs _ HCS4.out).mono ?_
            rintro e w5 ⟨rfl, hb5⟩
            have hout : out (runs st0 (pad b) (m + j)) = sha b := by rw [hjq.out, sha, HQ2.out]
            rw [hout]
            have HD5 := hid ((HD3.out.grown HGR4.out (by show w.heap.size ≠ gs; have := HX.out; have := HGD.out; omega)).ups hb5)
            have HWW4 := hid (show w.heap.size < wr.heap.size by have h1 := HGR4.out.size; have h2 := HBE.out.size; have h3 := HWW.out; omega)
            have HF5 := hid ((HF3.out.grown HGR4.out (by have := HX.out; have := HGD.out; omega) (by have h2 := HBE.out.size; have h3 := HWW.out; omega)).up hb5 HWW4.out)
            have HB5 := hid (show Below w.heap.size w w5 from (HBW.out.grown HGR4.out HBW.out.size (fun i e => by cases e; exact HGE.out)).trans (hb5.mono (Nat.le_of_lt HWW4.out)))
            rw [← HGD.out] at HD5 HF5
            clear hb5 hout
            obtain ⟨hst, hsm⟩ := store_over (P := Tryd.prog) HD5.out HF5.out (us := (sha b).map vb) (all_oneCell_toArray (one_vb _)) (by rw [List.length_map, sha_length, List.length_map, List.length_replicate])
            have hlen : ((sha b).map vb).length = 32 := by rw [List.length_map, sha_length]
            have hinf : (Tryd.prog.info? 35).map (·.size) = some ((sha b).map vb).length := by rw [hlen]; kernel_rfl
            obtain ⟨vs, hvs⟩ := isV_of (sha b)
            rw [← isV_eq hvs] at hst hsm hlen hinf ⊢
            have HSM := hid hsm; clear hsm
            go_wp2
            exact bodyPost_ret (v := .agg vs.toArray) (results_cell_mid Tryd.results64 _ _ gd vs _ (by simp only [Array.getD]; rfl) HSM.out.range Tryd.underlying35 rfl hinf) rfl ⟨by rw [isV_eq hvs], setCells_below gd (by rw [HGD.out]; omega) vs 0 w5 HB5.out⟩
end Go.Proofs.YtaoehkoffhnidaaDoor.Dg

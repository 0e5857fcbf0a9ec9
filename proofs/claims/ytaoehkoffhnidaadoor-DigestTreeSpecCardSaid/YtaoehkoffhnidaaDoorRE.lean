/- The reference of layer 2: the hash of bytes. -/
import Derived.Test.YtaoehkoffhnidaaDoorRD
namespace Go.Proofs.YtaoehkoffhnidaaDoor.Dg
open Go.RowKit Go
set_option linter.unusedVariables false
set_option maxRecDepth 20000
set_option linter.unusedSimpArgs false
/-- only block g has changed, and no block is new -/
def Only (g : Nat) (w W : World) : Prop := w.grownBy W (some g) ∧ W.heap.size = w.heap.size
theorem Only.cells {w W : World} {g : Nat} {a : Addr} {vs : List Value} (h : Only g w W) (hc : Cells w a vs) (ha : a.block ≠ g) : Cells W a vs := hc.grown h.1 ha
theorem Only.room {w W : World} {g k : Nat} (h : Only g w W) (hr : Room w k) (hk : k ≠ g) : Room W k := by
  obtain ⟨⟨zs, h1, h2⟩, h3, h4⟩ := hr
  exact ⟨⟨zs, h.cells h1 hk, h2⟩, h3.grown h.1 hk h4, by rw [h.2]; exact h4⟩
theorem only_sets {w : World} {g : Nat} (us : List Value) : ∀ (o : Nat), Only g w (w.setCells g o us) := by
  intro o
  refine ⟨?_, setCells_size g us o w⟩
  induction us generalizing o w with
  | nil => exact ⟨rfl, rfl, rfl, Nat.le_refl _, fun _ _ _ => rfl⟩
  | cons u us ih =>
    rw [World.setCells]
    have h1 : w.grownBy (w.setCell ⟨g, o, none⟩ u) (some g) := grown_set (grown_of_below (Below.refl _ _)) u
    exact grown_tr h1 (ih (w := w.setCell ⟨g, o, none⟩ u) (o + 1))
theorem val64 {x y : Int} (h : x = y) : Value.int .i64 x = Value.int .i64 y := by rw [h]
theorem own_base {w : World} {base g cap : Nat} {l : List UInt8} (h : Own w base g cap l) (h0 : 0 < l.length) : base ≤ g ∧ l.length ≤ cap ∧ cap ≤ maxLen := by
  have hb := h.bs
  rcases h.2 with ⟨e, _⟩ | ⟨g', cap', cur, e, hx⟩
  · cases e
  · cases e
    rcases hb with ⟨e, _⟩ | ⟨a, c, e, h1, h2, _⟩
    · cases e
    · cases e
      exact ⟨hx.1, h1, h2⟩
theorem still_load_mid {P : Program} {ops : Array Oper} {rest : List Oper} {op : Oper} {a : Act} {w : World} {Q : Act → Prop} (hgd : op.guard = none) (ty : TypeId) (x : Operand) (ho : op.op = .load ty x)
    (b o : Nat) (hx : a.eval x = .pointer (some ⟨b, o, none⟩)) (cs : List Value) (d : TypeDesc) (hc : w.rangeAt b o cs)
    (hu : P.underlying ty = some d) (hd : d.isRow = true) (hi : (P.info? ty).map (·.size) = some cs.length)
    (h : wpStill P ops w Q rest (a.put op.dst (.agg cs.toArray))) : wpStill P ops w Q (op :: rest) a := by
  refine wpStill_step (fun K hK => ?_)
  have hw : Region.wanted op (yielded ops a.tmps) = true := by simp [Region.wanted, hgd]
  rw [if_pos hw]
  unfold Oper.still execOp
  simp only [ho, hx, Instr.loadAt, Instr.sureAddr, Sem.run_bind, Sem.run_pure, Result.andThen_ok, run_loadVar_mid w b o ty cs d hc hu hd hi, Oper.stillUpon]
  exact ⟨trivial, hK _ h⟩
theorem pad_len (b : List UInt8) : ∃ q, (pad b).length = 64 * q ∧ 0 < q ∧ (pad b).length ≤ b.length + 130 := by
  refine ⟨(pad b).length / 64, ?_, ?_, ?_⟩
  all_goals
    have : (pad b).length = b.length + (9 + (119 - b.length % 64) % 64) := by unfold pad; rw [List.length_append, tail_length]
    omega
def zero32 : List Value := List.replicate 32 (.int .u8 0)
theorem z32_len : zero32.length = 32 := by simp [zero32]
theorem z32_one : zero32.toArray.all (·.oneCell') = true := all_oneCell_toArray (fun v hv => by unfold zero32 at hv; obtain ⟨_, rfl⟩ := List.mem_replicate.1 hv; rfl)
theorem z32_outs (s : St) : zero32 = (outs s 0).map vb := by unfold zero32 outs; simp [vb]
def stN (b : List UInt8) (q : Nat) : St := runs st0 (pad b) q
set_option maxRecDepth 100000 in
set_option maxHeartbeats 1000000 in
theorem rSum_any (v : Value) (b : List UInt8) (w : World) (hv : BS w v b) (hn : b.length ≤ 1000000000) :
   Calls Tryd.prog 95 #[v] w (RetD w (sha b)) := by
  have HV := hid hv; have HN := hid hn; clear hv hn
  go_enter Tryd.func95, Tryd.ntmps95
  go_upto_region 1 with fail
  refine code_alloc ?_
  intro W hrc hrf hrb hrs
  have HR := hid (Room.mk hrc rfl hrf hrs)
  have HB := hid hrb
  obtain ⟨gd, hgd⟩ : ∃ gd, gd = w.heap.size := ⟨_, rfl⟩
  rw [← hgd] at HR ⊢
  have HGD := hid hgd
  clear hrc hrf hrb hrs hgd
  have z8 : (Kc st0).length = 8 := rfl
  go_wp2_with (refine wpl_store_new (zs := List.replicate 8 (.int .u32 0)) (vs := Kc st0) 85 (.tmp 3) (.tmp 8) rfl rfl rfl rfl rfl (by kernel_rfl) (one_v32 _) ?_; intro W1 hwc hwf hwb hws; have HWC := hid hwc; have HWF := hid hwf; have HWB := hid hwb; have HWS := hid hws; clear hwc hwf hwb hws)
  obtain ⟨gs, hgs⟩ : ∃ gs, gs = W.heap.size := ⟨_, rfl⟩
  rw [← hgs] at HWC HWF HWB HWS ⊢
  have hB1 := below_tr HB.out (by rw [hgs] at HWB; exact HWB.out)
  have HV1 := hid (HV.out.ups hB1)
  have HR1 := hid (HR.out.ups (by rw [hgs] at HWB; exact HWB.out))
  have HGS := hid (show w.heap.size ≤ gs ∧ gd ≠ gs by
    have h1 := HB.out.size; have h2 := HR.out.2.2
    exact ⟨by omega, by omega⟩)
  have HB1 := hid hB1
  clear hB1 HWB HB HR HV hgs z8
  refine (rpad_any v b W1 HV1.out HN.out).mono ?_
  rintro e w2 ⟨u, rfl, ho, hb2⟩
  obtain ⟨q, hq1, hq0, hq2⟩ := pad_len b
  rcases ho with ho | ⟨ho, _⟩
  case inr => rw [ho] at hq1; simp at hq1; omega
  obtain ⟨gp, cap, rfl, how⟩ := Own.of_row ho (by omega)
  have hob := own_base how (by omega)
  have HP := hid how.cells
  have HC2 := hid (HWC.out.ups hb2)
  have hs1 : gs < W1.heap.size := by rw [HWS.out]; omega
  have HF2 := hid (HWF.out.up hb2 hs1)
  have HB2 := hid (below_tr HB1.out hb2)
  have HR2 := hid (HR1.out.ups hb2)
  have hpne : gp ≠ gs := by omega
  obtain ⟨L, hL⟩ : ∃ L, L = (pad b).length := ⟨_, rfl⟩
  rw [← hL] at hob hq1 hq2 ⊢
  have hL2 : L ≤ 1000000130 := by have := HN.out; omega
  have HL := hid hL; have HQ := hid hq1
  have hcap := hob.2.1
  have hcm : cap ≤ 9223372036854775807 := by have := hob.2.2; unfold maxLen at this; omega
  clear ho how hb2 hob hL hq2 HB1 HR1 HWC HWF HWS HV1 hs1 hq1
  go_wp2_with fail
  go_loopw [5] (fun s5 wr => ∃ k : Nat, 64 * k ≤ L ∧ s5 = .int .i64 ((64 * k : Nat) : Int) ∧ Hid (Cells wr ⟨gs, 0, none⟩ (Kc (runs st0 (pad b) k))) ∧ Hid (Free wr gs) ∧ Hid (Cells wr ⟨gp, 0, none⟩ ((pad b).map vb)) ∧ Hid (Room wr gd) ∧ Hid (Below w.heap.size w wr)) (fun s5 _ => L - (intOf s5).toNat)
  case atStart => exact ⟨0, by omega, rfl, HC2, HF2, HP, HR2, HB2⟩
  case round =>
    clear HC2 HF2 HP HR2 HB2
    obtain ⟨k, hk, rfl, HC, HF, HP, HR, HB⟩ := hrel
    by_cases hlt : 64 * k < L
    · have hk2 : 64 * k + 64 ≤ L := by have := HQ.out; omega
      obtain ⟨n, hn⟩ : ∃ n, n = 64 * k := ⟨_, rfl⟩
      rw [← hn] at hlt hk2 hk ⊢
      have HNN := hid hn; clear hn
      go_wp2_with fail
      obtain ⟨vs, hvs⟩ : ∃ vs, vs = Kc (runs st0 (pad b) k) := ⟨_, rfl⟩
      have hvl : vs.length = 8 := by rw [hvs]; rfl
      have hi8 : (Tryd.prog.info? 85).map (·.size) = some vs.length := by rw [hvl]; kernel_rfl
      obtain ⟨w3, hw3⟩ : ∃ w3, w3 = wr.drew := ⟨_, rfl⟩
      have hrg : w3.rangeAt gs 0 vs := by rw [hvs, hw3]; exact HC.out.range
      have HVS := hid hvs
      have HC3 : Hid (Cells w3 ⟨gs, 0, none⟩ vs) := hid (by rw [hw3, hvs]; exact HC.out)
      have HF3 : Hid (Free w3 gs) := hid (by rw [hw3]; exact HF.out)
      have HP3 : Hid (Cells w3 ⟨gp, 0, none⟩ ((pad b).map vb)) := hid (by rw [hw3]; exact HP.out)
      have HR3 : Hid (Room w3 gd) := hid (by rw [hw3]; exact HR.out)
      have HB3 : Hid (Below w.heap.size w w3) := hid (by rw [hw3]; exact HB.out.drew)
      have e64 : IntKind.i64.wrap ((n : Int) + 64) = (n : Int) + 64 := IntWalk.i64_in _ (by omega)
      have i0 : (0 : Int) ≤ (n : Int) := by omega
      have i1 : (n : Int) ≤ (n : Int) + 64 := by omega
      have i2 : (n : Int) + 64 ≤ (cap : Int) := by omega
      have i3 : ((n : Int) + 64).toNat = n + 64 := by omega
      have i4 : (0 : Int) ≤ (n : Int) + 64 := by omega
      have i5 : n + 64 ≤ cap := by omega
      have i6 : ¬ cap = n := by omega
      have HLK := hid (show n + 64 ≤ (pad b).length by rw [← HL.out]; exact hk2)
      refine wp_region_still_tail 6 (by kernel_rfl) (by kernel_rfl) ?_
      simp only [List.take_succ_cons, List.take_zero, List.drop_succ_cons, List.drop_zero]
      change wpStill Tryd.prog _ wr.drew (fun a' => wpList Tryd.prog _ _ _ a' wr.drew) _ _
      rw [← hw3]
      clear hvs hvl HC HF HP HR HB hw3
      refine still_load_mid rfl 85 (.tmp 3) rfl gs 0 rfl vs _ hrg Tryd.underlying85 rfl hi8 ?_
      clear hrg hi8
      repeat still_step
      try refine wpStill_nil ?_
      clear i0 i1 i2 i3 i4 i5 i6 e64
      go_wp2_with fail
      have hcb := cells_block HP3.out k
      rw [lit_add, Nat.zero_add, show k * 64 = n by rw [HNN.out, Nat.mul_comm]] at hcb
      have hblk := rblock_any (runs st0 (pad b) k) (((pad b).drop (64 * k)).take 64) ⟨gp, n, none⟩ (cap - n) w3 hcb (by rw [List.length_take, List.length_drop, ← HNN.out]; have := HLK.out; omega) (by omega)
      rw [← HVS.out] at hblk
      refine hblk.mono ?_
      rintro e w4 ⟨rfl, hb4⟩
      clear hblk hcb
      obtain ⟨nx, hnx⟩ : ∃ nx, nx = runs st0 (pad b) (k + 1) := ⟨_, rfl⟩
      have hnb : blk (runs st0 (pad b) k) (((pad b).drop (64 * k)).take 64) = nx := by rw [hnx]; rfl
      rw [hnb]
      obtain ⟨us, hus⟩ : ∃ us, us = Kc nx := ⟨_, rfl⟩
      rw [← hus]
      have hul : us.length = 8 := by rw [hus]; rfl
      have hc4 := HC3.out.ups hb4
      have hf4 := HF3.out.up hb4 (HC3.out.lt (by intro h; have := HVS.out; rw [h] at this; simp [Kc, St.list] at this))
      have hv8 : vs.length = 8 := by rw [HVS.out]; rfl
      have hth0 : w4.there gs 0 us.length := by have := hc4.there hf4; rw [hv8] at this; rw [hul]; exact this
      have hth : w4.there gs 0 us.toArray.size := by rw [List.size_toArray]; exact hth0
      have hinf : (Tryd.prog.info? 85).map (·.size) = some us.toArray.size := by rw [List.size_toArray, hul]; kernel_rfl
      have hone : us.toArray.all (·.oneCell') = true := by rw [hus]; exact one_v32 _
      have HC5 : Hid (Cells (w4.setCells gs 0 us) ⟨gs, 0, none⟩ (Kc (runs st0 (pad b) (k + 1)))) := hid (by rw [← hnx, ← hus]; exact range_cells (World.rangeAt_setCells_same w4 gs 0 us hth0))
      have hon := only_sets (w := w4) (g := gs) us 0
      have HF5 : Hid (Free (w4.setCells gs 0 us) gs) := hid (hf4.sets _ _ _)
      have HP5 : Hid (Cells (w4.setCells gs 0 us) ⟨gp, 0, none⟩ ((pad b).map vb)) := hid (hon.cells (HP3.out.ups hb4) hpne)
      have HR5 : Hid (Room (w4.setCells gs 0 us) gd) := hid (hon.room (HR3.out.ups hb4) HGS.out.2)
      have HB5 : Hid (Below w.heap.size w (w4.setCells gs 0 us)) := hid (setCells_below gs HGS.out.1 us 0 w4 (below_tr HB3.out hb4))
      clear hc4 hf4 hv8 hon hb4 hnx hnb HC3 HF3 HP3 HR3 HB3 hul hus hth0
      go_wp2_with (refine wpList_store_mid rfl 85 (.tmp 3) (.tmp 23) rfl gs 0 us.toArray rfl rfl hth hinf hone ?_)
      go_roundw
      case rel => exact ⟨k + 1, by have := HNN.out; omega, val64 (by have := HNN.out; omega), HC5, HF5, HP5, HR5, HB5⟩
      case measure => simp [intOf]; omega
    · have hkq : k = q := by have := HQ.out; omega
      have HC2 := hid HC.out
      clear HC HF HP
      rw [hkq, show runs st0 (pad b) q = stN b q from rfl] at HC2
      obtain ⟨s, hs⟩ : ∃ s, s = stN b q := ⟨_, rfl⟩
      rw [← hs] at HC2
      have HS := hid hs
      clear hs
      go_wp2_with (refine wpl_store_new (zs := zero32) (vs := zero32) 35 (.tmp 6) (.tmp 24) rfl rfl rfl rfl rfl (info26 z32_len) z32_one ?_; intro W3 hwc hwf hwb hws; have HZC := hid hwc; have HZF := hid hwf; have HZB := hid hwb; have HZS := hid hws; clear hwc hwf hwb hws)
      obtain ⟨gz, hgz⟩ : ∃ gz, gz = wr.heap.size := ⟨_, rfl⟩
      rw [← hgz] at HZC HZF HZB HZS ⊢
      have hgsz : gs < gz := by rw [hgz]; exact HC2.out.lt (by unfold Kc St.list; simp)
      have hgdz : gd < gz := by rw [hgz]; exact HR.out.2.2
      have hwz : w.heap.size ≤ gz := by rw [hgz]; exact HB.out.size
      have HGZ := hid hgsz; have HGZ2 := hid hgdz; have HGZ3 := hid hwz
      have hzb : Below wr.heap.size wr W3 := by rw [← hgz]; exact HZB.out
      have HC3 := hid (HC2.out.ups hzb)
      have HR3 := hid (HR.out.ups hzb)
      have HB3 := hid (below_tr HB.out hzb)
      clear hzb
      have HW3 := hid (show gs < W3.heap.size ∧ gd < W3.heap.size ∧ gz < W3.heap.size by rw [HZS.out]; omega)
      rw [z32_outs s] at HZC
      have HLL := hid HL.out
      clear HR HB HC2 HZB HZS hgz hgsz hgdz hwz HL hkq hlt hk hcap hcm hL2 hq0 
      go_loopw [7] (fun i w1 => ∃ k : Nat, k ≤ 32 ∧ i = .int .i64 k ∧ Cells w1 ⟨gz, 0, none⟩ ((outs s k).map vb) ∧ Below gz W3 w1 ∧ Free w1 gz) (fun i _ => 32 - (intOf i).toNat)
      case atStart => exact ⟨0, by omega, rfl, HZC.out, Below.refl _ _, HZF.out⟩
      case round =>
        clear HZC HZF
        obtain ⟨k, hk, rfl, hcs, hb, hfr⟩ := hrel
        by_cases hlt : k < 32
        · obtain ⟨x, hx⟩ : ∃ x, x = s.list.getD (k / 4) 0 := ⟨_, rfl⟩
          have cs : wr.cell? ⟨gs, k / 4, none⟩ = some (.int .u32 x.toNat) := by rw [hx]; exact (HC3.out.up hb HGZ.out).at0 (st_get s (k / 4) (by omega))
          obtain ⟨x1, hx1⟩ := byte_there hcs (j := k) (by rw [outs_length s k hk]; omega)
          have hfx := hfr k
          have HX := hid hx; have HCS := hid hcs; have HFR := hid hfr; have HBB := hid hb
          clear hx hcs hfr hb
          go_wp2_with fail
          go_roundw
          case rel => exact ⟨k + 1, by omega, by go_num, by rw [← outs_set s k hlt]; exact byte_put HCS.out (by rw [byteAt, byte_ofNat, ← HX.out, Nat.shiftRight_eq_div_pow, Nat.mul_comm (k % 4) 8]; push_cast; rfl), HBB.out.setCell (Nat.le_refl _) _, HFR.out.set _ _⟩
          case measure => simp [intOf]; omega
        · have hk32 := hid (show k = 32 by omega)
          rw [show k = 32 from by omega, outs_all] at hcs
          have hsha : sha b = out s := by
            rw [HS.out]; unfold sha stN
            rw [show (pad b).length / 64 = q by rw [← HLL.out, HQ.out]; omega]
          have hd : IsD (sha b) ((out s).map vb) := by rw [hsha]; exact isD_of (out_length s)
          obtain ⟨vs, hvs⟩ : ∃ vs, vs = (out s).map vb := ⟨_, rfl⟩
          rw [← hvs] at hcs hd
          have hinf := info26 hd.len'
          have hvl := hd.len'
          have HCS := hid hcs
          have HR4 := hid ((show Room wr gd from ⟨HR3.out.1.elim fun zs h => ⟨zs, h.1.up hb HGZ2.out, h.2⟩, HR3.out.2.1.up hb HGZ2.out, Nat.lt_of_lt_of_le HW3.out.2.1 hb.size⟩))
          have HB4 := hid (HB3.out.trans (hb.mono HGZ3.out))
          have HD := hid hd
          obtain ⟨w5, hst, hc5, hbb⟩ := HR4.out.store hd
          have HC5 := hid hc5
          have HB6 := hid (hbb _ _ (by rw [HGD.out]; exact Nat.le_refl _) HB4.out)
          clear hcs hd hfr hb hvs hbb hc5
          go_wp2_with (refine wpList_load_mid rfl 35 (.tmp 6) rfl gz 0 rfl vs _ HCS.out.range Tryd.underlying35 rfl hinf ?_)

          exact bodyPost_ret (v := .agg vs.toArray) (results_cell_mid Tryd.results95 _ _ gd vs _ (by simp only [Array.getD]; rfl) HC5.out.range Tryd.underlying35 rfl hinf) rfl ⟨vs, HD.out, rfl, HB6.out⟩
end Go.Proofs.YtaoehkoffhnidaaDoor.Dg
namespace Go.Proofs.YtaoehkoffhnidaaDoor.Dg
open Go.RowKit Go
set_option linter.unusedVariables false
set_option maxRecDepth 20000
set_option linter.unusedSimpArgs false
set_option maxRecDepth 100000 in
set_option maxHeartbeats 1000000 in
theorem rTagged_any (tag : ByteArray) (v : Value) (b : List UInt8) (w : World) (hv : BS w v b) (ht : tag.size ≤ 100000000) (hn : b.length ≤ 100000000) :
   Calls Tryd.prog 69 #[.string tag, v] w (RetD w (tagd tag.data.toList b)) := by
  have HV := hid hv; have HT := hid ht; have HN := hid hn
  clear hv hn ht
  have hcv : ∀ W, (convert 9 22 (.string tag)).run Tryd.prog W = .ok (.slice (some ⟨W.heap.size, 0, none⟩) tag.size (grownCap W tag.size 0 5)) (Lib.bytesWorld W 5 tag) := fun W => Lib.run_convert_string_bytes (P := Tryd.prog) W 9 22 5 tag Tryd.underlying9 Tryd.underlying22 Tryd.underlying5
  go_enter Tryd.func69, Tryd.ntmps69
  go_upto_region 1 with (fail)
  refine code_alloc ?_
  intro W0 hc0 hf0 hb0 hs0
  have HR0 := hid (Room.mk hc0 rfl hf0 hs0)
  have HB0 := hid hb0
  obtain ⟨gd, hgd⟩ : ∃ gd, gd = w.heap.size := ⟨_, rfl⟩
  rw [← hgd] at HR0 ⊢
  have HGD := hid hgd
  clear hc0 hf0 hb0 hs0 hgd
  go_wp2_with fail
  have hbb := str_below W0 tag
  refine (rSum_any _ tag.data.toList _ (str_bs W0 tag (by have := HT.out; omega)) (by have := HT.out; simp; omega)).mono ?_
  rintro e w1 ⟨vs, hd, rfl, hb1⟩
  have HR1 := hid (HR0.out.ups (below_tr hbb hb1))
  have HB1 := hid (below_tr HB0.out (below_tr hbb hb1))
  clear hbb hb1 hcv
  have hlen := hd.len'
  go_wp2_with fail
  refine upon_store_new (by rw [hlen]; rfl) hd.one ?_
  intro W1 hc1 hf1 hb2 hs1
  obtain ⟨g5, hg5⟩ : ∃ g5, g5 = w1.heap.size := ⟨_, rfl⟩
  rw [← hg5] at hc1 ⊢
  have HC1 := hid hc1; have HB2 := hid (below_tr HB1.out hb2); have HR2 := hid (HR1.out.ups hb2); have HG5 := hid (show g5 < W1.heap.size by rw [hs1, hg5]; omega)
  clear hc1 hf1 hb2 hs1 hg5 hlen
  have hal : Below W1.heap.size W1 (W1.alloc (.cells #[] 5)) := below_al _ _
  have hbs := hd.bs (HC1.out.ups hal) (Nat.lt_of_lt_of_le HG5.out hal.size)
  obtain ⟨v1, w2, hr1, ho1, hb1⟩ := append_ob (w := W1.alloc (.cells #[] 5)) (base := W1.heap.size) (v := .slice (some ⟨W1.heap.size, 0, none⟩) 0 0) (l := []) (.inr ⟨rfl, _, rfl⟩) hbs (by simp [sha_length]) hal.size
  rw [List.nil_append] at ho1
  have hv2 := (HV.out.ups (HB2.out.trans ((hal.trans hb1).mono HB2.out.size)))
  obtain ⟨v2, w3, hr2, ho2, hb2⟩ := append_ob ho1 hv2 (by have := HN.out; rw [sha_length]; omega) (Nat.le_trans hal.size hb1.size)
  have hB2 := hid ((hal.trans hb1).trans hb2)
  have H1 := hid hr1; have H2 := hid hr2; have HO := hid ho2
  clear hr1 hr2 ho2 hb1 hb2 ho1 hal hbs hv2
  go_wp2_with (at_builtin; first | (refine wpList_append_run rfl (.tmp 9) (.tmp 10) 22 22 rfl _ _ _ rfl rfl H1.out ?_) | (refine wpList_append_run rfl (.tmp 11) (.tmp 12) 22 22 rfl _ _ _ rfl rfl H2.out ?_))
  refine (rSum_any v2 _ _ (HO.out.bs (by rw [List.length_append, sha_length]; omega)) (by rw [List.length_append, sha_length]; have := HN.out; omega)).mono ?_
  rintro e w4 ⟨us, hd2, rfl, hb5⟩
  have HB5 := hid (below_tr HB2.out (hB2.out.trans (hb5.mono hB2.out.size)))
  obtain ⟨w5, hst, hc5, hbb⟩ := ((HR2.out.ups hB2.out).ups hb5).store hd2
  have HC5 := hid hc5
  have HB6 := hid (hbb _ _ (by rw [HGD.out]; exact Nat.le_refl _) HB5.out)
  have hlen := hd2.len'
  clear hb5 hbb hc5
  go_wp2
  exact bodyPost_ret (v := .agg us.toArray) (results_cell_mid Tryd.results69 _ _ gd us _ (by simp only [Array.getD]; rfl) HC5.out.range Tryd.underlying35 rfl (info26 hlen)) rfl ⟨us, hd2, rfl, HB6.out⟩
end Go.Proofs.YtaoehkoffhnidaaDoor.Dg

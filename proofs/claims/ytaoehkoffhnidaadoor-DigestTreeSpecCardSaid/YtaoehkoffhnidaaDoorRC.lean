/- The reference of layer 2: the state after a block. -/
import Derived.Test.YtaoehkoffhnidaaDoorRA
import Derived.Deep.RegionHeld3
import Derived.Deep.QuietTactic
import Derived.BigQuiet
namespace Go.Proofs.YtaoehkoffhnidaaDoor.Dg
open Go.RowKit Go
set_option linter.unusedVariables false
set_option maxRecDepth 20000
set_option linter.unusedSimpArgs false
/-- a value is stored into a new block -/
theorem wpl_store_new {ops : Array Oper} {rest : List Oper} {o : Oper} {a : Act} {w1 : World} {Q : Exit → Act → World → Prop} {zs vs : List Value} {t : TypeId} (T : TypeId) (p x : Operand) (hg : o.guard = none) (ho : o.op = .store T p x)
    (hp : a.eval p = .pointer (some ⟨w1.heap.size, 0, none⟩)) (hx : a.eval x = .agg vs.toArray) (hl : vs.length = zs.length) (hi : (Tryd.prog.info? T).map (·.size) = some vs.length) (h1 : vs.toArray.all (·.oneCell') = true)
    (h : ∀ W, Cells W ⟨w1.heap.size, 0, none⟩ vs → Free W w1.heap.size → Below w1.heap.size w1 W → W.heap.size = w1.heap.size + 1 → wpList Tryd.prog ops Q rest (a.put o.dst undef) W) :
    wpList Tryd.prog ops Q (o :: rest) a (w1.alloc (.cells zs.toArray t)) := by
  have hc := cells_alloc w1 zs t
  have hf := free_alloc w1 zs.toArray t
  have hth : (w1.alloc (.cells zs.toArray t)).there w1.heap.size 0 vs.length := by rw [hl]; exact hc.there hf
  refine wpList_store_mid hg T p x ho w1.heap.size 0 vs.toArray hp hx (by rw [List.size_toArray]; exact hth) (by rw [List.size_toArray]; exact hi) h1 ?_
  refine h _ (range_cells (World.rangeAt_setCells_same _ w1.heap.size 0 vs hth)) (hf.sets vs 0 _) (setCells_below w1.heap.size (Nat.le_refl _) vs 0 _ (below_al _ _)) ?_
  show ((w1.alloc _).setCells w1.heap.size 0 vs).heap.size = _
  rw [setCells_size]; simp
theorem nxt_raw2 (x16 x15 x7 x2 : BitVec 32) : IntKind.u32.wrap (IntKind.u32.wrap (IntKind.u32.wrap ((x16.toNat : Int) + bits BinOp.xor IntKind.u32 (bits BinOp.xor IntKind.u32 ((rr x15 7).toNat : Int) ((rr x15 18).toNat : Int)) ((x15.toNat : Int) / 8)) + (x7.toNat : Int)) + bits BinOp.xor IntKind.u32 (bits BinOp.xor IntKind.u32 ((rr x2 17).toNat : Int) ((rr x2 19).toNat : Int)) ((x2.toNat : Int) / 1024))
    = ((x16 + (rr x15 7 ^^^ rr x15 18 ^^^ x15 >>> 3) + x7 + (rr x2 17 ^^^ rr x2 19 ^^^ x2 >>> 10)).toNat : Int) := by
  rw [show (8 : Int) = 2 ^ 3 from rfl, show (1024 : Int) = 2 ^ 10 from rfl, shr32, shr32]
  simp only [xor32, add32']
theorem cells_drewN {w : World} {a : Addr} {vs : List Value} (h : Cells w a vs) (n : Nat) : Cells (w.drewN n) a vs := h
theorem kv_get (k : Nat) (h : k < 64) : Kv[k]? = some (.int .u32 ((kk k).toNat : Int)) := by
  have e : (kk k).toNat = Kn.getD k 0 := (show ∀ t, t < 64 → (kk t).toNat = Kn.getD t 0 by decide +kernel) k h
  have hl : k < Kn.length := by have : Kn.length = 64 := by decide
                                omega
  rw [e, List.getD_eq_getElem?_getD]
  unfold Kv
  rw [List.getElem?_map, List.getElem?_eq_getElem hl]; rfl
theorem r3_raw (x : BitVec 32) (k m n : Nat) : bits BinOp.xor IntKind.u32 (bits BinOp.xor IntKind.u32 ((rr x k).toNat : Int) ((rr x m).toNat : Int)) ((rr x n).toNat : Int) = ((r3 x k m n).toNat : Int) := by
  rw [xor32, xor32]; rfl
def zero64 : List Value := List.replicate 64 (.int .u32 0)
theorem z64_len : zero64.length = 64 := by simp [zero64]
theorem z64_one : zero64.toArray.all (·.oneCell') = true := all_oneCell_toArray (fun v hv => by unfold zero64 at hv; obtain ⟨_, rfl⟩ := List.mem_replicate.1 hv; rfl)
set_option maxRecDepth 100000 in
set_option maxHeartbeats 4000000 in
theorem rblock_any (s : St) (l : List UInt8) (a : Addr) (cap : Nat) (w : World) (hc : Cells w a (l.map vb)) (hl : l.length = 64) (hcap : 64 ≤ cap) :
   Calls Tryd.prog 104 #[.agg (Kc s).toArray, .slice (some a) 64 cap] w fun e w' => e = .returned (.agg (Kc (blk s l)).toArray) ∧ Below w.heap.size w w' := by
  have HL := hid hl; clear hl
  have hab : a.block < w.heap.size := hc.lt (by intro h; have := congrArg List.length h; rw [List.length_map, HL.out] at this; simp at this)
  have HC := hid hc; clear hc
  go_enter Tryd.func104, Tryd.ntmps104
  go_upto_region 1 with fail
  have hcs0 := cells_alloc w (Kc s) 85
  have hfs0 := free_alloc w (Kc s).toArray 85
  have hb0 := below_al w (.cells (Kc s).toArray 85)
  have hz0 : (w.alloc (.cells (Kc s).toArray 85)).heap.size = w.heap.size + 1 := by simp
  generalize w.alloc (.cells (Kc s).toArray 85) = w0 at *
  rw [← hz0]
  refine code_alloc ?_
  intro W hrc hrf hrb hrs
  obtain ⟨gs, hgs⟩ : ∃ gs, gs = w.heap.size := ⟨_, rfl⟩
  obtain ⟨gr, hgr⟩ : ∃ gr, gr = w0.heap.size := ⟨_, rfl⟩
  rw [← hgs] at hcs0 hfs0 ⊢
  rw [← hgr] at hrc hrf ⊢
  have hB : Below w.heap.size w W := below_tr hb0 hrb
  have hS : Cells W ⟨gs, 0, none⟩ (Kc s) := hcs0.ups hrb
  have e1 : gs < W.heap.size := by omega
  have e2 : gr < W.heap.size := by omega
  have e3 : gs < gr := by omega
  have e4 : w.heap.size ≤ gr := by omega
  have HS := hid hS; have HRC := hid hrc; have HRF := hid hrf; have HB := hid hB
  clear hcs0 hfs0 hb0 hz0 hrc hrf hrb hrs hgs hgr hS hB
  go_wp2_with (refine wpl_store_new (zs := zero64) (vs := zero64) 98 (.tmp 5) (.tmp 22) rfl rfl rfl rfl rfl (info65 z64_len) z64_one ?_; intro W1 hwc hwf hwb hws; have HWC := hid hwc; have HWF := hid hwf; have HWB := hid hwb; have HWS := hid hws; clear hwc hwf hwb hws)
  have HCB := hid (HC.out.ups HB.out)
  have hab2 : a.block < W.heap.size := Nat.lt_of_lt_of_le hab HB.out.size
  obtain ⟨g, hg⟩ : ∃ g, g = W.heap.size := ⟨_, rfl⟩
  rw [← hg] at HWC HWF HWB HWS hab2 e1 e2 ⊢
  have HG := hid hg; clear hg
  have hgs1 : g < W1.heap.size := by rw [HWS.out]; omega
  go_loopw [6] (fun i w1 => ∃ k : Nat, k ≤ 16 ∧ i = .int .i64 k ∧ Cells w1 ⟨g, 0, none⟩ (sch1 l k) ∧ Below g W w1 ∧ g < w1.heap.size ∧ Free w1 g) (fun i _ => 16 - (intOf i).toNat)
  case atStart => exact ⟨0, by omega, rfl, HWC.out, HWB.out, hgs1, HWF.out⟩
  case round =>
    obtain ⟨k, hk, rfl, hcs, hb, hgs, hfr⟩ := hrel
    by_cases hlt : k < 16
    · have HD := hid ((HCB.out.up hb hab2).drop (4 * k))
      rw [← List.map_drop] at HD
      have hm1 : 4 * k + 4 ≤ 64 := by omega
      go_wp2_with fail
      refine (rword_any (l.drop (4 * k)) _ _ _ _ HD.out (by rw [List.length_drop, HL.out]; omega) (by omega) (by unfold maxLen; omega)).mono ?_
      rintro e w' ⟨rfl, q, rfl⟩
      have hx : ∃ x, (sch1 l k)[k]? = some x := ⟨_, List.getElem?_eq_getElem (by unfold sch1; have := words_len l; simp; omega)⟩
      obtain ⟨x, hx⟩ := hx
      have hcs2 : Cells (wr.drewN q) ⟨g, 0, none⟩ (sch1 l k) := hcs
      have hcx := hcs2.at0 hx
      have hset := hid (hcs2.set k (v32 (wd (l.drop (4 * k)))))
      rw [sch1_set l k hlt] at hset
      have hfx : (wr.drewN q).frozen? ⟨g, k, none⟩ = false := hfr k
      have HF := hid hfr
      clear hx hfr hcs hcs2
      go_wp2
      go_roundw
      case rel => exact ⟨k + 1, by omega, by go_num, hset.out, (below_drewN hb q).setCell (Nat.le_refl _) _, by simpa using hgs, HF.out.drawn.set _ _⟩
      case measure => simp [intOf]; omega
    · have hd : decide ((k : Int) < 16) = false := by simp; omega
      have HK := hid (show k = 16 by omega)
      have HF := hid hfr; have HC2 := hid hcs
      clear hfr hcs
      go_wp2_with fail
      clear HWC HWF HWB HWS hgs1
      go_loopw [7, 8, 9] (fun i _ _ w1 => ∃ t : Nat, 16 ≤ t ∧ t ≤ 64 ∧ i = .int .i64 t ∧ Cells w1 ⟨g, 0, none⟩ (sch2 l (t - 16)) ∧ Below g W w1 ∧ g < w1.heap.size ∧ Free w1 g) (fun i _ _ _ => 64 - (intOf i).toNat)
      case atStart => exact ⟨16, by omega, by omega, rfl, by have := HC2.out; rw [HK.out] at this; unfold sch1 at this; rw [List.take_of_length_le (by rw [words_len]; omega)] at this; exact this, hb, hgs, HF.out⟩
      case round =>
        clear hgs hb HF HC2
        obtain ⟨t, ht0, ht, rfl, hcs, hb, hgs, hfr⟩ := hrel
        by_cases hlt : t < 64
        · obtain ⟨x15, hx15⟩ : ∃ x, x = (sch l (t - 16)).getD (t - 15) 0 := ⟨_, rfl⟩
          have c15 : wr.cell? ⟨g, t - 15, none⟩ = some (.int .u32 x15.toNat) := by rw [hx15]; exact hcs.at0 (sch2_get l (t - 16) (t - 15) (by omega))
          have HX15 := hid hx15; clear hx15
          obtain ⟨x16, hx16⟩ : ∃ x, x = (sch l (t - 16)).getD (t - 16) 0 := ⟨_, rfl⟩
          have c16 : wr.cell? ⟨g, t - 16, none⟩ = some (.int .u32 x16.toNat) := by rw [hx16]; exact hcs.at0 (sch2_get l (t - 16) (t - 16) (by omega))
          have HX16 := hid hx16; clear hx16
          obtain ⟨x7, hx7⟩ : ∃ x, x = (sch l (t - 16)).getD (t - 7) 0 := ⟨_, rfl⟩
          have c7 : wr.cell? ⟨g, t - 7, none⟩ = some (.int .u32 x7.toNat) := by rw [hx7]; exact hcs.at0 (sch2_get l (t - 16) (t - 7) (by omega))
          have HX7 := hid hx7; clear hx7
          obtain ⟨x2, hx2⟩ : ∃ x, x = (sch l (t - 16)).getD (t - 2) 0 := ⟨_, rfl⟩
          have c2 : wr.cell? ⟨g, t - 2, none⟩ = some (.int .u32 x2.toNat) := by rw [hx2]; exact hcs.at0 (sch2_get l (t - 16) (t - 2) (by omega))
          have HX2 := hid hx2; clear hx2
          obtain ⟨x, hx⟩ : ∃ x, (sch2 l (t - 16))[t]? = some x := ⟨_, List.getElem?_eq_getElem (by rw [sch2_len _ _ (by omega)]; omega)⟩
          have cx : wr.cell? ⟨g, t, none⟩ = some x := hcs.at0 hx
          have fx : wr.frozen? ⟨g, t, none⟩ = false := hfr t
          have HCS := hid hcs; have HFR := hid hfr; have HBB := hid hb; have HGS := hid hgs
          clear hx hcs hfr hb hgs
          go_wp2_with fail
          have e16 : IntKind.i64.wrap ((t : Int) - 16) = ((t - 16 : Nat) : Int) := by rw [IntWalk.i64_in _ (by omega)]; omega
          have e7 : IntKind.i64.wrap ((t : Int) - 7) = ((t - 7 : Nat) : Int) := by rw [IntWalk.i64_in _ (by omega)]; omega
          have b16 : ((t - 16 : Nat) : Int) < 64 := by omega
          have b7 : ((t - 7 : Nat) : Int) < 64 := by omega
          have bt : (t : Int) < 64 := by omega
          have hn16 : (⟨g, t, none⟩ : Addr) ≠ ⟨g, t - 16, none⟩ := by first | (simp; done) | (simp; omega)
          have hn7 : (⟨g, t, none⟩ : Addr) ≠ ⟨g, t - 7, none⟩ := by first | (simp; done) | (simp; omega)
          clear c15 c2
          go_region_held3 (fun W' => W'.cell? ⟨g, t - 16, none⟩ = some (.int .u32 x16.toNat) ∧ W'.cell? ⟨g, t - 7, none⟩ = some (.int .u32 x7.toNat)) (first | exact ⟨c16, c7⟩ | exact ⟨(World.cell?_setCell_other (h := hn16) ..).trans c16, (World.cell?_setCell_other (h := hn7) ..).trans c7⟩ | go_keep) ((first | (go_at_call 108; refine (rror_any _ _ _ (by decide) (by decide)).mono ?_; rintro e w' ⟨rfl, q, rfl⟩)))
          clear e16 e7 cx fx c16 c7
          go_wp2_with fail
          go_roundw
          case rel => exact ⟨t + 1, by omega, by omega, by go_num, by rw [← sch2_step l t (by omega) (by omega)]; exact cells_put (cells_drewN HCS.out _) ((nxt_raw2 x16 x15 x7 x2).trans (by rw [HX15.out, HX16.out, HX7.out, HX2.out]; rfl)), (below_drewN HBB.out _).setCell (Nat.le_refl _) _, by simpa using HGS.out, HFR.out.drawn.set _ _⟩
          case measure => simp [intOf]; omega
        · have HT := hid (show t = 64 by omega)
          have hcs0 : Cells wr ⟨g, 0, none⟩ (sch2 l (64 - 16)) := by rw [HT.out] at hcs; exact hcs
          obtain ⟨vs, hvs, hcs, hlen, h1⟩ := sch_end l _ _ hcs0
          have hd2 : decide ((t : Int) < 64) = false := by simp; have := HT.out; omega
          have HCS := hid hcs; have HBB := hid hb; have HVS := hid hvs
          clear hcs hfr h1 hb hlen hcs0 hvs hgs
          go_wp2_with fail
          refine (numbers_any _).mono ?_
          rintro e w2 ⟨rfl, hb2⟩
          have HS2 := hid ((HS.out.up HBB.out e1).ups hb2)
          have HCW2 := hid (HCS.out.ups hb2)
          have hbw : Below w.heap.size w wr := HB.out.trans (HBB.out.mono (by rw [HG.out]; exact HB.out.size))
          have HB2 := hid (below_tr hbw hb2)
          have HRC2 := hid ((HRC.out.up HBB.out e2).ups hb2)
          have HRF2 := hid ((HRF.out.up HBB.out e2).up hb2 (Nat.lt_of_lt_of_le e2 (by rw [HG.out]; exact HBB.out.size)))
          have HZ2 := hid (show gr < w2.heap.size ∧ g < w2.heap.size ∧ gs < w2.heap.size by
            have h1 := HBB.out.size; have h2 := hb2.size
            have h3 : g < wr.heap.size := HCS.out.lt (by intro h; have := IsSch_eq HVS.out; rw [h] at this; have := congrArg List.length this; rw [List.length_map, sch_len] at this; simp at this)
            rw [← HG.out] at h1
            omega)
          clear hb2 hbw
          go_wp2_with (refine wpl_store_new (zs := zero64) (vs := Kv) 98 (.tmp 10) (.tmp 78) rfl rfl rfl rfl (by decide) (info65 (by decide)) (by exact all_oneCell_toArray (fun v hv => by unfold Kv at hv; obtain ⟨x, _, rfl⟩ := List.mem_map.1 hv; rfl)) ?_; intro W3 hwc hwf hwb hws; have HKC := hid hwc; have HKB := hid hwb; have HKS := hid hws; clear hwc hwf hwb hws)
          obtain ⟨gk, hgk⟩ : ∃ gk, gk = w2.heap.size := ⟨_, rfl⟩
          rw [← hgk] at HKC HKS ⊢
          have HS3 := hid (HS2.out.ups HKB.out)
          have HCW3 := hid (HCW2.out.ups HKB.out)
          have HB3 := hid (below_tr HB2.out HKB.out)
          have HRC3 := hid (HRC2.out.ups HKB.out)
          have HRF3 := hid (HRF2.out.up HKB.out HZ2.out.1)
          have hgr3 : gr < W3.heap.size := by rw [HKS.out, hgk]; have := HZ2.out.1; omega
          clear HS2 HCW2 HB2 HRC2 HRF2 HZ2 HKB hgk HCB HCS HBB hcs HT HC HL HK
          have c0 : W3.cell? ⟨gs, 0, none⟩ = some (.int .u32 s.a.toNat) := HS3.out.at0 rfl
          have c1 : W3.cell? ⟨gs, 1, none⟩ = some (.int .u32 s.b.toNat) := HS3.out.at0 rfl
          have c2 : W3.cell? ⟨gs, 2, none⟩ = some (.int .u32 s.c.toNat) := HS3.out.at0 rfl
          have c3 : W3.cell? ⟨gs, 3, none⟩ = some (.int .u32 s.d.toNat) := HS3.out.at0 rfl
          have c4 : W3.cell? ⟨gs, 4, none⟩ = some (.int .u32 s.e.toNat) := HS3.out.at0 rfl
          have c5 : W3.cell? ⟨gs, 5, none⟩ = some (.int .u32 s.f.toNat) := HS3.out.at0 rfl
          have c6 : W3.cell? ⟨gs, 6, none⟩ = some (.int .u32 s.g.toNat) := HS3.out.at0 rfl
          have c7 : W3.cell? ⟨gs, 7, none⟩ = some (.int .u32 s.h.toNat) := HS3.out.at0 rfl
          go_quiet (fail)
          clear c0 c1 c2 c3 c4 c5 c6 c7
          go_wp2_with fail
          go_loopw [11, 12, 13, 14, 15, 16, 17, 18, 19] (fun va vb vc vd ve vf vg vh i w1 => ∃ k : Nat, k ≤ 64 ∧ i = .int .i64 k ∧ Drawn W3 w1 ∧ va = .int .u32 (rounds s (sch l 48) k).a.toNat ∧ vb = .int .u32 (rounds s (sch l 48) k).b.toNat ∧ vc = .int .u32 (rounds s (sch l 48) k).c.toNat ∧ vd = .int .u32 (rounds s (sch l 48) k).d.toNat
            ∧ ve = .int .u32 (rounds s (sch l 48) k).e.toNat ∧ vf = .int .u32 (rounds s (sch l 48) k).f.toNat ∧ vg = .int .u32 (rounds s (sch l 48) k).g.toNat ∧ vh = .int .u32 (rounds s (sch l 48) k).h.toNat) (fun _ _ _ _ _ _ _ _ i _ => 64 - (intOf i).toNat)
          case atStart => exact ⟨0, by omega, rfl, ⟨nq, rfl⟩, rfl, rfl, rfl, rfl, rfl, rfl, rfl, rfl⟩
          case round =>
            obtain ⟨k, hk, rfl, hdr, rfl, rfl, rfl, rfl, rfl, rfl, rfl, rfl⟩ := hrel
            by_cases hlt : k < 64
            · obtain ⟨r, hr⟩ : ∃ r, r = rounds s (sch l 48) k := ⟨_, rfl⟩
              obtain ⟨xk, hxk⟩ : ∃ x, x = kk k := ⟨_, rfl⟩
              obtain ⟨xw, hxw⟩ : ∃ x, x = (sch l 48).getD k 0 := ⟨_, rfl⟩
              have HDR := hid hdr; clear hdr
              have ck : wr.cell? ⟨gk, k, none⟩ = some (.int .u32 xk.toNat) := by rw [hxk, HDR.out.cell]; exact HKC.out.at0 (kv_get k hlt)
              have cw : wr.cell? ⟨g, k, none⟩ = some (.int .u32 xw.toNat) := by
                rw [hxw, HDR.out.cell]; refine HCW3.out.at0 ?_
                rw [IsSch_eq HVS.out, List.getElem?_map, List.getD_eq_getElem?_getD, List.getElem?_eq_getElem (by rw [sch_len]; omega)]; rfl
              rw [← hr]
              have HR := hid hr; have HXK := hid hxk; have HXW := hid hxw
              clear hr hxk hxw
              go_wp2_with fail
              go_quiet ((go_at_call 108; exact Calls.quiet_of (rror_any _ _ _ (by decide) (by decide))))
              clear ck cw
              go_wp2_with fail
              refine (rror_any _ _ _ (by decide) (by decide)).mono ?_
              rintro e w' ⟨rfl, q1, rfl⟩
              go_wp2_with fail
              refine (rror_any _ _ _ (by decide) (by decide)).mono ?_
              rintro e w' ⟨rfl, q2, rfl⟩
              go_wp2_with fail
              refine (rror_any _ _ _ (by decide) (by decide)).mono ?_
              rintro e w' ⟨rfl, q3, rfl⟩
              go_wp2
              go_roundw
              case rel => exact ⟨k + 1, by omega, by go_num, HDR.out.more _, val32 (by rw [r3_raw, r3_raw, pp_raw, qq_raw, add32]; rw [rounds, rnd, ← HR.out, ← HXK.out, ← HXW.out]), by rw [rounds, rnd, ← HR.out], by rw [rounds, rnd, ← HR.out], by rw [rounds, rnd, ← HR.out], val32 (by rw [r3_raw, pp_raw, add32]; rw [rounds, rnd, ← HR.out, ← HXK.out, ← HXW.out]), by rw [rounds, rnd, ← HR.out], by rw [rounds, rnd, ← HR.out], by rw [rounds, rnd, ← HR.out]⟩
              case measure => simp [intOf]; omega
            · have hd : decide ((k : Int) < 64) = false := by simp; omega
              obtain ⟨r, hr⟩ : ∃ r, r = rounds s (sch l 48) k := ⟨_, rfl⟩
              rw [← hr]
              have hbk : blk s l = s.add r := by rw [hr, show k = 64 by omega]; rfl
              have HR := hid hbk; clear hr hbk
              have HS4 := hid (hdr.cells HS3.out)
              have HRC4 := hid (hdr.cells HRC3.out)
              have HRF4 := hid (hdr.free HRF3.out)
              have HB4 := hid (HB3.out.trans ((hdr.below W3.heap.size).mono HB3.out.size))
              have c0 : wr.cell? ⟨gs, 0, none⟩ = some (.int .u32 s.a.toNat) := HS4.out.at0 rfl
              have c1 : wr.cell? ⟨gs, 1, none⟩ = some (.int .u32 s.b.toNat) := HS4.out.at0 rfl
              have c2 : wr.cell? ⟨gs, 2, none⟩ = some (.int .u32 s.c.toNat) := HS4.out.at0 rfl
              have c3 : wr.cell? ⟨gs, 3, none⟩ = some (.int .u32 s.d.toNat) := HS4.out.at0 rfl
              have c4 : wr.cell? ⟨gs, 4, none⟩ = some (.int .u32 s.e.toNat) := HS4.out.at0 rfl
              have c5 : wr.cell? ⟨gs, 5, none⟩ = some (.int .u32 s.f.toNat) := HS4.out.at0 rfl
              have c6 : wr.cell? ⟨gs, 6, none⟩ = some (.int .u32 s.g.toNat) := HS4.out.at0 rfl
              have c7 : wr.cell? ⟨gs, 7, none⟩ = some (.int .u32 s.h.toNat) := HS4.out.at0 rfl
              clear hdr HS3 HRC3 HRF3 HB3 HKC HCW3 HVS HKS
              have hth : wr.there gr 0 (Kc (s.add r)).toArray.size := HRC4.out.there HRF4.out
              have hinf : (Tryd.prog.info? 85).map (·.size) = some (Kc (s.add r)).toArray.size := by kernel_rfl
              have hone : (Kc (s.add r)).toArray.all (·.oneCell') = true := one_v32 _
              have hsame : Cells (wr.setCells gr 0 (Kc (s.add r))) ⟨gr, 0, none⟩ (Kc (s.add r)) := range_cells (World.rangeAt_setCells_same wr gr 0 (Kc (s.add r)) hth)
              have HSM := hid hsame; have HB5 := hid (setCells_below gr e4 (Kc (s.add r)) 0 wr HB4.out)
              clear hsame
              go_wp2_with (simp only [add32]; refine wpList_store_mid rfl 85 (.tmp 4) (.tmp 190) rfl gr 0 (Kc (s.add r)).toArray rfl rfl hth hinf hone ?_)
              exact bodyPost_ret (v := .agg (Kc (s.add r)).toArray) (results_cell_mid Tryd.results104 _ _ gr (Kc (s.add r)) _ (by simp only [Array.getD]; rfl) HSM.out.range Tryd.underlying85 rfl hinf) rfl ⟨by rw [HR.out], HB5.out⟩
end Go.Proofs.YtaoehkoffhnidaaDoor.Dg

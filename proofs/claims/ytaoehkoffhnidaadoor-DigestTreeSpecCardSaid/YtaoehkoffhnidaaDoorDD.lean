/- Contract of absorbing a block: the state is that behind the block; only its cells and new memory are written. -/
import Derived.Test.YtaoehkoffhnidaaDoorDC
import Derived.Test.YtaoehkoffhnidaaDoorDSta
namespace Go.Proofs.YtaoehkoffhnidaaDoor.Dg
open Go.RowKit Go
set_option linter.unusedVariables false
set_option linter.unusedSimpArgs false
theorem rots_s (x : BitVec 32) (a b c : Int) (w : World) (h0 : 0 < a) (h1 : a < 32) (h2 : 0 < b) (h3 : b < 32) (h4 : 0 < c) (h5 : c < 32) : Calls Tryd.prog 100 #[.int .u32 x.toNat, .int .i64 a, .int .i64 b, .int .i64 c] w fun e w' => e = .returned (.int .u32 (r3 x a.toNat b.toNat c.toNat).toNat) ∧ w' = w :=
  (rots_any x a b c w h0 h1 h2 h3 h4 h5).mono fun e w' ⟨h, k⟩ => ⟨h, k.symm⟩
set_option maxRecDepth 100000 in
set_option maxHeartbeats 4000000 in
theorem absorb_any (s : St) (l : List UInt8) (g : Nat) (a : Addr) (cap : Nat) (w : World) (hk : Konst w) (hs : Cells w ⟨g, 0, none⟩ (Kc s)) (hf : Free w g) (hg0 : 2 < g)
    (hc : Cells w a (l.map vb)) (hl : l.length = 64) (hcap : 64 ≤ cap) (hag : a.block ≠ g) :
   Calls Tryd.prog 89 #[.pointer (some ⟨g, 0, none⟩), .slice (some a) 64 cap] w fun e w' => e = .returned (.tuple #[]) ∧ Cells w' ⟨g, 0, none⟩ (Kc (blk s l)) ∧ Free w' g ∧ w.grownBy w' (some g) := by
  have HC := hid hc; have HL := hid hl; have HS := hid hs; have HK := hid hk; have HF := hid hf
  have HGW := hid (show g < w.heap.size from hs.lt (by unfold Kc St.list; simp))
  clear hc hl hs hk hf
  go_enter Tryd.func89, Tryd.ntmps89
  go_wp2_with fail
  refine (schedule_any l a cap w HC.out HL.out hcap).mono ?_
  rintro e w1 ⟨rfl, hb1⟩
  have HS1 := hid (HS.out.ups hb1); have HK1 := hid (HK.out.ups hb1); have HF1 := hid (HF.out.up hb1 HGW.out)
  have HGW1 := hid (show g < w1.heap.size from Nat.lt_of_lt_of_le HGW.out hb1.size)
  have hlen : ((sch l 48).map v32).length = 64 := by rw [List.length_map, sch_len]
  obtain ⟨vs, hvs⟩ : ∃ vs, IsSch l vs := ⟨_, by unfold IsSch; rfl⟩
  rw [← IsSch_eq hvs] at hlen ⊢
  go_wp2
  have h1 := one_v32 (sch l 48)
  rw [← IsSch_eq hvs] at h1
  refine upon_store_new (by rw [hlen]; rfl) h1 ?_
  intro W hWc hWf hWb hWs
  have HS2 := hid (HS1.out.ups hWb); have HK2 := hid (HK1.out.ups hWb); have HF2 := hid (HF1.out.up hWb HGW1.out)
  have HB2 := hid (below_tr hb1 hWb)
  have HWC := hid hWc
  obtain ⟨gw, hgw⟩ : ∃ gw, gw = w1.heap.size := ⟨_, rfl⟩
  have HWS := hid hWs
  rw [← hgw] at hWc ⊢
  have HGG := hid (show g < gw by rw [hgw]; exact HGW1.out)
  have HGW2 := hid hgw
  clear h1 hWb hb1 hgw hWf hWc hWs hlen
  have c0 : W.cell? ⟨g, 0, none⟩ = some (.int .u32 s.a.toNat) := HS2.out.at0 rfl
  have c1 : W.cell? ⟨g, 1, none⟩ = some (.int .u32 s.b.toNat) := HS2.out.at0 rfl
  have c2 : W.cell? ⟨g, 2, none⟩ = some (.int .u32 s.c.toNat) := HS2.out.at0 rfl
  have c3 : W.cell? ⟨g, 3, none⟩ = some (.int .u32 s.d.toNat) := HS2.out.at0 rfl
  have c4 : W.cell? ⟨g, 4, none⟩ = some (.int .u32 s.e.toNat) := HS2.out.at0 rfl
  have c5 : W.cell? ⟨g, 5, none⟩ = some (.int .u32 s.f.toNat) := HS2.out.at0 rfl
  have c6 : W.cell? ⟨g, 6, none⟩ = some (.int .u32 s.g.toNat) := HS2.out.at0 rfl
  have c7 : W.cell? ⟨g, 7, none⟩ = some (.int .u32 s.h.toNat) := HS2.out.at0 rfl
  go_wp2_with fail
  go_quiet (fail)
  clear c0 c1 c2 c3 c4 c5 c6 c7
  go_wp2_with fail
  go_loopw [5, 6, 7, 8, 9, 10, 11, 12, 52] (fun va vb vc vd ve vf vg vh i w1 => ∃ k : Nat, k ≤ 64 ∧ i = .int .i64 k ∧ Drawn W w1 ∧ va = .int .u32 (rounds s (sch l 48) k).a.toNat ∧ vb = .int .u32 (rounds s (sch l 48) k).b.toNat ∧ vc = .int .u32 (rounds s (sch l 48) k).c.toNat ∧ vd = .int .u32 (rounds s (sch l 48) k).d.toNat
     ∧ ve = .int .u32 (rounds s (sch l 48) k).e.toNat ∧ vf = .int .u32 (rounds s (sch l 48) k).f.toNat ∧ vg = .int .u32 (rounds s (sch l 48) k).g.toNat ∧ vh = .int .u32 (rounds s (sch l 48) k).h.toNat) (fun _ _ _ _ _ _ _ _ i _ => 64 - (intOf i).toNat)
  case atStart => exact ⟨0, by omega, rfl, ⟨nq, rfl⟩, rfl, rfl, rfl, rfl, rfl, rfl, rfl, rfl⟩
  case round =>
    obtain ⟨k, hk, rfl, hdr, rfl, rfl, rfl, rfl, rfl, rfl, rfl, rfl⟩ := hrel
    by_cases hlt : k < 64
    · obtain ⟨r, hr⟩ : ∃ r, r = rounds s (sch l 48) k := ⟨_, rfl⟩
      obtain ⟨xk, hxk⟩ : ∃ x, x = kk k := ⟨_, rfl⟩
      obtain ⟨xw, hxw⟩ : ∃ x, x = (sch l 48).getD k 0 := ⟨_, rfl⟩
      have HDR := hid hdr; clear hdr
      have ck : wr.cell? ⟨2, k, none⟩ = some (.int .u32 xk.toNat) := by rw [hxk, HDR.out.cell]; exact HK2.out k hlt
      have cw : wr.cell? ⟨gw, k, none⟩ = some (.int .u32 xw.toNat) := by
        rw [hxw, HGW2.out, HDR.out.cell]; refine HWC.out.at0 ?_
        rw [IsSch_eq hvs, List.getElem?_map, List.getD_eq_getElem?_getD, List.getElem?_eq_getElem (by rw [sch_len]; omega)]; rfl
      rw [← hr]
      have HR := hid hr; have HXK := hid hxk; have HXW := hid hxw
      clear hr hxk hxw
      go_wp2_with fail
      go_quiet ((go_at_call 100; exact Calls.quiet_of_same (rots_s _ _ _ _ _ (by decide) (by decide) (by decide) (by decide) (by decide) (by decide))))
      clear ck cw
      go_wp2_with fail
      refine (rots_any _ _ _ _ _ (by decide) (by decide) (by decide) (by decide) (by decide) (by decide)).mono ?_
      rintro e w' ⟨rfl, rfl⟩
      go_wp2
      go_roundw
      case rel => exact ⟨k + 1, by omega, by go_num, HDR.out.more nq, val32 (by rw [pp_raw, qq_raw, add32]; rw [rounds, rnd, ← HR.out, ← HXK.out, ← HXW.out]), by rw [rounds, rnd, ← HR.out], by rw [rounds, rnd, ← HR.out], by rw [rounds, rnd, ← HR.out], val32 (by rw [pp_raw, add32]; rw [rounds, rnd, ← HR.out, ← HXK.out, ← HXW.out]), by rw [rounds, rnd, ← HR.out], by rw [rounds, rnd, ← HR.out], by rw [rounds, rnd, ← HR.out]⟩
      case measure => simp [intOf]; omega
    · have hd : decide ((k : Int) < 64) = false := by simp; omega
      have HK64 := hid (show k = 64 by omega)
      obtain ⟨r, hr⟩ : ∃ r, r = rounds s (sch l 48) k := ⟨_, rfl⟩
      rw [← hr]
      have HR := hid hr; clear hr
      have HW0 : Hid (Cells wr ⟨g, 0, none⟩ (mix s r 0)) := HDR0 hdr HS2.out
      have HW1 : Hid (Free wr g) := hdr.free HF2.out
      have HW2 : Hid (w.grownBy wr (some g)) := grown_drawn (grown_of_below HB2.out) hdr
      clear hdr
      go_wp2
      go_loopw [112] (fun i w1 => ∃ k : Nat, k ≤ 8 ∧ i = .int .i64 k ∧ Cells w1 ⟨g, 0, none⟩ (mix s r k) ∧ Free w1 g ∧ w.grownBy w1 (some g)) (fun i _ => 8 - (intOf i).toNat)
      case atStart => exact ⟨0, by omega, rfl, HW0.out, HW1.out, HW2.out⟩
      case round =>
        clear HW0 HW1 HW2
        obtain ⟨j, hj, rfl, hcs, hfr, hgr⟩ := hrel
        by_cases hlt : j < 8
        · obtain ⟨xs, hxs⟩ : ∃ x, x = s.list.getD j 0 := ⟨_, rfl⟩
          obtain ⟨xr, hxr⟩ : ∃ x, x = r.list.getD j 0 := ⟨_, rfl⟩
          have cx : wr.cell? ⟨g, j, none⟩ = some (.int .u32 xs.toNat) := by rw [hxs]; exact hcs.at0 (mix_get s r j hlt)
          have fx := hfr j
          have hix : (Instr.index 85 (.agg #[.int .u32 r.a.toNat, .int .u32 r.b.toNat, .int .u32 r.c.toNat, .int .u32 r.d.toNat, .int .u32 r.e.toNat, .int .u32 r.f.toNat, .int .u32 r.g.toNat, .int .u32 r.h.toNat]) (.int .i64 (j : Int))).run Tryd.prog wr = .ok (.int .u32 xr.toNat) wr :=
            run_index_arr (P := Tryd.prog) wr 85 84 8 _ .i64 j _ Tryd.underlying85 Tryd.underlying84 (by kernel_rfl) hlt (by rw [hxr]; exact st_index r j hlt)
          have HX := hid hxs; have HY := hid hxr
          have HC0 := hid hcs; have HF0 := hid hfr; have HG0 := hid hgr
          clear hcs hfr hgr hxs hxr
          go_wp2
          go_region
          all_goals
            go_wp2
            go_roundw
            case rel => exact ⟨j + 1, by omega, by go_num, by rw [← mix_set s r j hlt, ← HX.out, ← HY.out]; exact cells_put HC0.out (add32 xs xr), HF0.out.set _ _, grown_drew (grown_set HG0.out _)⟩
            case measure => simp [intOf]; omega
        · have hj8 := hid (show j = 8 by omega)
          have HC0 := hid hcs; have HF0 := hid hfr; have HG0 := hid hgr
          clear hcs hfr hgr
          go_wp2
          go_end0
          refine ⟨rfl, ?_, HF0.out, HG0.out⟩
          have := HC0.out
          rw [hj8.out, mix8, HR.out, HK64.out] at this
          exact this
end Go.Proofs.YtaoehkoffhnidaaDoor.Dg

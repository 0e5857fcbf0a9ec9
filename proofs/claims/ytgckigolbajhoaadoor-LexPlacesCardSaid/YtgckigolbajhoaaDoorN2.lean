/- Contract: the reader's number, walked. -/
import Derived.Test.YtgckigolbajhoaaDoorN
namespace Go.Proofs.YtgckigolbajhoaaDoor
open Go.RowKit Go
set_option linter.unusedVariables false
set_option linter.unusedSimpArgs false
theorem str_below (w : World) (s : ByteArray) : Below w.heap.size w (Lib.bytesWorld w 5 s) :=
  ⟨rfl, rfl, rfl, by rw [Lib.bytesWorld_size]; omega, fun k hk => Lib.bytesWorld_at_old w 5 s k hk⟩
set_option maxRecDepth 100000 in
set_option maxHeartbeats 8000000 in
theorem rnumber_any {rb base a : Nat} {s : ByteArray} {v : Value} {l : List Tk} (w : World) (h : Rdr w rb base s a v l) (hk : Konst w) (hs : s.size ≤ 70000) (ha : a ≤ s.size) (hl : l.length ≤ 100000) (hd : ((lst s).drop a).takeWhile L9.isD ≠ []) :
    Calls Tryd.prog 42 #[.pointer (some ⟨rb, 0, none⟩)] w (Scn w rb base s a l (nst (((lst s).drop a).takeWhile L9.isD))) := by
  have hal : Below w.heap.size w (w.alloc (.cells ([3].map (Value.int .u8)).toArray 49)) := (Below.refl _ w).alloc (Nat.le_refl _) _
  have HN := hid (next_any w.heap.size 1 1 [3] _ (h.below hal) (hk.up hal) (by unfold maxLen; omega) ha rfl (by omega) (zs_new w _ 49) (by simp))
  rw [tw_eq _ _ inC_D] at HN
  have hlen : (((lst s).drop a).takeWhile L9.isD).length ≤ s.size := by
    refine Nat.le_trans (L9.tw_le _ _) ?_
    rw [List.length_drop]
    have : (lst s).length = s.size := rfl
    omega
  have hall := L9.tw_all L9.isD ((lst s).drop a)
  obtain ⟨t, ht⟩ : ∃ t, t = ((lst s).drop a).takeWhile L9.isD := ⟨_, rfl⟩
  rw [← ht] at HN hlen hall hd ⊢
  have HRE := hid (fun (W : World) (hW : Below w.heap.size w W) => refuse_any W (h.below hW))
  have HTK := hid (fun (n : Int) (W : World) (hW : Below w.heap.size w W) => take_any 2 [] n 0 t.length W (h.below hW) (by omega) (by omega) hl)
  have HBA := hid hal
  have HLE := hid h.le
  have hsize : (ByteArray.mk t.toArray).size = t.length := by show t.toArray.size = _; simp
  obtain ⟨c, r, hcr⟩ : ∃ c r, t = c :: r := by
    cases t with
    | nil => exact absurd rfl hd
    | cons c r => exact ⟨c, r, rfl⟩
  have HHD := hid (show t.head? = some c by rw [hcr]; rfl)
  obtain ⟨q, hq⟩ : ∃ q : ByteArray, q = ⟨t.toArray⟩ := ⟨_, rfl⟩
  have hlq : lst q = t := by rw [hq, lst_mk]
  rw [← hq] at HN hsize
  have hpos : 0 < q.size := by rw [hsize, hcr]; simp
  have HC0 := hid (show q[0] = c by
    obtain ⟨c', r', h1, h2⟩ := lst_head hpos
    rw [hlq, hcr] at h1
    rw [← h2]; exact (List.cons.inj h1).1.symm)
  have hcv : ∀ W, (convert 9 38 (.string q)).run Tryd.prog W = .ok (.slice (some ⟨W.heap.size, 0, none⟩) q.size (grownCap W q.size 0 5)) (Lib.bytesWorld W 5 q) := fun W => Lib.run_convert_string_bytes (P := Tryd.prog) W 9 38 5 q Tryd.underlying9 Tryd.underlying38 Tryd.underlying5
  have HCV := hid hcv
  have HCL := hid (fun W j c => show t[j]? = some c → (Lib.bytesWorld W 5 q).cell? ⟨W.heap.size, j, none⟩ = some (.int .u8 (c : UInt8).toNat) from fun hj => by
    have hlt : j < q.size := by rw [hsize]; exact (List.getElem?_eq_some_iff.1 hj).1
    rw [Lib.bytesWorld_cell W 5 q j hlt, show q.data.toList = t from hlq, List.getD_eq_getElem?_getD, hj]; rfl)
  have HSZ := hid hsize
  have HALL := hid hall
  have hts : t.length ≤ 70000 := by omega
  clear ht hal hk h hlen hall hd hcr hq hlq hcv
  by_cases hz : c.toNat = 48 ∧ 1 < t.length
  · obtain ⟨hz1, hz2⟩ := hz
    have hst : nst t = .bad := if_pos (.inl ⟨by rw [HHD.out]; congr 1; exact UInt8.toNat_inj.1 hz1, hz2⟩)
    rw [hst]
    have hb1 : (((c.toNat : Nat) : Int) == 48) = true := by simp [hz1]
    have hb2 : (1 : Int) < q.size := by rw [hsize]; omega
    clear hz1 hst hsize
    go_enter Tryd.func42, Tryd.ntmps42
    go_wp2_with fail
    refine HN.out.mono ?_
    rintro e w1 ⟨rfl, hb⟩
    have HB := hid (HBA.out.trans (hb.mono HBA.out.size))
    clear hb
    have hc0 := HC0.out
    go_wp2_with fail
    refine (HRE.out _ HB.out).mono ?_
    rintro e w3 ⟨rfl, rfl⟩
    exact ⟨rfl, Kpb.of (HB.out.mono HLE.out), rfl⟩
  · have HZ := hid hz
    have hb1 : (((c.toNat : Nat) : Int) == 48) = false ∨ ((((c.toNat : Nat) : Int) == 48) = true ∧ ¬ (1 : Int) < q.size) := by
      by_cases h1 : c.toNat = 48
      · refine .inr ⟨by simp [h1], ?_⟩
        rw [hsize]; intro h2; exact hz ⟨h1, by omega⟩
      · refine .inl ?_
        simp; omega
    clear hz hsize
    rcases hb1 with hb1 | ⟨hb1, hb2⟩
    · go_enter Tryd.func42, Tryd.ntmps42
      go_wp2_with fail
      refine HN.out.mono ?_
      rintro e w1 ⟨rfl, hb⟩
      have HB := hid (HBA.out.trans (hb.mono HBA.out.size))
      clear hb
      have hc0 := HC0.out
      have hcv := HCV.out
      have HX2 : True := trivial
      go_wp2_with fail
      have hY := HB.out.trans ((str_below w1 q).mono HB.out.size)
      have hcl := HCL.out w1
      obtain ⟨Y, hYe⟩ : ∃ Y, Y = Lib.bytesWorld w1 5 q := ⟨_, rfl⟩
      obtain ⟨cp, hcp⟩ : ∃ cp, cp = grownCap w1 q.size 0 5 := ⟨_, rfl⟩
      obtain ⟨yb, hyb⟩ : ∃ yb, yb = w1.heap.size := ⟨_, rfl⟩
      rw [← hYe] at hY hcl
      rw [← hyb] at hcl
      rw [← hYe, ← hcp, ← hyb, HSZ.out]
      have HY := hid hY
      have HYC := hid hcl
      clear hY hcl hYe hcp hyb hcv hc0 hb1 HX2
      go_loop [3, 22] (fun n i => ∃ k : Nat, k ≤ t.length ∧ i = .int .i64 k ∧ n = .int .i64 (L9.vn (t.take k)) ∧ Hid (L9.vn (t.take k) ≤ 1099511627776)) (fun _ i => t.length - (intOf i).toNat)
      case atStart => exact ⟨0, by omega, rfl, by rw [List.take_zero]; rfl, hid (by rw [List.take_zero]; decide)⟩
      case round =>
        obtain ⟨k, hk, rfl, rfl, hv⟩ := hrel
        by_cases hlt : k < t.length
        · obtain ⟨d, hdk⟩ := get_lt (l := t) (i := k) hlt
          have hcell := HYC.out k d hdk
          have hstep := hid (vn_step hdk)
          have hdd := HALL.out d (List.mem_of_getElem? hdk)
          have hw8 := u8w d hdd
          have hd9 := L9.dg_lt d hdd
          obtain ⟨x, hx⟩ : ∃ x, x = d.toNat - 48 := ⟨_, rfl⟩
          rw [← hx] at hw8 hd9 hstep
          obtain ⟨n, hn⟩ : ∃ n, n = L9.vn (t.take k) := ⟨_, rfl⟩
          rw [← hn] at hv hstep ⊢
          have hnb := hv.out
          obtain ⟨db, hdb⟩ : ∃ db, db = d.toNat := ⟨_, rfl⟩
          rw [← hdb] at hcell hw8
          have hw10 := wrap_id (x := 10 * (n : Int)) (by omega) (by omega)
          have hwa := wrap_id (x := 10 * (n : Int) + x) (by omega) (by omega)
          clear hx hn hdb hdd hdk
          by_cases hbig : 1099511627776 < 10 * n + x
          · have hst : nst t = .bad := if_pos (.inr (by have := vn_take_le t (k + 1); rw [hstep.out] at this; omega))
            have hb3 : (1099511627776 : Int) < 10 * (n : Int) + x := by omega
            have HST := hid hst
            clear hbig hst
            go_wp2_with fail
            refine (HRE.out _ HY.out).mono ?_
            rintro e w3 ⟨rfl, rfl⟩
            exact ⟨rfl, by rw [HST.out]; exact ⟨Kpb.of (HY.out.mono HLE.out), rfl⟩⟩
          · have hb3 : ¬ (1099511627776 : Int) < 10 * (n : Int) + x := by omega
            have HS2 := hid (show L9.vn (t.take (k + 1)) ≤ 1099511627776 by rw [hstep.out]; omega)
            have HN2 := hid (show (L9.vn (t.take (k + 1)) : Int) = 10 * (n : Int) + x by rw [hstep.out]; omega)
            clear hbig
            go_wp2
            go_round
            case rel => exact ⟨k + 1, by omega, by go_num, by rw [HN2.out], HS2⟩
            case measure => simp [intOf]; omega
        · obtain rfl : k = t.length := by omega
          rw [List.take_length] at hv ⊢
          have hst : nst t = .tok 2 [] (L9.vn t) t.length := if_neg (by
            rintro (⟨h1, h2⟩ | h)
            · rw [HHD.out] at h1; exact HZ.out ⟨by rw [Option.some.inj h1]; rfl, h2⟩
            · have := hv.out; omega)
          have HST := hid hst
          clear hst
          have hsq := HSZ.out
          obtain ⟨n, hn⟩ : ∃ n, n = L9.vn t := ⟨_, rfl⟩
          rw [← hn] at HST ⊢
          clear hn hv
          go_wp2_with fail
          refine (HTK.out _ _ HY.out).mono ?_
          rintro e w3 ⟨rfl, ⟨u, hu⟩, hk⟩
          have HU := hid (show Scn w rb base s a l (L9.Stp.tok 2 [] n t.length) unit w3 from ⟨(Kpb.of (HY.out.mono HLE.out)).trans hk, rfl, u, hu⟩)
          clear hu hk
          go_wp2
          go_end0
          rw [HST.out]; exact HU.out
    · go_enter Tryd.func42, Tryd.ntmps42
      go_wp2_with fail
      refine HN.out.mono ?_
      rintro e w1 ⟨rfl, hb⟩
      have HB := hid (HBA.out.trans (hb.mono HBA.out.size))
      clear hb
      have hc0 := HC0.out
      have hcv := HCV.out
      have HX2 : True := trivial
      go_wp2_with fail
      have hY := HB.out.trans ((str_below w1 q).mono HB.out.size)
      have hcl := HCL.out w1
      obtain ⟨Y, hYe⟩ : ∃ Y, Y = Lib.bytesWorld w1 5 q := ⟨_, rfl⟩
      obtain ⟨cp, hcp⟩ : ∃ cp, cp = grownCap w1 q.size 0 5 := ⟨_, rfl⟩
      obtain ⟨yb, hyb⟩ : ∃ yb, yb = w1.heap.size := ⟨_, rfl⟩
      rw [← hYe] at hY hcl
      rw [← hyb] at hcl
      rw [← hYe, ← hcp, ← hyb, HSZ.out]
      have HY := hid hY
      have HYC := hid hcl
      clear hY hcl hYe hcp hyb hcv hc0 hb1 HX2 hb2
      go_loop [3, 22] (fun n i => ∃ k : Nat, k ≤ t.length ∧ i = .int .i64 k ∧ n = .int .i64 (L9.vn (t.take k)) ∧ Hid (L9.vn (t.take k) ≤ 1099511627776)) (fun _ i => t.length - (intOf i).toNat)
      case atStart => exact ⟨0, by omega, rfl, by rw [List.take_zero]; rfl, hid (by rw [List.take_zero]; decide)⟩
      case round =>
        obtain ⟨k, hk, rfl, rfl, hv⟩ := hrel
        by_cases hlt : k < t.length
        · obtain ⟨d, hdk⟩ := get_lt (l := t) (i := k) hlt
          have hcell := HYC.out k d hdk
          have hstep := hid (vn_step hdk)
          have hdd := HALL.out d (List.mem_of_getElem? hdk)
          have hw8 := u8w d hdd
          have hd9 := L9.dg_lt d hdd
          obtain ⟨x, hx⟩ : ∃ x, x = d.toNat - 48 := ⟨_, rfl⟩
          rw [← hx] at hw8 hd9 hstep
          obtain ⟨n, hn⟩ : ∃ n, n = L9.vn (t.take k) := ⟨_, rfl⟩
          rw [← hn] at hv hstep ⊢
          have hnb := hv.out
          obtain ⟨db, hdb⟩ : ∃ db, db = d.toNat := ⟨_, rfl⟩
          rw [← hdb] at hcell hw8
          have hw10 := wrap_id (x := 10 * (n : Int)) (by omega) (by omega)
          have hwa := wrap_id (x := 10 * (n : Int) + x) (by omega) (by omega)
          clear hx hn hdb hdd hdk
          by_cases hbig : 1099511627776 < 10 * n + x
          · have hst : nst t = .bad := if_pos (.inr (by have := vn_take_le t (k + 1); rw [hstep.out] at this; omega))
            have hb3 : (1099511627776 : Int) < 10 * (n : Int) + x := by omega
            have HST := hid hst
            clear hbig hst
            go_wp2_with fail
            refine (HRE.out _ HY.out).mono ?_
            rintro e w3 ⟨rfl, rfl⟩
            exact ⟨rfl, by rw [HST.out]; exact ⟨Kpb.of (HY.out.mono HLE.out), rfl⟩⟩
          · have hb3 : ¬ (1099511627776 : Int) < 10 * (n : Int) + x := by omega
            have HS2 := hid (show L9.vn (t.take (k + 1)) ≤ 1099511627776 by rw [hstep.out]; omega)
            have HN2 := hid (show (L9.vn (t.take (k + 1)) : Int) = 10 * (n : Int) + x by rw [hstep.out]; omega)
            clear hbig
            go_wp2
            go_round
            case rel => exact ⟨k + 1, by omega, by go_num, by rw [HN2.out], HS2⟩
            case measure => simp [intOf]; omega
        · obtain rfl : k = t.length := by omega
          rw [List.take_length] at hv ⊢
          have hst : nst t = .tok 2 [] (L9.vn t) t.length := if_neg (by
            rintro (⟨h1, h2⟩ | h)
            · rw [HHD.out] at h1; exact HZ.out ⟨by rw [Option.some.inj h1]; rfl, h2⟩
            · have := hv.out; omega)
          have HST := hid hst
          clear hst
          have hsq := HSZ.out
          obtain ⟨n, hn⟩ : ∃ n, n = L9.vn t := ⟨_, rfl⟩
          rw [← hn] at HST ⊢
          clear hn hv
          go_wp2_with fail
          refine (HTK.out _ _ HY.out).mono ?_
          rintro e w3 ⟨rfl, ⟨u, hu⟩, hk⟩
          have HU := hid (show Scn w rb base s a l (L9.Stp.tok 2 [] n t.length) unit w3 from ⟨(Kpb.of (HY.out.mono HLE.out)).trans hk, rfl, u, hu⟩)
          clear hu hk
          go_wp2
          go_end0
          rw [HST.out]; exact HU.out
end Go.Proofs.YtgckigolbajhoaaDoor

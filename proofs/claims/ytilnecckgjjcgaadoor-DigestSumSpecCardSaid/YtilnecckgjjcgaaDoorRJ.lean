/- The law of hashes: both implementations of Sum and Tagged answer alike. -/
import Derived.Test.YtilnecckgjjcgaaDoorRF
import Derived.Test.YtilnecckgjjcgaaDoorDSn
namespace Go.Proofs.YtilnecckgjjcgaaDoor.Dg
open Go.RowKit Go
set_option linter.unusedVariables false
set_option linter.unusedSimpArgs false
set_option maxRecDepth 100000 in
set_option maxHeartbeats 1000000 in
theorem sumSpec_any (v : Value) (b : List UInt8) (tag : ByteArray) (many : Nat) (hm : many < 256) (w : World) (hv : BS w v b) (hk : Konst w) (hl : b.length ≤ 140737488355328) (hs : tag.size ≤ 140737488355328) :
    Calls Tryd.prog 3 #[v, .string tag, .int .u8 (many : Int)] w fun e w' => e = .returned (.bool true) ∧ Below w.heap.size w w' := by
  obtain ⟨p, cp, rfl⟩ := hv.form
  have HV := hid hv; have HK := hid hk
  clear hv hk
  generalize hm' : b.length = m at *
  have HM := hid hm'; clear hm'
  by_cases h3 : 300 < m
  · have hd2 : decide ((300 : Int) < (m : Int)) = true := decide_eq_true (by omega)
    go_enter Tryd.func3, Tryd.ntmps3
    go_wp2_with fail
    refine (sane_any _ HK.out).mono ?_
    rintro e w1 ⟨rfl, h1⟩
    go_wp2
    go_ret
    exact ⟨rfl, h1⟩
  by_cases h4 : 300 < tag.size
  · have hd2 : decide ((300 : Int) < (m : Int)) = false := decide_eq_false (by omega)
    have hd3 : decide ((300 : Int) < (tag.size : Int)) = true := decide_eq_true (by omega)
    go_enter Tryd.func3, Tryd.ntmps3
    go_wp2_with fail
    refine (sane_any _ HK.out).mono ?_
    rintro e w1 ⟨rfl, h1⟩
    go_wp2
    go_ret
    exact ⟨rfl, h1⟩
  have hd2 : decide ((300 : Int) < (m : Int)) = false := decide_eq_false (by omega)
  have hd3 : decide ((300 : Int) < (tag.size : Int)) = false := decide_eq_false (by omega)
  have E := hid (show m ≤ 300 ∧ tag.size ≤ 300 by omega)
  obtain ⟨n, hn⟩ : ∃ n, n = many + 1 := ⟨_, rfl⟩
  have hn2 : (many : Int) + 1 = (n : Int) := by omega
  have hn3 : n ≤ 256 := by omega
  have hn0 : 0 < n := by omega
  have HN := hid hn
  clear hn
  go_enter Tryd.func3, Tryd.ntmps3
  go_wp2_with fail
  refine (sane_any _ HK.out).mono ?_
  rintro e w1 ⟨rfl, h1⟩
  have HV1 := hid (HV.out.ups h1); have HK1 := hid (HK.out.ups h1)
  have B1 := hid h1; clear h1 h3 h4
  obtain ⟨W, hmk, hmc, hmb, hms⟩ := make_bytes w1 n ((many : Int) + 1) hn2 (by omega)
  rw [hn2] at hmk
  have HMC := hid hmc; have HMB := hid hmb; have HMS := hid hms
  clear hmc hmb hms hl hs
  go_wp2_with fail
  have hc0 := cells_of_block HMC.out
  have hf0 := free_of_block HMC.out
  have hb0 := HMB.out
  have hs0 := HMS.out
  obtain ⟨g, hg⟩ : ∃ g, g = w1.heap.size := ⟨_, rfl⟩
  rw [← hg] at hc0 hf0 hb0 hs0 ⊢
  have HG := hid hg
  clear hmk HMC HMB HMS hg hd2 hd3
  have HC0 := hid hc0; have HF0 := hid hf0; have HB0 := hid hb0; have HS0 := hid (show g < W.heap.size by omega)
  clear hc0 hf0 hb0 hs0
  go_loopw [27] (fun i wr => ∃ j : Nat, j ≤ n ∧ i = .int .i64 (j : Int) ∧ ∃ l : List UInt8, l.length = n ∧ Hid (Cells wr ⟨g, 0, none⟩ (l.map vb)) ∧ Hid (Free wr g) ∧ Hid (Below g w1 wr) ∧ Hid (g < wr.heap.size)) (fun i _ => n - (intOf i).toNat)
  case atStart => exact ⟨0, by omega, rfl, List.replicate n 0, by simp, HC0, HF0, HB0, HS0⟩
  case round =>
    clear HC0 HF0 HB0 HS0
    obtain ⟨j, hj, rfl, l, hl, HC, HF, HB, HS⟩ := hrel
    by_cases hlt : j < n
    · have hd : decide ((j : Int) < (n : Int)) = true := decide_eq_true (by omega)
      obtain ⟨x1, hx1⟩ := byte_there HC.out (j := j) (by omega)
      have hfx := HF.out j
      rcases Nat.eq_zero_or_pos m with h0 | h0
      · subst h0
        go_wp2_with fail
        go_roundw
        case rel => exact ⟨j + 1, by omega, rfl, l.set j (UInt8.ofNat j), by simpa using hl, hid (byte_put HC.out (by rw [byte_ofNat]; omega)), hid (HF.out.set _ _), hid (HB.out.setCell (Nat.le_refl _) _), hid (by simpa using HS.out)⟩
        case measure => simp [intOf]; omega
      · have hd5 : decide ((0 : Int) < (m : Int)) = true := decide_eq_true (by omega)
        rcases HV1.out with ⟨_, hv⟩ | ⟨a, c, hv1, hv2, hv3, hv4, hv5⟩
        · have := HM.out; rw [hv] at this; simp at this; omega
        · simp only [Value.slice.injEq] at hv1
          obtain ⟨rfl, hml, rfl⟩ := hv1
          have hne : a.block ≠ g := by rw [HG.out]; omega
          obtain ⟨y, hy⟩ : ∃ y, y = b.getD (j % m) 0 := ⟨_, rfl⟩
          have hjm : j % m < m := Nat.mod_lt _ h0
          have hcy : ∀ x, (wr.setCell ⟨g, j, none⟩ x).cell? (a.add (j % m)) = some (.int .u8 (y.toNat : Int)) := fun x => by
            have := hv4.up HB.out (by rw [HG.out]; exact hv5)
            rw [World.cell?_setCell_other _ _ _ _ (by intro h; have := congrArg Addr.block h; rw [add_block] at this; exact hne this.symm)]
            exact this (j % m) _ (by rw [List.getElem?_map, hy, List.getD_eq_getElem?_getD, List.getElem?_eq_getElem (by rw [HM.out]; exact hjm)]; rfl)
          have i1 : (0 : Int) ≤ (j : Int) % (m : Int) ∧ (j : Int) % (m : Int) < (m : Int) := ⟨by omega, by have := hjm; omega⟩
          clear hml hjm
          have HY := hid hy; clear hy hv2 hv3 hv4 hv5
          go_wp2_with fail
          go_roundw
          case rel => exact ⟨j + 1, by omega, rfl, (l.set j (UInt8.ofNat j)).set j y, by simpa using hl, hid (byte_put (byte_put HC.out (by rw [byte_ofNat]; omega)) rfl), hid ((HF.out.set _ _).set _ _), hid ((HB.out.setCell (Nat.le_refl _) _).setCell (Nat.le_refl _) _), hid (by simpa using HS.out)⟩
          case measure => simp [intOf]; omega
    · have hd : decide ((j : Int) < (n : Int)) = false := decide_eq_false (by omega)
      have hb2 : Below w1.heap.size w1 wr := by rw [← HG.out]; exact HB.out
      have HL := hid (show BS wr (.slice (some ⟨g, 0, none⟩) n n) l from .inr ⟨⟨g, 0, none⟩, n, by rw [hl], by rw [hl]; exact Nat.le_refl _, by unfold maxLen; omega, HC.out, HS.out⟩)
      have HV2 := hid (HV1.out.ups hb2)
      have HK2 := hid (HK1.out.ups hb2)
      have HB2 := hid (below_tr B1.out hb2)
      have HLL := hid (show l.length ≤ 300 by omega)
      clear hb2 HC HF HB HS HV1 HK1 B1 HG hl
      go_wp2_with fail
      refine code_alloc (zs := [.slice p m cp, .slice (some ⟨g, 0, none⟩) n n]) ?_
      intro W2 hc2 hf2 hb2 hs2
      obtain ⟨gb, hgb⟩ : ∃ gb, gb = wr.heap.size := ⟨_, rfl⟩
      have HV3 := hid (HV2.out.ups hb2); have HL3 := hid (HL.out.ups hb2); have HK3 := hid (HK2.out.ups hb2); have HB3 := hid (below_tr HB2.out hb2)
      rw [← hgb] at hc2 ⊢
      have HC2 := hid hc2; have HS2 := hid (show gb < W2.heap.size by omega)
      clear hc2 hf2 hb2 hs2 hgb HV2 HL HK2 HB2 HV hd hlt hj hn0 hn2 hm
      go_loopw [53] (fun i wr => ∃ k : Nat, k ≤ 2 ∧ i = .int .i64 (k : Int) ∧ Hid (BS wr (.slice p m cp) b) ∧ Hid (BS wr (.slice (some ⟨g, 0, none⟩) n n) l) ∧ Hid (Konst wr) ∧ Hid (Below w.heap.size w wr) ∧ Hid (Cells wr ⟨gb, 0, none⟩ [.slice p m cp, .slice (some ⟨g, 0, none⟩) n n]) ∧ Hid (gb < wr.heap.size)) (fun i _ => 2 - (intOf i).toNat)
      case atStart => exact ⟨0, by omega, rfl, HV3, HL3, HK3, HB3, HC2, HS2⟩
      case round =>
        clear HV3 HL3 HK3 HB3 HC2 HS2
        obtain ⟨k, hk, rfl, HV, HL, HK', HB, HC, HS⟩ := hrel
        by_cases hlt : k < 2
        · obtain ⟨q, r, c, d, hcell, hbs, hlen, hqr⟩ : ∃ (q : Option Addr) (r c : Nat) (d : List UInt8), wr.cell? ⟨gb, k, none⟩ = some (.slice q r c) ∧ Hid (BS wr (.slice q r c) d) ∧ Hid (d.length ≤ 300) ∧ True := by
            rcases (by omega : k = 0 ∨ k = 1) with rfl | rfl
            · exact ⟨_, _, _, _, HC.out.at0 rfl, HV, hid (by rw [HM.out]; exact E.out.1), trivial⟩
            · exact ⟨_, _, _, _, HC.out.at0 rfl, HL, HLL, trivial⟩
          clear hqr
          go_wp2_with fail
          refine (Sum_d _ d _ hbs.out HK'.out (by have := hlen.out; omega)).mono ?_
          rintro e w2 ⟨v2, d2, rfl, h2⟩
          have hbs2 := hid (hbs.out.ups h2); have HK2 := hid (HK'.out.ups h2); have HB2 := hid (below_tr HB.out h2); have HV2 := hid (HV.out.ups h2); have HL2 := hid (HL.out.ups h2); have HC2 := hid (HC.out.ups h2); have HS2 := hid (Nat.lt_of_lt_of_le HS.out h2.size)
          clear h2 hbs HK' HB HV HL HC HS hcell
          go_wp2_with fail
          refine (rSum_any _ d _ hbs2.out (by have := hlen.out; omega)).mono ?_
          rintro e w3 ⟨v3, d3, rfl, h3⟩
          have hq1 := eqD_true d2 d3 rfl
          have hbs3 := hid (hbs2.out.ups h3); have HK3 := hid (HK2.out.ups h3); have HB3 := hid (below_tr HB2.out h3); have HV3 := hid (HV2.out.ups h3); have HL3 := hid (HL2.out.ups h3); have HC3 := hid (HC2.out.ups h3); have HS3 := hid (Nat.lt_of_lt_of_le HS2.out h3.size)
          clear h3 hbs2 HK2 HB2 HV2 HL2 HC2 HS2 d2 d3
          go_wp2_with fail
          refine (Tagged_any tag _ d _ hbs3.out HK3.out (by have := E.out.2; omega) (by have := hlen.out; omega)).mono ?_
          rintro e w4 ⟨v4, d4, rfl, h4⟩
          have hbs4 := hid (hbs3.out.ups h4); have HK4 := hid (HK3.out.ups h4); have HB4 := hid (below_tr HB3.out h4); have HV4 := hid (HV3.out.ups h4); have HL4 := hid (HL3.out.ups h4); have HC4 := hid (HC3.out.ups h4); have HS4 := hid (Nat.lt_of_lt_of_le HS3.out h4.size)
          clear h4 hbs3 HK3 HB3 HV3 HL3 HC3 HS3 hq1
          go_wp2_with fail
          refine (rTagged_any tag _ d _ hbs4.out (by have := E.out.2; omega) (by have := hlen.out; omega)).mono ?_
          rintro e w5 ⟨v5, d5, rfl, h5⟩
          have hq2 := eqD_true d4 d5 rfl
          have HK5 := hid (HK4.out.ups h5); have HB5 := hid (below_tr HB4.out h5); have HV5 := hid (HV4.out.ups h5); have HL5 := hid (HL4.out.ups h5); have HC5 := hid (HC4.out.ups h5); have HS5 := hid (Nat.lt_of_lt_of_le HS4.out h5.size)
          clear h5 hbs4 HK4 HB4 HV4 HL4 HC4 HS4 d4 d5
          go_wp2
          go_roundw
          case rel => exact ⟨k + 1, by omega, rfl, HV5, HL5, HK5, HB5, HC5, HS5⟩
          case measure => simp [intOf]; omega
        · obtain rfl : k = 2 := by omega
          go_wp2
          go_ret
          exact ⟨rfl, HB.out⟩
theorem sumSpec_int (v : Value) (b : List UInt8) (tag : ByteArray) (many : Int) (hm : 0 ≤ many ∧ many < 256) (w : World) (hv : BS w v b) (hk : Konst w) (hl : b.length ≤ 140737488355328) (hs : tag.size ≤ 140737488355328) :
    Calls Tryd.prog 3 #[v, .string tag, .int .u8 many] w fun e w' => e = .returned (.bool true) ∧ Below w.heap.size w w' := by
  obtain ⟨k, rfl⟩ : ∃ k : Nat, many = (k : Int) := ⟨many.toNat, by omega⟩
  exact sumSpec_any v b tag k (by omega) w hv hk hl hs
end Go.Proofs.YtilnecckgjjcgaaDoor.Dg

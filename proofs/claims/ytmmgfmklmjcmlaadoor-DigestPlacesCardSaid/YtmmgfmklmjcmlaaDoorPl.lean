/- The statement on places: paths have as many elements as there are steps, and only these lengths are climbed. -/
import Derived.Test.YtmmgfmklmjcmlaaDoorStp
import Derived.Laws.Closers25b
namespace Go.Proofs.YtmmgfmklmjcmlaaDoor
open Go.RowKit Go
set_option linter.unusedVariables false
set_option linter.unusedSimpArgs false
theorem OD.pair {w : World} {base : Nat} {v : Value} {ds : List (List UInt8)} (h : OD w base v ds) : ∃ p cap, v = .slice p ds.length cap := by
  obtain ⟨p, cap, h1, _, _⟩ := h.ds.form
  exact ⟨p, cap, h1⟩
set_option maxRecDepth 100000 in
set_option maxHeartbeats 4000000 in
theorem places_any (v : Value) (b : List UInt8) (i n : Int) (w : World) (hv : BS w v b) (hk : Konst w) (hi1 : -9223372036854775808 ≤ i) (hi2 : i < 9223372036854775808) (hn1 : -9223372036854775808 ≤ n) (hn2 : n < 9223372036854775808) :
    Calls Tryd.prog 9 #[v, .int .i64 i, .int .i64 n] w (RetT w) := by
  have HV := hid hv; have HK := hid hk
  clear hv hk
  go_enter Tryd.func9, Tryd.ntmps9
  go_wp2_with fail
  refine (sane_any _ HK.out).mono ?_
  rintro e w1 ⟨rfl, hb1⟩
  have HB1 := hid hb1; have HK1 := hid (HK.out.ups hb1); have HV1 := hid (HV.out.ups hb1)
  clear hb1
  go_wp2_with fail
  refine (digestsOf_any v b _ HV1.out).mono ?_
  rintro e w2 ⟨vl, rfl, hoe, hb2⟩
  have HB2 := hid (below_tr HB1.out hb2); have HK2 := hid (HK1.out.ups hb2); have HL := hid hoe.ds
  clear hb2 hoe
  have hlen := digs_len b
  obtain ⟨p, cap, rfl, _, _⟩ := HL.out.form
  obtain ⟨len, hln⟩ : ∃ len, len = (digs b).length := ⟨_, rfl⟩
  rw [← hln] at hlen HL ⊢
  have HLN := hid hln
  clear hln
  by_cases hbad : i < 0 ∨ (len : Int) ≤ i
  · go_wp2_with fail
    refine (Path_bad (digs b) _ i _ (by rw [← HLN.out]; exact hbad) HL.out).mono ?_
    rintro e w3 ⟨rfl, rfl⟩
    by_cases h0 : i < 0
    · clear hbad
      go_wp2
      go_ret
      exact ⟨rfl, HB2.out⟩
    · have h3 : (len : Int) ≤ i := by omega
      clear hbad
      go_wp2
      go_ret
      exact ⟨rfl, HB2.out⟩
  obtain ⟨i, rfl⟩ := Int.eq_ofNat_of_zero_le (by omega : 0 ≤ i)
  have hil : i < len := by omega
  obtain ⟨gl, o, cap', hpv, hc1, hc2, hlc, _, h32⟩ := HL.out.pos (by rw [← HLN.out]; omega)
  rw [← HLN.out] at hc1
  simp only [Value.slice.injEq] at hpv
  obtain ⟨rfl, hpx, rfl⟩ := hpv
  clear hpx
  have HLC := hid hlc; have H32 := hid h32
  clear hc1 hc2 hlc h32
  go_wp2_with fail
  refine (Path_ok (digs b) _ i _ (by rw [← HLN.out]; exact hil) HL.out HK2.out).mono ?_
  rintro e w3 ⟨vp, rfl, hod, hb3⟩
  have HB3 := hid (below_tr HB2.out hb3); have HK3 := hid (HK2.out.ups hb3); have HL3 := hid (HLC.out.ups hb3); have HP3 := hid hod.ds
  have hpl := pathOf_length (digs b).length (digs b) i (Nat.le_refl _)
  rw [← HLN.out] at hpl
  obtain ⟨q, qc, rfl⟩ := hod.pair
  have hpp := plen_le 63 i len (by omega)
  rw [hpl] at HP3 ⊢
  have HPL := hid hpl
  clear hb3 hod hpl
  obtain ⟨pl, hpl⟩ : ∃ pl, pl = plen i len := ⟨_, rfl⟩
  rw [← hpl] at hpp HP3 ⊢
  have HQ := hid hpl; clear hpl
  have e1 : IntKind.i64.wrap ((len : Int) + 1) = ((len + 1 : Nat) : Int) := by rw [IntWalk.i64_in _ (by omega)]; omega
  clear hbad hi1 hi2
  go_wp2_with (first | (go_at_call 24; refine (steps_any i len _ hil (by omega)).mono ?_; rintro e w4 ⟨rfl, rfl⟩; rw [← HQ.out]))
  refine code_alloc ?_
  intro W hc _ hb _
  have hand := bits_lo_i64 BinOp.and n 31
  have hand2 := bits_hi_i64 BinOp.and n 31
  have key : ∀ k, k < 4 → ∃ M : Int, -9223372036854775808 ≤ M ∧ M < 9223372036854775808 ∧ ∀ W', Below W.heap.size W W' → W'.cell? ⟨w3.heap.size, k, none⟩ = some (.int .i64 M) := by
    intro k hk
    have hlt : w3.heap.size < W.heap.size := hc.lt (by simp)
    rcases (by omega : k = 0 ∨ k = 1 ∨ k = 2 ∨ k = 3) with rfl | rfl | rfl | rfl
    · exact ⟨n, by omega, by omega, fun W' h => (hc.ups h).at0 rfl⟩
    · exact ⟨_, hand, by omega, fun W' h => (hc.ups h).at0 rfl⟩
    · exact ⟨(len : Int) + 1, by omega, by omega, fun W' h => (hc.ups h).at0 rfl⟩
    · exact ⟨2 * (len : Int), by omega, by omega, fun W' h => (hc.ups h).at0 rfl⟩
  have KEY := hid key
  have HBW := hid hb
  have HKW := hid (HK3.out.ups hb); have HLW := hid (HL3.out.ups hb); have HPW := hid (HP3.out.ups hb)
  obtain ⟨gr, hgr⟩ : ∃ gr, gr = w3.heap.size := ⟨_, rfl⟩
  rw [← hgr] at KEY ⊢
  clear hand hand2 key hc hb hgr e1
  have HILPL := hid (show i < len ∧ len ≤ 24 ∧ pl ≤ 63 from ⟨hil, hlen, hpp⟩)
  clear hlen hpp hn1 hn2
  go_loopw [62] (fun t w1 => ∃ k : Nat, k ≤ 4 ∧ t = .int .i64 k ∧ Below W.heap.size W w1) (fun t _ => 4 - (intOf t).toNat)
  case atStart => exact ⟨0, by omega, rfl, Below.refl _ _⟩
  case round =>
    obtain ⟨k, hk, rfl, hb⟩ := hrel
    have HB := hid hb
    by_cases hlt : k < 4
    · obtain ⟨M, m1, m2, hcell⟩ := KEY.out k hlt
      have hce := hcell wr hb
      clear hcell hb
      obtain ⟨d, hd⟩ : ∃ d, (digs b)[i]? = some d := ⟨_, List.getElem?_eq_getElem (by rw [← HLN.out]; exact HILPL.out.1)⟩
      obtain ⟨ds, hdc, hdd⟩ : ∃ ds, Cells wr ⟨gl, o + i * 32, none⟩ ds ∧ IsD d ds := ⟨_, cells_elem (HLW.out.ups HB.out) H32.out hd⟩
      have HDC := hid hdc; have HDD := hid hdd
      have hl1 := info26 hdd.len'
      have hi0 := HILPL.out.1
      clear hd hdc hdd
      by_cases h1 : M ≤ (i : Int)
      · have h1' : ¬ ((i : Int) < M) := by omega
        go_wp2_with (first | (refine wpList_load_mid rfl 26 (.tmp 84) rfl gl (o + i * 32) rfl ds _ HDC.out.range Tryd.underlying26 rfl hl1 ?_) | (go_at_call 22; refine (Climb_bad pl M (i : Int) d ds q qc _ (.inr (.inr (.inr (.inl h1)))) HDD.out (by have := HILPL.out; omega) (by omega)).mono ?_; rintro e w5 ⟨us, hd5, rfl, hb5⟩; have HB5 := hid (below_tr HB.out hb5); clear hb5) | (refine wpl_alloc (some 13) rfl rfl rfl ?_; intro w6 g6 hg6 hr6 hb6 hs6; have HR6 := hid hr6; have HB6 := hid (HB5.out.trans (hb6.mono HB5.out.size)); have HG6 := hid (show W.heap.size ≤ g6 ∧ W.heap.size ≤ w6.heap.size by have := HB5.out.size; have := hb6.size; omega); clear hr6 hb6 hs6 hg6) | (refine wpl_put (.tmp 13) (.tmp 90) rfl rfl g6 us _ rfl rfl HR6.out hd5 ?_; intro w7 hc7 hr7 ho7; have HB7 := hid (ho7.below HB6.out HG6.out.2 HG6.out.1); clear hc7 hr7 ho7))
        go_roundw
        case rel => exact ⟨k + 1, by omega, by go_num, HB7.out⟩
        case measure => simp [intOf]; omega
      by_cases h2 : 1099511627776 < M
      · have h1' : (i : Int) < M := by omega
        have h2' : ¬ (M ≤ 1099511627776) := by omega
        go_wp2_with (first | (refine wpList_load_mid rfl 26 (.tmp 84) rfl gl (o + i * 32) rfl ds _ HDC.out.range Tryd.underlying26 rfl hl1 ?_) | (go_at_call 22; refine (Climb_bad pl M (i : Int) d ds q qc _ (.inr (.inl h2)) HDD.out (by have := HILPL.out; omega) (by omega)).mono ?_; rintro e w5 ⟨us, hd5, rfl, hb5⟩; have HB5 := hid (below_tr HB.out hb5); clear hb5) | (refine wpl_alloc (some 13) rfl rfl rfl ?_; intro w6 g6 hg6 hr6 hb6 hs6; have HR6 := hid hr6; have HB6 := hid (HB5.out.trans (hb6.mono HB5.out.size)); have HG6 := hid (show W.heap.size ≤ g6 ∧ W.heap.size ≤ w6.heap.size by have := HB5.out.size; have := hb6.size; omega); clear hr6 hb6 hs6 hg6) | (refine wpl_put (.tmp 13) (.tmp 90) rfl rfl g6 us _ rfl rfl HR6.out hd5 ?_; intro w7 hc7 hr7 ho7; have HB7 := hid (ho7.below HB6.out HG6.out.2 HG6.out.1); clear hc7 hr7 ho7))
        go_roundw
        case rel => exact ⟨k + 1, by omega, by go_num, HB7.out⟩
        case measure => simp [intOf]; omega
      obtain ⟨m, rfl⟩ := Int.eq_ofNat_of_zero_le (by omega : 0 ≤ M)
      have him : i < m := by omega
      have hm40 : m ≤ 1099511627776 := by omega
      have hpu := plen_le 63 i m (by omega)
      obtain ⟨u, hu⟩ : ∃ u, u = plen i m := ⟨_, rfl⟩
      rw [← hu] at hpu
      have HU := hid hu
      have h1' : (i : Int) < m := by omega
      have h2' : (m : Int) ≤ 1099511627776 := by omega
      clear hu h1 h2 m1 m2
      by_cases h3 : u = pl
      · subst h3
        go_wp2_with (first | (refine wpList_load_mid rfl 26 (.tmp 84) rfl gl (o + i * 32) rfl ds _ HDC.out.range Tryd.underlying26 rfl hl1 ?_) | (go_at_call 24; refine (steps_any i m _ him (by omega)).mono ?_; rintro e w4 ⟨rfl, rfl⟩; rw [← HU.out]) | (go_at_call 22; refine (Climb_ok (pathOf (digs b) i) m i d ds _ _ (by rw [HPL.out, ← HQ.out]; exact HU.out) (by omega) hm40 him (HPW.out.ups HB.out) HDD.out (HKW.out.ups HB.out)).mono ?_; rintro e w5 ⟨us, hd5, rfl, hb5⟩; have HB5 := hid (below_tr HB.out hb5); clear hb5) | (refine wpl_alloc (some 13) rfl rfl rfl ?_; intro w6 g6 hg6 hr6 hb6 hs6; have HR6 := hid hr6; have HB6 := hid (HB5.out.trans (hb6.mono HB5.out.size)); have HG6 := hid (show W.heap.size ≤ g6 ∧ W.heap.size ≤ w6.heap.size by have := HB5.out.size; have := hb6.size; omega); clear hr6 hb6 hs6 hg6) | (refine wpl_put (.tmp 13) (.tmp 90) rfl rfl g6 us _ rfl rfl HR6.out hd5 ?_; intro w7 hc7 hr7 ho7; have HB7 := hid (ho7.below HB6.out HG6.out.2 HG6.out.1); clear hc7 hr7 ho7))
        go_roundw
        case rel => exact ⟨k + 1, by omega, by go_num, HB7.out⟩
        case measure => simp [intOf]; omega
      · have h3' : ¬ ((u : Int) = (pl : Int)) := by omega
        go_wp2_with (first | (refine wpList_load_mid rfl 26 (.tmp 84) rfl gl (o + i * 32) rfl ds _ HDC.out.range Tryd.underlying26 rfl hl1 ?_) | (go_at_call 24; refine (steps_any i m _ him (by omega)).mono ?_; rintro e w4 ⟨rfl, rfl⟩; rw [← HU.out]) | (go_at_call 22; refine (Climb_bad pl (m : Int) (i : Int) d ds q qc _ (.inr (.inr (.inr (.inr (by rw [Int.toNat_natCast, Int.toNat_natCast, ← HU.out]; omega))))) HDD.out (by have := HILPL.out; omega) (by omega)).mono ?_; rintro e w5 ⟨us, hd5, rfl, hb5⟩; have HB5 := hid (below_tr HB.out hb5); clear hb5) | (refine wpl_alloc (some 13) rfl rfl rfl ?_; intro w6 g6 hg6 hr6 hb6 hs6; have HR6 := hid hr6; have HB6 := hid (HB5.out.trans (hb6.mono HB5.out.size)); have HG6 := hid (show W.heap.size ≤ g6 ∧ W.heap.size ≤ w6.heap.size by have := HB5.out.size; have := hb6.size; omega); clear hr6 hb6 hs6 hg6) | (refine wpl_put (.tmp 13) (.tmp 90) rfl rfl g6 us _ rfl rfl HR6.out hd5 ?_; intro w7 hc7 hr7 ho7; have HB7 := hid (ho7.below HB6.out HG6.out.2 HG6.out.1); clear hc7 hr7 ho7))
        go_roundw
        case rel => exact ⟨k + 1, by omega, by go_num, HB7.out⟩
        case measure => simp [intOf]; omega
    · clear hb
      go_wp2
      go_ret
      exact ⟨rfl, HB3.out.trans ((HBW.out.trans (HB.out.mono HBW.out.size)).mono (HB3.out.size))⟩
end Go.Proofs.YtmmgfmklmjcmlaaDoor

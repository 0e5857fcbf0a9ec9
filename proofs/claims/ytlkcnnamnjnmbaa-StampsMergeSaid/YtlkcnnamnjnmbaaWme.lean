/- The law Merge. -/
import Derived.Test.YtlkcnnamnjnmbaaSane
import Derived.Test.YtlkcnnamnjnmbaaFr
import Derived.Test.YtlkcnnamnjnmbaaWli
namespace Go.Proofs.Ytlkcnnamnjnmbaa
open Go.RowKit Go
set_option linter.unusedVariables false
set_option linter.unusedSimpArgs false
theorem ks_at {w0 W : World} {p : Option Addr} {n c : Nat} {l : List St} (h : KS w0 (.slice p n c) l) (hb : Below w0.heap.size w0 W) {i : Nat} {x : St} (hi : l[i]? = some x) : ∃ b o, p = some ⟨b, o, none⟩ ∧ ∀ W', Below W.heap.size W W' → At3 W' b (o + i * 3) x := by
  have hr : KR p w0.heap.size l w0 := h.gr 3 kc_len (by omega)
  obtain ⟨b, o, e, hl, h1⟩ := KR.at3 hr hi
  exact ⟨b, o, e, fun W' hW => by
    have up : Below w0.heap.size w0 W' := hb.trans (hW.mono hb.size)
    exact ⟨(up.cell (p := ⟨b, o + i * 3, none⟩) hl).trans h1.1, (up.cell (p := ⟨b, o + i * 3 + 1, none⟩) hl).trans h1.2.1, (up.cell (p := ⟨b, o + i * 3 + 2, none⟩) hl).trans h1.2.2⟩⟩
set_option maxRecDepth 100000 in
set_option maxHeartbeats 16000000 in
theorem merge_law (va vb : Value) (a b : List St) (s : St) (w : World) (ha : KS w va a) (hb : KS w vb b) : Calls Try.prog 8 #[va, vb, KV s] w fun e w' => e = .returned (.bool true) ∧ Below w.heap.size w w' := by
  have SA := hid sane_any
  have HAA := hid (fun W (h : Below w.heap.size w W) => ha.ups h)
  have HBB := hid (fun W (h : Below w.heap.size w W) => hb.ups h)
  have FA := hid (fun W (h : Below w.heap.size w W) => few_any _ a W (ha.ups h))
  have FB := hid (fun W (h : Below w.heap.size w W) => few_any vb b W (hb.ups h))
  obtain ⟨pa, ca, hfa⟩ := ha.form
  obtain ⟨na, hna⟩ : ∃ n, n = a.length := ⟨_, rfl⟩
  rw [← hna] at hfa
  subst hfa
  have HNA := hid hna
  have HCA := hid (show na ≤ ca ∧ ca ≤ 9223372036854775807 from by
    have := ha.cap.2; unfold maxLen at this; omega)
  obtain ⟨s0, s1, s2⟩ := s
  by_cases hla : a.length ≤ 40
  · rw [show decide (a.length ≤ 40) = true from decide_eq_true hla] at FA
    by_cases hlb : b.length ≤ 40
    · rw [show decide (b.length ≤ 40) = true from decide_eq_true hlb] at FB
      have MM := hid (fun W (h : Below w.heap.size w W) => Merge_any _ vb a b W (ha.ups h) (hb.ups h) (by rw [List.length_append]; omega))
      have HE := hid (mge_eq a b)
      have HML := hid (S8.mrg_length a b)
      have HMEM := hid (fun x => S8.mem_mrg x a b)
      have HME0 := hid (show (S8.lst a ∧ S8.lst b) → S8.mg a b = S8.mrg a b from fun h => if_pos h)
      have HME1 := hid (show ¬ (S8.lst a ∧ S8.lst b) → S8.mg a b = [] from fun h => if_neg h)
      have HLST := hid (show S8.lst a → S8.lst b → S8.lst (S8.mrg a b) from S8.lst_mrg)
      have HLL := hid (show a.length ≤ 40 ∧ b.length ≤ 40 from ⟨hla, hlb⟩)
      clear hla hlb ha hb hna
      go_enter Try.func8, Try.ntmps8
      go_upto_region 1 with fail
      obtain ⟨Z, hZ⟩ : ∃ Z, Z = (w.alloc (.cells #[.int .i64 s0, .int .i64 s1, .int .i64 s2] 23)) := ⟨_, rfl⟩
      have HZ := hid (show Below w.heap.size w Z from by rw [hZ]; exact (Below.refl _ w).alloc (Nat.le_refl _) _)
      have bs : Blk Z (w.heap.size) 23 (kc (s0, s1, s2)) := by
        have h := Blk.new w 23 (kc (s0, s1, s2))
        rw [hZ]; exact h
      have HsC := hid (fun (W : World) (hW : Below Z.heap.size Z W) => show At3 W (w.heap.size) 0 (s0, s1, s2) from ⟨(bs.below hW bs.lt).cell 0 _ rfl, (bs.below hW bs.lt).cell 1 _ rfl, (bs.below hW bs.lt).cell 2 _ rfl⟩)
      have HT := hid (Below.refl Z.heap.size Z)
      rw [← hZ]
      clear hZ bs
      go_wp2_with fail
      refine (SA.out _).mono ?_
      rintro e wn ⟨rfl, hb⟩
      have HT := hid (below_t HT.out hb)
      clear hb
      go_wp2_with fail
      refine (FA.out _ (HZ.out.trans (HT.out.mono HZ.out.size))).mono ?_
      rintro e wn ⟨rfl, hb⟩
      have HT := hid (below_t HT.out hb)
      clear hb
      go_wp2_with fail
      refine (FB.out _ (HZ.out.trans (HT.out.mono HZ.out.size))).mono ?_
      rintro e wn ⟨rfl, hb⟩
      have HT := hid (below_t HT.out hb)
      clear hb
      go_wp2_with fail
      refine (MM.out _ (HZ.out.trans (HT.out.mono HZ.out.size))).mono ?_
      rintro e wn ⟨⟨u, rfl, hu⟩, hb⟩
      have HT := hid (below_t HT.out hb)
      clear hb
      rcases HE.out with ⟨h1, h2, h3⟩ | ⟨h1, h2⟩
      · rw [h1]
        rw [HME0.out ⟨h2, h3⟩] at hu
        have hsr := (HLST.out h2 h3).2
        obtain ⟨R, hR⟩ : ∃ R, R = S8.mrg a b := ⟨_, rfl⟩
        rw [← hR] at hu hsr HMEM HML
        have HSR := hid hsr
        obtain ⟨pu, cu, hf⟩ := hu.form
        obtain ⟨n, hn⟩ : ∃ n, n = R.length := ⟨_, rfl⟩
        have HN := hid hn
        have hn80 : n ≤ 80 := by have := HML.out; have := HLL.out; omega
        rw [← hn] at hf
        subst hf
        have HU := hid hu
        have HCU := hid (show n ≤ cu ∧ cu ≤ 9223372036854775807 from by have := hu.cap.2; unfold maxLen at this; omega)
        clear hu hn hR hsr h1 h2 h3 HE HME0 HME1 HLST MM FA FB
        have HM1 := hid (HZ.out.trans (HT.out.mono HZ.out.size))
        have HIU := hid (fun W (h : Below wn.heap.size wn W) => HU.out.ups h)
        have hcu1 := HCU.out.1; have hcu2 := HCU.out.2
        go_wp2_with fail
        go_loopw [9] (fun t wr => ∃ j : Nat, j ≤ n ∧ t = .int .i64 j ∧ Below wn.heap.size wn wr) (fun t _ => n - (intOf t).toNat)
        case atStart => exact ⟨0, by omega, rfl, Below.refl _ _⟩
        case round =>
          obtain ⟨j, hj, rfl, hb1⟩ := hrel
          have HB1 := hid hb1
          have HBW := hid (show Below w.heap.size w wr from HM1.out.trans (hb1.mono HM1.out.size))
          clear hb1
          by_cases hlt : j < n
          · obtain ⟨x, hx⟩ := get_lt (l := R) (i := j) (by rw [← HN.out]; exact hlt)
            obtain ⟨bu, ou, rfl, hax⟩ := ks_at HU.out HB1.out hx
            have HAX := hid hax
            have hmem := (HMEM.out x).1 (List.mem_of_getElem? hx)
            have HJL := hid hlt
            have INA := hid (fun W (h : Below wr.heap.size wr W) => in_any _ a x W (HAA.out W (HBW.out.trans (h.mono HBW.out.size))))
            have INB := hid (fun W (h : Below wr.heap.size wr W) => in_any vb b x W (HBB.out W (HBW.out.trans (h.mono HBW.out.size))))
            have HPR := hid (fun (q : Nat) (hq : j = q + 1) => show ∃ p, R[q]? = some p ∧ S8.lt p x from by
              obtain ⟨p, hp⟩ := get_lt (l := R) (i := q) (by rw [← HN.out]; omega)
              refine ⟨p, hp, ?_⟩
              obtain ⟨l1, l2⟩ := List.getElem?_eq_some_iff.1 hp
              obtain ⟨l3, l4⟩ := List.getElem?_eq_some_iff.1 hx
              have := List.pairwise_iff_getElem.1 HSR.out q j l1 l3 (by omega)
              rw [l2, l4] at this
              exact this)
            have HT1 := hid (Below.refl wr.heap.size wr)
            have CPX := hid (fun (p : St) W => Compare_any p x W)
            have HCPX := hid (fun (p : St) (h : S8.lt p x) => S8.cp_lt h)
            by_cases hia : x ∈ a
            · rw [show decide (x ∈ a) = true from decide_eq_true hia] at INA
              clear hia hmem INB hax hx
              obtain ⟨x0, x1, x2⟩ := x
              by_cases hj0 : j = 0
              · have HJ0 := hid hj0
                clear hj0 HPR CPX HCPX
                go_upto_region 11 with fail
                have HT1 := hid HT1.out.drew
                refine wa_start (S := fun W => Below wr.heap.size wr W) (by kernel_rfl) HT1.out ?_
                refine wa_tk 0 (some 42) (.slice pa na ca) rfl (by kernel_rfl) rfl rfl HT1.out (fun w h0 => by go_simp) ?_
                try simp only [Act.put, List.setIfInBounds_toArray, List.set_cons_zero, List.set_cons_succ]
                refine wa_tk 1 (some 43) (.slice (some ⟨bu, ou, none⟩) n cu) rfl (by kernel_rfl) rfl rfl HT1.out (fun w h0 => by go_simp) ?_
                try simp only [Act.put, List.setIfInBounds_toArray, List.set_cons_zero, List.set_cons_succ]
                refine wa_tk 2 (some 44) (.int .i64 (j : Int)) rfl (by kernel_rfl) rfl rfl HT1.out (fun w h0 => by go_simp) ?_
                try simp only [Act.put, List.setIfInBounds_toArray, List.set_cons_zero, List.set_cons_succ]
                refine wa_tk 3 (some 45) (.pointer (some ⟨bu, ou + j * 3, none⟩)) rfl (by kernel_rfl) rfl rfl HT1.out (fun w h0 => by have hj := HJL.out; have hcu := HCU.out; go_simp) ?_
                try simp only [Act.put, List.setIfInBounds_toArray, List.set_cons_zero, List.set_cons_succ]
                refine wa_tk 4 (some 46) (KV (x0, x1, x2)) rfl (by kernel_rfl) rfl rfl HT1.out (fun w h0 => by obtain ⟨k0, k1, k2⟩ := HAX.out _ h0; go_simp) ?_
                try simp only [Act.put, List.setIfInBounds_toArray, List.set_cons_zero, List.set_cons_succ]
                refine wa_branch [5] (by decide +kernel) rfl ?_
                refine ar_op 5 rfl rfl (fun K hK => ?_) ar_nil
                unfold Oper.wp
                go_simp
                go_at_call 25
                refine (INA.out _ HT1.out).mono ?_
                rintro e wz ⟨rfl, hbz⟩
                have HT1 := hid (below_t HT1.out hbz)
                clear hbz
                go_simp
                refine hK.out _ _ HT1.out ?_
                clear hK K
                try simp only [Act.put, List.setIfInBounds_toArray, List.set_cons_zero, List.set_cons_succ]
                refine wa_tk 6 (some 48) (.bool false) rfl (by kernel_rfl) rfl rfl HT1.out (fun w h0 => by go_simp) ?_
                try simp only [Act.put, List.setIfInBounds_toArray, List.set_cons_zero, List.set_cons_succ]
                refine wa_tk 7 (some 49) (.bool false) rfl (by kernel_rfl) rfl rfl HT1.out (fun w h0 => by go_simp) ?_
                try simp only [Act.put, List.setIfInBounds_toArray, List.set_cons_zero, List.set_cons_succ]
                refine wa_skg 8 (some 50) rfl (by kernel_rfl) rfl rfl HT1.out ?_
                try simp only [Act.put, List.setIfInBounds_toArray, List.set_cons_zero, List.set_cons_succ]
                refine wa_skg 9 (some 51) rfl (by kernel_rfl) rfl rfl HT1.out ?_
                try simp only [Act.put, List.setIfInBounds_toArray, List.set_cons_zero, List.set_cons_succ]
                refine wa_skg 10 (some 52) rfl (by kernel_rfl) rfl rfl HT1.out ?_
                try simp only [Act.put, List.setIfInBounds_toArray, List.set_cons_zero, List.set_cons_succ]
                refine wa_skg 11 (some 53) rfl (by kernel_rfl) rfl rfl HT1.out ?_
                try simp only [Act.put, List.setIfInBounds_toArray, List.set_cons_zero, List.set_cons_succ]
                refine wa_skg 12 (some 54) rfl (by kernel_rfl) rfl rfl HT1.out ?_
                try simp only [Act.put, List.setIfInBounds_toArray, List.set_cons_zero, List.set_cons_succ]
                refine wa_skg 13 (some 55) rfl (by kernel_rfl) rfl rfl HT1.out ?_
                try simp only [Act.put, List.setIfInBounds_toArray, List.set_cons_zero, List.set_cons_succ]
                refine wa_skg 14 (some 56) rfl (by kernel_rfl) rfl rfl HT1.out ?_
                try simp only [Act.put, List.setIfInBounds_toArray, List.set_cons_zero, List.set_cons_succ]
                refine wa_tk 15 (some 57) (.bool false) rfl (by kernel_rfl) rfl rfl HT1.out (fun w h0 => by go_simp) ?_
                try simp only [Act.put, List.setIfInBounds_toArray, List.set_cons_zero, List.set_cons_succ]
                refine wa_tk 16 (some 58) (.bool false) rfl (by kernel_rfl) rfl rfl HT1.out (fun w h0 => by go_simp) ?_
                try simp only [Act.put, List.setIfInBounds_toArray, List.set_cons_zero, List.set_cons_succ]
                refine wa_tkg 17 (some 59) (.int .i64 (j : Int)) rfl (by kernel_rfl) rfl rfl HT1.out (fun w h0 => by go_simp) ?_
                try simp only [Act.put, List.setIfInBounds_toArray, List.set_cons_zero, List.set_cons_succ]
                refine wa_tkg 18 (some 60) (.bool false) rfl (by kernel_rfl) rfl rfl HT1.out (fun w h0 => by have hj0 := HJ0.out; (go_simp) <;> omega) ?_
                try simp only [Act.put, List.setIfInBounds_toArray, List.set_cons_zero, List.set_cons_succ]
                refine wa_tkg 19 (some 61) (.bool false) rfl (by kernel_rfl) rfl rfl HT1.out (fun w h0 => by go_simp) ?_
                try simp only [Act.put, List.setIfInBounds_toArray, List.set_cons_zero, List.set_cons_succ]
                refine wa_skg 20 (some 62) rfl (by kernel_rfl) rfl rfl HT1.out ?_
                try simp only [Act.put, List.setIfInBounds_toArray, List.set_cons_zero, List.set_cons_succ]
                refine wa_skg 21 (some 63) rfl (by kernel_rfl) rfl rfl HT1.out ?_
                try simp only [Act.put, List.setIfInBounds_toArray, List.set_cons_zero, List.set_cons_succ]
                refine wa_skg 22 (some 64) rfl (by kernel_rfl) rfl rfl HT1.out ?_
                try simp only [Act.put, List.setIfInBounds_toArray, List.set_cons_zero, List.set_cons_succ]
                refine wa_skg 23 (some 65) rfl (by kernel_rfl) rfl rfl HT1.out ?_
                try simp only [Act.put, List.setIfInBounds_toArray, List.set_cons_zero, List.set_cons_succ]
                refine wa_skg 24 (some 66) rfl (by kernel_rfl) rfl rfl HT1.out ?_
                try simp only [Act.put, List.setIfInBounds_toArray, List.set_cons_zero, List.set_cons_succ]
                refine wa_skg 25 (some 67) rfl (by kernel_rfl) rfl rfl HT1.out ?_
                try simp only [Act.put, List.setIfInBounds_toArray, List.set_cons_zero, List.set_cons_succ]
                refine wa_skg 26 (some 68) rfl (by kernel_rfl) rfl rfl HT1.out ?_
                try simp only [Act.put, List.setIfInBounds_toArray, List.set_cons_zero, List.set_cons_succ]
                refine wa_skg 27 (some 69) rfl (by kernel_rfl) rfl rfl HT1.out ?_
                try simp only [Act.put, List.setIfInBounds_toArray, List.set_cons_zero, List.set_cons_succ]
                refine wa_skg 28 (some 70) rfl (by kernel_rfl) rfl rfl HT1.out ?_
                try simp only [Act.put, List.setIfInBounds_toArray, List.set_cons_zero, List.set_cons_succ]
                refine wa_skg 29 (some 71) rfl (by kernel_rfl) rfl rfl HT1.out ?_
                try simp only [Act.put, List.setIfInBounds_toArray, List.set_cons_zero, List.set_cons_succ]
                refine wa_skg 30 (some 72) rfl (by kernel_rfl) rfl rfl HT1.out ?_
                try simp only [Act.put, List.setIfInBounds_toArray, List.set_cons_zero, List.set_cons_succ]
                refine wa_tkg 31 (some 73) (.bool false) rfl (by kernel_rfl) rfl rfl HT1.out (fun w h0 => by go_simp) ?_
                try simp only [Act.put, List.setIfInBounds_toArray, List.set_cons_zero, List.set_cons_succ]
                refine wa_tk 32 (some 74) (.bool false) rfl (by kernel_rfl) rfl rfl HT1.out (fun w h0 => by go_simp) ?_
                try simp only [Act.put, List.setIfInBounds_toArray, List.set_cons_zero, List.set_cons_succ]
                refine wa_done (by decide +kernel) ?_
                go_wp2
                go_roundw
                case rel => exact ⟨j + 1, by omega, by go_num, below_t HB1.out HT1.out⟩
                case measure => simp [intOf]; omega
              · obtain ⟨q, hq⟩ : ∃ q, j = q + 1 := ⟨j - 1, by omega⟩
                obtain ⟨p, hp, hpl⟩ := HPR.out q hq
                obtain ⟨bu', ou', e', hap⟩ := ks_at HU.out HB1.out hp
                injection e' with e'
                injection e' with e1 e2 e3
                subst e1; subst e2
                have HAP := hid hap
                have CP := hid (fun W => CPX.out p W)
                rw [HCPX.out p hpl] at CP
                have HJ0 := hid (show (0 : Int) < (j : Int) by omega)
                have HWM := hid (show IntKind.i64.wrap (q : Int) = (q : Int) from IntWalk.i64_in _ (by omega))
                have HMM := hid (show ((j : Int) - 1) = (q : Int) by omega)
                have HQL := hid (show q < n by omega)
                obtain ⟨p0, p1, p2⟩ := p
                clear hj0 HPR CPX HCPX hap hp hpl hq
                go_upto_region 11 with fail
                have HT1 := hid HT1.out.drew
                refine wa_start (S := fun W => Below wr.heap.size wr W) (by kernel_rfl) HT1.out ?_
                refine wa_tk 0 (some 42) (.slice pa na ca) rfl (by kernel_rfl) rfl rfl HT1.out (fun w h0 => by go_simp) ?_
                try simp only [Act.put, List.setIfInBounds_toArray, List.set_cons_zero, List.set_cons_succ]
                refine wa_tk 1 (some 43) (.slice (some ⟨bu, ou, none⟩) n cu) rfl (by kernel_rfl) rfl rfl HT1.out (fun w h0 => by go_simp) ?_
                try simp only [Act.put, List.setIfInBounds_toArray, List.set_cons_zero, List.set_cons_succ]
                refine wa_tk 2 (some 44) (.int .i64 (j : Int)) rfl (by kernel_rfl) rfl rfl HT1.out (fun w h0 => by go_simp) ?_
                try simp only [Act.put, List.setIfInBounds_toArray, List.set_cons_zero, List.set_cons_succ]
                refine wa_tk 3 (some 45) (.pointer (some ⟨bu, ou + j * 3, none⟩)) rfl (by kernel_rfl) rfl rfl HT1.out (fun w h0 => by have hj := HJL.out; have hcu := HCU.out; go_simp) ?_
                try simp only [Act.put, List.setIfInBounds_toArray, List.set_cons_zero, List.set_cons_succ]
                refine wa_tk 4 (some 46) (KV (x0, x1, x2)) rfl (by kernel_rfl) rfl rfl HT1.out (fun w h0 => by obtain ⟨k0, k1, k2⟩ := HAX.out _ h0; go_simp) ?_
                try simp only [Act.put, List.setIfInBounds_toArray, List.set_cons_zero, List.set_cons_succ]
                refine wa_branch [5] (by decide +kernel) rfl ?_
                refine ar_op 5 rfl rfl (fun K hK => ?_) ar_nil
                unfold Oper.wp
                go_simp
                go_at_call 25
                refine (INA.out _ HT1.out).mono ?_
                rintro e wz ⟨rfl, hbz⟩
                have HT1 := hid (below_t HT1.out hbz)
                clear hbz
                go_simp
                refine hK.out _ _ HT1.out ?_
                clear hK K
                try simp only [Act.put, List.setIfInBounds_toArray, List.set_cons_zero, List.set_cons_succ]
                refine wa_tk 6 (some 48) (.bool false) rfl (by kernel_rfl) rfl rfl HT1.out (fun w h0 => by go_simp) ?_
                try simp only [Act.put, List.setIfInBounds_toArray, List.set_cons_zero, List.set_cons_succ]
                refine wa_tk 7 (some 49) (.bool false) rfl (by kernel_rfl) rfl rfl HT1.out (fun w h0 => by go_simp) ?_
                try simp only [Act.put, List.setIfInBounds_toArray, List.set_cons_zero, List.set_cons_succ]
                refine wa_skg 8 (some 50) rfl (by kernel_rfl) rfl rfl HT1.out ?_
                try simp only [Act.put, List.setIfInBounds_toArray, List.set_cons_zero, List.set_cons_succ]
                refine wa_skg 9 (some 51) rfl (by kernel_rfl) rfl rfl HT1.out ?_
                try simp only [Act.put, List.setIfInBounds_toArray, List.set_cons_zero, List.set_cons_succ]
                refine wa_skg 10 (some 52) rfl (by kernel_rfl) rfl rfl HT1.out ?_
                try simp only [Act.put, List.setIfInBounds_toArray, List.set_cons_zero, List.set_cons_succ]
                refine wa_skg 11 (some 53) rfl (by kernel_rfl) rfl rfl HT1.out ?_
                try simp only [Act.put, List.setIfInBounds_toArray, List.set_cons_zero, List.set_cons_succ]
                refine wa_skg 12 (some 54) rfl (by kernel_rfl) rfl rfl HT1.out ?_
                try simp only [Act.put, List.setIfInBounds_toArray, List.set_cons_zero, List.set_cons_succ]
                refine wa_skg 13 (some 55) rfl (by kernel_rfl) rfl rfl HT1.out ?_
                try simp only [Act.put, List.setIfInBounds_toArray, List.set_cons_zero, List.set_cons_succ]
                refine wa_skg 14 (some 56) rfl (by kernel_rfl) rfl rfl HT1.out ?_
                try simp only [Act.put, List.setIfInBounds_toArray, List.set_cons_zero, List.set_cons_succ]
                refine wa_tk 15 (some 57) (.bool false) rfl (by kernel_rfl) rfl rfl HT1.out (fun w h0 => by go_simp) ?_
                try simp only [Act.put, List.setIfInBounds_toArray, List.set_cons_zero, List.set_cons_succ]
                refine wa_tk 16 (some 58) (.bool false) rfl (by kernel_rfl) rfl rfl HT1.out (fun w h0 => by go_simp) ?_
                try simp only [Act.put, List.setIfInBounds_toArray, List.set_cons_zero, List.set_cons_succ]
                refine wa_tkg 17 (some 59) (.int .i64 (j : Int)) rfl (by kernel_rfl) rfl rfl HT1.out (fun w h0 => by go_simp) ?_
                try simp only [Act.put, List.setIfInBounds_toArray, List.set_cons_zero, List.set_cons_succ]
                refine wa_tkg 18 (some 60) (.bool true) rfl (by kernel_rfl) rfl rfl HT1.out (fun w h0 => by have hj0 := HJ0.out; (go_simp) <;> omega) ?_
                try simp only [Act.put, List.setIfInBounds_toArray, List.set_cons_zero, List.set_cons_succ]
                refine wa_tkg 19 (some 61) (.bool true) rfl (by kernel_rfl) rfl rfl HT1.out (fun w h0 => by go_simp) ?_
                try simp only [Act.put, List.setIfInBounds_toArray, List.set_cons_zero, List.set_cons_succ]
                refine wa_tkg 20 (some 62) (.slice (some ⟨bu, ou, none⟩) n cu) rfl (by kernel_rfl) rfl rfl HT1.out (fun w h0 => by go_simp) ?_
                try simp only [Act.put, List.setIfInBounds_toArray, List.set_cons_zero, List.set_cons_succ]
                refine wa_tkg 21 (some 63) (.int .i64 (j : Int)) rfl (by kernel_rfl) rfl rfl HT1.out (fun w h0 => by go_simp) ?_
                try simp only [Act.put, List.setIfInBounds_toArray, List.set_cons_zero, List.set_cons_succ]
                refine wa_tkg 22 (some 64) (.int .i64 (q : Int)) rfl (by kernel_rfl) rfl rfl HT1.out (fun w h0 => by have hwm := HWM.out; have hmm := HMM.out; go_simp) ?_
                try simp only [Act.put, List.setIfInBounds_toArray, List.set_cons_zero, List.set_cons_succ]
                refine wa_tkg 23 (some 65) (.pointer (some ⟨bu, ou + q * 3, none⟩)) rfl (by kernel_rfl) rfl rfl HT1.out (fun w h0 => by have hql := HQL.out; have hcu := HCU.out; go_simp) ?_
                try simp only [Act.put, List.setIfInBounds_toArray, List.set_cons_zero, List.set_cons_succ]
                refine wa_tkg 24 (some 66) (KV (p0, p1, p2)) rfl (by kernel_rfl) rfl rfl HT1.out (fun w h0 => by obtain ⟨k0, k1, k2⟩ := HAP.out _ h0; go_simp) ?_
                try simp only [Act.put, List.setIfInBounds_toArray, List.set_cons_zero, List.set_cons_succ]
                refine wa_tkg 25 (some 67) (.slice (some ⟨bu, ou, none⟩) n cu) rfl (by kernel_rfl) rfl rfl HT1.out (fun w h0 => by go_simp) ?_
                try simp only [Act.put, List.setIfInBounds_toArray, List.set_cons_zero, List.set_cons_succ]
                refine wa_tkg 26 (some 68) (.int .i64 (j : Int)) rfl (by kernel_rfl) rfl rfl HT1.out (fun w h0 => by go_simp) ?_
                try simp only [Act.put, List.setIfInBounds_toArray, List.set_cons_zero, List.set_cons_succ]
                refine wa_tkg 27 (some 69) (.pointer (some ⟨bu, ou + j * 3, none⟩)) rfl (by kernel_rfl) rfl rfl HT1.out (fun w h0 => by have hj := HJL.out; have hcu := HCU.out; go_simp) ?_
                try simp only [Act.put, List.setIfInBounds_toArray, List.set_cons_zero, List.set_cons_succ]
                refine wa_tkg 28 (some 70) (KV (x0, x1, x2)) rfl (by kernel_rfl) rfl rfl HT1.out (fun w h0 => by obtain ⟨k0, k1, k2⟩ := HAX.out _ h0; go_simp) ?_
                try simp only [Act.put, List.setIfInBounds_toArray, List.set_cons_zero, List.set_cons_succ]
                refine wa_branch [29] (by decide +kernel) rfl ?_
                refine ar_opg 29 rfl rfl (fun K hK => ?_) ar_nil
                unfold Oper.wp
                go_simp
                go_at_call 17
                refine (CP.out _).mono ?_
                rintro e wz ⟨rfl, hbz⟩
                have HT1 := hid (below_t HT1.out hbz)
                clear hbz
                go_simp
                refine hK.out _ _ HT1.out ?_
                clear hK K
                try simp only [Act.put, List.setIfInBounds_toArray, List.set_cons_zero, List.set_cons_succ]
                refine wa_tkg 30 (some 72) (.bool false) rfl (by kernel_rfl) rfl rfl HT1.out (fun w h0 => by go_simp) ?_
                try simp only [Act.put, List.setIfInBounds_toArray, List.set_cons_zero, List.set_cons_succ]
                refine wa_tkg 31 (some 73) (.bool false) rfl (by kernel_rfl) rfl rfl HT1.out (fun w h0 => by go_simp) ?_
                try simp only [Act.put, List.setIfInBounds_toArray, List.set_cons_zero, List.set_cons_succ]
                refine wa_tk 32 (some 74) (.bool false) rfl (by kernel_rfl) rfl rfl HT1.out (fun w h0 => by go_simp) ?_
                try simp only [Act.put, List.setIfInBounds_toArray, List.set_cons_zero, List.set_cons_succ]
                refine wa_done (by decide +kernel) ?_
                go_wp2
                go_roundw
                case rel => exact ⟨j + 1, by omega, by go_num, below_t HB1.out HT1.out⟩
                case measure => simp [intOf]; omega
            · have hib : x ∈ b := hmem.resolve_left hia
              rw [show decide (x ∈ a) = false from decide_eq_false hia] at INA
              rw [show decide (x ∈ b) = true from decide_eq_true hib] at INB
              clear hia hib hmem hax hx
              obtain ⟨x0, x1, x2⟩ := x
              by_cases hj0 : j = 0
              · have HJ0 := hid hj0
                clear hj0 HPR CPX HCPX
                go_upto_region 11 with fail
                have HT1 := hid HT1.out.drew
                refine wa_start (S := fun W => Below wr.heap.size wr W) (by kernel_rfl) HT1.out ?_
                refine wa_tk 0 (some 42) (.slice pa na ca) rfl (by kernel_rfl) rfl rfl HT1.out (fun w h0 => by go_simp) ?_
                try simp only [Act.put, List.setIfInBounds_toArray, List.set_cons_zero, List.set_cons_succ]
                refine wa_tk 1 (some 43) (.slice (some ⟨bu, ou, none⟩) n cu) rfl (by kernel_rfl) rfl rfl HT1.out (fun w h0 => by go_simp) ?_
                try simp only [Act.put, List.setIfInBounds_toArray, List.set_cons_zero, List.set_cons_succ]
                refine wa_tk 2 (some 44) (.int .i64 (j : Int)) rfl (by kernel_rfl) rfl rfl HT1.out (fun w h0 => by go_simp) ?_
                try simp only [Act.put, List.setIfInBounds_toArray, List.set_cons_zero, List.set_cons_succ]
                refine wa_tk 3 (some 45) (.pointer (some ⟨bu, ou + j * 3, none⟩)) rfl (by kernel_rfl) rfl rfl HT1.out (fun w h0 => by have hj := HJL.out; have hcu := HCU.out; go_simp) ?_
                try simp only [Act.put, List.setIfInBounds_toArray, List.set_cons_zero, List.set_cons_succ]
                refine wa_tk 4 (some 46) (KV (x0, x1, x2)) rfl (by kernel_rfl) rfl rfl HT1.out (fun w h0 => by obtain ⟨k0, k1, k2⟩ := HAX.out _ h0; go_simp) ?_
                try simp only [Act.put, List.setIfInBounds_toArray, List.set_cons_zero, List.set_cons_succ]
                refine wa_branch [5] (by decide +kernel) rfl ?_
                refine ar_op 5 rfl rfl (fun K hK => ?_) ar_nil
                unfold Oper.wp
                go_simp
                go_at_call 25
                refine (INA.out _ HT1.out).mono ?_
                rintro e wz ⟨rfl, hbz⟩
                have HT1 := hid (below_t HT1.out hbz)
                clear hbz
                go_simp
                refine hK.out _ _ HT1.out ?_
                clear hK K
                try simp only [Act.put, List.setIfInBounds_toArray, List.set_cons_zero, List.set_cons_succ]
                refine wa_tk 6 (some 48) (.bool true) rfl (by kernel_rfl) rfl rfl HT1.out (fun w h0 => by go_simp) ?_
                try simp only [Act.put, List.setIfInBounds_toArray, List.set_cons_zero, List.set_cons_succ]
                refine wa_tk 7 (some 49) (.bool true) rfl (by kernel_rfl) rfl rfl HT1.out (fun w h0 => by go_simp) ?_
                try simp only [Act.put, List.setIfInBounds_toArray, List.set_cons_zero, List.set_cons_succ]
                refine wa_tkg 8 (some 50) (vb) rfl (by kernel_rfl) rfl rfl HT1.out (fun w h0 => by go_simp) ?_
                try simp only [Act.put, List.setIfInBounds_toArray, List.set_cons_zero, List.set_cons_succ]
                refine wa_tkg 9 (some 51) (.slice (some ⟨bu, ou, none⟩) n cu) rfl (by kernel_rfl) rfl rfl HT1.out (fun w h0 => by go_simp) ?_
                try simp only [Act.put, List.setIfInBounds_toArray, List.set_cons_zero, List.set_cons_succ]
                refine wa_tkg 10 (some 52) (.int .i64 (j : Int)) rfl (by kernel_rfl) rfl rfl HT1.out (fun w h0 => by go_simp) ?_
                try simp only [Act.put, List.setIfInBounds_toArray, List.set_cons_zero, List.set_cons_succ]
                refine wa_tkg 11 (some 53) (.pointer (some ⟨bu, ou + j * 3, none⟩)) rfl (by kernel_rfl) rfl rfl HT1.out (fun w h0 => by have hj := HJL.out; have hcu := HCU.out; go_simp) ?_
                try simp only [Act.put, List.setIfInBounds_toArray, List.set_cons_zero, List.set_cons_succ]
                refine wa_tkg 12 (some 54) (KV (x0, x1, x2)) rfl (by kernel_rfl) rfl rfl HT1.out (fun w h0 => by obtain ⟨k0, k1, k2⟩ := HAX.out _ h0; go_simp) ?_
                try simp only [Act.put, List.setIfInBounds_toArray, List.set_cons_zero, List.set_cons_succ]
                refine wa_branch [13] (by decide +kernel) rfl ?_
                refine ar_opg 13 rfl rfl (fun K hK => ?_) ar_nil
                unfold Oper.wp
                go_simp
                go_at_call 25
                refine (INB.out _ HT1.out).mono ?_
                rintro e wz ⟨rfl, hbz⟩
                have HT1 := hid (below_t HT1.out hbz)
                clear hbz
                go_simp
                refine hK.out _ _ HT1.out ?_
                clear hK K
                try simp only [Act.put, List.setIfInBounds_toArray, List.set_cons_zero, List.set_cons_succ]
                refine wa_tkg 14 (some 56) (.bool false) rfl (by kernel_rfl) rfl rfl HT1.out (fun w h0 => by go_simp) ?_
                try simp only [Act.put, List.setIfInBounds_toArray, List.set_cons_zero, List.set_cons_succ]
                refine wa_tk 15 (some 57) (.bool false) rfl (by kernel_rfl) rfl rfl HT1.out (fun w h0 => by go_simp) ?_
                try simp only [Act.put, List.setIfInBounds_toArray, List.set_cons_zero, List.set_cons_succ]
                refine wa_tk 16 (some 58) (.bool false) rfl (by kernel_rfl) rfl rfl HT1.out (fun w h0 => by go_simp) ?_
                try simp only [Act.put, List.setIfInBounds_toArray, List.set_cons_zero, List.set_cons_succ]
                refine wa_tkg 17 (some 59) (.int .i64 (j : Int)) rfl (by kernel_rfl) rfl rfl HT1.out (fun w h0 => by go_simp) ?_
                try simp only [Act.put, List.setIfInBounds_toArray, List.set_cons_zero, List.set_cons_succ]
                refine wa_tkg 18 (some 60) (.bool false) rfl (by kernel_rfl) rfl rfl HT1.out (fun w h0 => by have hj0 := HJ0.out; (go_simp) <;> omega) ?_
                try simp only [Act.put, List.setIfInBounds_toArray, List.set_cons_zero, List.set_cons_succ]
                refine wa_tkg 19 (some 61) (.bool false) rfl (by kernel_rfl) rfl rfl HT1.out (fun w h0 => by go_simp) ?_
                try simp only [Act.put, List.setIfInBounds_toArray, List.set_cons_zero, List.set_cons_succ]
                refine wa_skg 20 (some 62) rfl (by kernel_rfl) rfl rfl HT1.out ?_
                try simp only [Act.put, List.setIfInBounds_toArray, List.set_cons_zero, List.set_cons_succ]
                refine wa_skg 21 (some 63) rfl (by kernel_rfl) rfl rfl HT1.out ?_
                try simp only [Act.put, List.setIfInBounds_toArray, List.set_cons_zero, List.set_cons_succ]
                refine wa_skg 22 (some 64) rfl (by kernel_rfl) rfl rfl HT1.out ?_
                try simp only [Act.put, List.setIfInBounds_toArray, List.set_cons_zero, List.set_cons_succ]
                refine wa_skg 23 (some 65) rfl (by kernel_rfl) rfl rfl HT1.out ?_
                try simp only [Act.put, List.setIfInBounds_toArray, List.set_cons_zero, List.set_cons_succ]
                refine wa_skg 24 (some 66) rfl (by kernel_rfl) rfl rfl HT1.out ?_
                try simp only [Act.put, List.setIfInBounds_toArray, List.set_cons_zero, List.set_cons_succ]
                refine wa_skg 25 (some 67) rfl (by kernel_rfl) rfl rfl HT1.out ?_
                try simp only [Act.put, List.setIfInBounds_toArray, List.set_cons_zero, List.set_cons_succ]
                refine wa_skg 26 (some 68) rfl (by kernel_rfl) rfl rfl HT1.out ?_
                try simp only [Act.put, List.setIfInBounds_toArray, List.set_cons_zero, List.set_cons_succ]
                refine wa_skg 27 (some 69) rfl (by kernel_rfl) rfl rfl HT1.out ?_
                try simp only [Act.put, List.setIfInBounds_toArray, List.set_cons_zero, List.set_cons_succ]
                refine wa_skg 28 (some 70) rfl (by kernel_rfl) rfl rfl HT1.out ?_
                try simp only [Act.put, List.setIfInBounds_toArray, List.set_cons_zero, List.set_cons_succ]
                refine wa_skg 29 (some 71) rfl (by kernel_rfl) rfl rfl HT1.out ?_
                try simp only [Act.put, List.setIfInBounds_toArray, List.set_cons_zero, List.set_cons_succ]
                refine wa_skg 30 (some 72) rfl (by kernel_rfl) rfl rfl HT1.out ?_
                try simp only [Act.put, List.setIfInBounds_toArray, List.set_cons_zero, List.set_cons_succ]
                refine wa_tkg 31 (some 73) (.bool false) rfl (by kernel_rfl) rfl rfl HT1.out (fun w h0 => by go_simp) ?_
                try simp only [Act.put, List.setIfInBounds_toArray, List.set_cons_zero, List.set_cons_succ]
                refine wa_tk 32 (some 74) (.bool false) rfl (by kernel_rfl) rfl rfl HT1.out (fun w h0 => by go_simp) ?_
                try simp only [Act.put, List.setIfInBounds_toArray, List.set_cons_zero, List.set_cons_succ]
                refine wa_done (by decide +kernel) ?_
                go_wp2
                go_roundw
                case rel => exact ⟨j + 1, by omega, by go_num, below_t HB1.out HT1.out⟩
                case measure => simp [intOf]; omega
              · obtain ⟨q, hq⟩ : ∃ q, j = q + 1 := ⟨j - 1, by omega⟩
                obtain ⟨p, hp, hpl⟩ := HPR.out q hq
                obtain ⟨bu', ou', e', hap⟩ := ks_at HU.out HB1.out hp
                injection e' with e'
                injection e' with e1 e2 e3
                subst e1; subst e2
                have HAP := hid hap
                have CP := hid (fun W => CPX.out p W)
                rw [HCPX.out p hpl] at CP
                have HJ0 := hid (show (0 : Int) < (j : Int) by omega)
                have HWM := hid (show IntKind.i64.wrap (q : Int) = (q : Int) from IntWalk.i64_in _ (by omega))
                have HMM := hid (show ((j : Int) - 1) = (q : Int) by omega)
                have HQL := hid (show q < n by omega)
                obtain ⟨p0, p1, p2⟩ := p
                clear hj0 HPR CPX HCPX hap hp hpl hq
                go_upto_region 11 with fail
                have HT1 := hid HT1.out.drew
                refine wa_start (S := fun W => Below wr.heap.size wr W) (by kernel_rfl) HT1.out ?_
                refine wa_tk 0 (some 42) (.slice pa na ca) rfl (by kernel_rfl) rfl rfl HT1.out (fun w h0 => by go_simp) ?_
                try simp only [Act.put, List.setIfInBounds_toArray, List.set_cons_zero, List.set_cons_succ]
                refine wa_tk 1 (some 43) (.slice (some ⟨bu, ou, none⟩) n cu) rfl (by kernel_rfl) rfl rfl HT1.out (fun w h0 => by go_simp) ?_
                try simp only [Act.put, List.setIfInBounds_toArray, List.set_cons_zero, List.set_cons_succ]
                refine wa_tk 2 (some 44) (.int .i64 (j : Int)) rfl (by kernel_rfl) rfl rfl HT1.out (fun w h0 => by go_simp) ?_
                try simp only [Act.put, List.setIfInBounds_toArray, List.set_cons_zero, List.set_cons_succ]
                refine wa_tk 3 (some 45) (.pointer (some ⟨bu, ou + j * 3, none⟩)) rfl (by kernel_rfl) rfl rfl HT1.out (fun w h0 => by have hj := HJL.out; have hcu := HCU.out; go_simp) ?_
                try simp only [Act.put, List.setIfInBounds_toArray, List.set_cons_zero, List.set_cons_succ]
                refine wa_tk 4 (some 46) (KV (x0, x1, x2)) rfl (by kernel_rfl) rfl rfl HT1.out (fun w h0 => by obtain ⟨k0, k1, k2⟩ := HAX.out _ h0; go_simp) ?_
                try simp only [Act.put, List.setIfInBounds_toArray, List.set_cons_zero, List.set_cons_succ]
                refine wa_branch [5] (by decide +kernel) rfl ?_
                refine ar_op 5 rfl rfl (fun K hK => ?_) ar_nil
                unfold Oper.wp
                go_simp
                go_at_call 25
                refine (INA.out _ HT1.out).mono ?_
                rintro e wz ⟨rfl, hbz⟩
                have HT1 := hid (below_t HT1.out hbz)
                clear hbz
                go_simp
                refine hK.out _ _ HT1.out ?_
                clear hK K
                try simp only [Act.put, List.setIfInBounds_toArray, List.set_cons_zero, List.set_cons_succ]
                refine wa_tk 6 (some 48) (.bool true) rfl (by kernel_rfl) rfl rfl HT1.out (fun w h0 => by go_simp) ?_
                try simp only [Act.put, List.setIfInBounds_toArray, List.set_cons_zero, List.set_cons_succ]
                refine wa_tk 7 (some 49) (.bool true) rfl (by kernel_rfl) rfl rfl HT1.out (fun w h0 => by go_simp) ?_
                try simp only [Act.put, List.setIfInBounds_toArray, List.set_cons_zero, List.set_cons_succ]
                refine wa_tkg 8 (some 50) (vb) rfl (by kernel_rfl) rfl rfl HT1.out (fun w h0 => by go_simp) ?_
                try simp only [Act.put, List.setIfInBounds_toArray, List.set_cons_zero, List.set_cons_succ]
                refine wa_tkg 9 (some 51) (.slice (some ⟨bu, ou, none⟩) n cu) rfl (by kernel_rfl) rfl rfl HT1.out (fun w h0 => by go_simp) ?_
                try simp only [Act.put, List.setIfInBounds_toArray, List.set_cons_zero, List.set_cons_succ]
                refine wa_tkg 10 (some 52) (.int .i64 (j : Int)) rfl (by kernel_rfl) rfl rfl HT1.out (fun w h0 => by go_simp) ?_
                try simp only [Act.put, List.setIfInBounds_toArray, List.set_cons_zero, List.set_cons_succ]
                refine wa_tkg 11 (some 53) (.pointer (some ⟨bu, ou + j * 3, none⟩)) rfl (by kernel_rfl) rfl rfl HT1.out (fun w h0 => by have hj := HJL.out; have hcu := HCU.out; go_simp) ?_
                try simp only [Act.put, List.setIfInBounds_toArray, List.set_cons_zero, List.set_cons_succ]
                refine wa_tkg 12 (some 54) (KV (x0, x1, x2)) rfl (by kernel_rfl) rfl rfl HT1.out (fun w h0 => by obtain ⟨k0, k1, k2⟩ := HAX.out _ h0; go_simp) ?_
                try simp only [Act.put, List.setIfInBounds_toArray, List.set_cons_zero, List.set_cons_succ]
                refine wa_branch [13] (by decide +kernel) rfl ?_
                refine ar_opg 13 rfl rfl (fun K hK => ?_) ar_nil
                unfold Oper.wp
                go_simp
                go_at_call 25
                refine (INB.out _ HT1.out).mono ?_
                rintro e wz ⟨rfl, hbz⟩
                have HT1 := hid (below_t HT1.out hbz)
                clear hbz
                go_simp
                refine hK.out _ _ HT1.out ?_
                clear hK K
                try simp only [Act.put, List.setIfInBounds_toArray, List.set_cons_zero, List.set_cons_succ]
                refine wa_tkg 14 (some 56) (.bool false) rfl (by kernel_rfl) rfl rfl HT1.out (fun w h0 => by go_simp) ?_
                try simp only [Act.put, List.setIfInBounds_toArray, List.set_cons_zero, List.set_cons_succ]
                refine wa_tk 15 (some 57) (.bool false) rfl (by kernel_rfl) rfl rfl HT1.out (fun w h0 => by go_simp) ?_
                try simp only [Act.put, List.setIfInBounds_toArray, List.set_cons_zero, List.set_cons_succ]
                refine wa_tk 16 (some 58) (.bool false) rfl (by kernel_rfl) rfl rfl HT1.out (fun w h0 => by go_simp) ?_
                try simp only [Act.put, List.setIfInBounds_toArray, List.set_cons_zero, List.set_cons_succ]
                refine wa_tkg 17 (some 59) (.int .i64 (j : Int)) rfl (by kernel_rfl) rfl rfl HT1.out (fun w h0 => by go_simp) ?_
                try simp only [Act.put, List.setIfInBounds_toArray, List.set_cons_zero, List.set_cons_succ]
                refine wa_tkg 18 (some 60) (.bool true) rfl (by kernel_rfl) rfl rfl HT1.out (fun w h0 => by have hj0 := HJ0.out; (go_simp) <;> omega) ?_
                try simp only [Act.put, List.setIfInBounds_toArray, List.set_cons_zero, List.set_cons_succ]
                refine wa_tkg 19 (some 61) (.bool true) rfl (by kernel_rfl) rfl rfl HT1.out (fun w h0 => by go_simp) ?_
                try simp only [Act.put, List.setIfInBounds_toArray, List.set_cons_zero, List.set_cons_succ]
                refine wa_tkg 20 (some 62) (.slice (some ⟨bu, ou, none⟩) n cu) rfl (by kernel_rfl) rfl rfl HT1.out (fun w h0 => by go_simp) ?_
                try simp only [Act.put, List.setIfInBounds_toArray, List.set_cons_zero, List.set_cons_succ]
                refine wa_tkg 21 (some 63) (.int .i64 (j : Int)) rfl (by kernel_rfl) rfl rfl HT1.out (fun w h0 => by go_simp) ?_
                try simp only [Act.put, List.setIfInBounds_toArray, List.set_cons_zero, List.set_cons_succ]
                refine wa_tkg 22 (some 64) (.int .i64 (q : Int)) rfl (by kernel_rfl) rfl rfl HT1.out (fun w h0 => by have hwm := HWM.out; have hmm := HMM.out; go_simp) ?_
                try simp only [Act.put, List.setIfInBounds_toArray, List.set_cons_zero, List.set_cons_succ]
                refine wa_tkg 23 (some 65) (.pointer (some ⟨bu, ou + q * 3, none⟩)) rfl (by kernel_rfl) rfl rfl HT1.out (fun w h0 => by have hql := HQL.out; have hcu := HCU.out; go_simp) ?_
                try simp only [Act.put, List.setIfInBounds_toArray, List.set_cons_zero, List.set_cons_succ]
                refine wa_tkg 24 (some 66) (KV (p0, p1, p2)) rfl (by kernel_rfl) rfl rfl HT1.out (fun w h0 => by obtain ⟨k0, k1, k2⟩ := HAP.out _ h0; go_simp) ?_
                try simp only [Act.put, List.setIfInBounds_toArray, List.set_cons_zero, List.set_cons_succ]
                refine wa_tkg 25 (some 67) (.slice (some ⟨bu, ou, none⟩) n cu) rfl (by kernel_rfl) rfl rfl HT1.out (fun w h0 => by go_simp) ?_
                try simp only [Act.put, List.setIfInBounds_toArray, List.set_cons_zero, List.set_cons_succ]
                refine wa_tkg 26 (some 68) (.int .i64 (j : Int)) rfl (by kernel_rfl) rfl rfl HT1.out (fun w h0 => by go_simp) ?_
                try simp only [Act.put, List.setIfInBounds_toArray, List.set_cons_zero, List.set_cons_succ]
                refine wa_tkg 27 (some 69) (.pointer (some ⟨bu, ou + j * 3, none⟩)) rfl (by kernel_rfl) rfl rfl HT1.out (fun w h0 => by have hj := HJL.out; have hcu := HCU.out; go_simp) ?_
                try simp only [Act.put, List.setIfInBounds_toArray, List.set_cons_zero, List.set_cons_succ]
                refine wa_tkg 28 (some 70) (KV (x0, x1, x2)) rfl (by kernel_rfl) rfl rfl HT1.out (fun w h0 => by obtain ⟨k0, k1, k2⟩ := HAX.out _ h0; go_simp) ?_
                try simp only [Act.put, List.setIfInBounds_toArray, List.set_cons_zero, List.set_cons_succ]
                refine wa_branch [29] (by decide +kernel) rfl ?_
                refine ar_opg 29 rfl rfl (fun K hK => ?_) ar_nil
                unfold Oper.wp
                go_simp
                go_at_call 17
                refine (CP.out _).mono ?_
                rintro e wz ⟨rfl, hbz⟩
                have HT1 := hid (below_t HT1.out hbz)
                clear hbz
                go_simp
                refine hK.out _ _ HT1.out ?_
                clear hK K
                try simp only [Act.put, List.setIfInBounds_toArray, List.set_cons_zero, List.set_cons_succ]
                refine wa_tkg 30 (some 72) (.bool false) rfl (by kernel_rfl) rfl rfl HT1.out (fun w h0 => by go_simp) ?_
                try simp only [Act.put, List.setIfInBounds_toArray, List.set_cons_zero, List.set_cons_succ]
                refine wa_tkg 31 (some 73) (.bool false) rfl (by kernel_rfl) rfl rfl HT1.out (fun w h0 => by go_simp) ?_
                try simp only [Act.put, List.setIfInBounds_toArray, List.set_cons_zero, List.set_cons_succ]
                refine wa_tk 32 (some 74) (.bool false) rfl (by kernel_rfl) rfl rfl HT1.out (fun w h0 => by go_simp) ?_
                try simp only [Act.put, List.setIfInBounds_toArray, List.set_cons_zero, List.set_cons_succ]
                refine wa_done (by decide +kernel) ?_
                go_wp2
                go_roundw
                case rel => exact ⟨j + 1, by omega, by go_num, below_t HB1.out HT1.out⟩
                case measure => simp [intOf]; omega
          · have HTW := hid (below_t HT.out HB1.out)
            have HMW := hid HBW.out
            have HUW := hid (HU.out.ups HB1.out)
            obtain ⟨WA, hWA⟩ : ∃ W, W = wr := ⟨_, rfl⟩
            rw [← hWA] at HTW HMW HUW ⊢
            clear hWA HBW HB1
            have hca := HCA.out.1; have hca2 := HCA.out.2
            go_wp2_with fail
            go_loopw [10] (fun t wr => ∃ j : Nat, j ≤ na ∧ t = .int .i64 j ∧ Below WA.heap.size WA wr) (fun t _ => na - (intOf t).toNat)
            case atStart => exact ⟨0, by omega, rfl, Below.refl _ _⟩
            case round =>
              obtain ⟨j, hj, rfl, hb1⟩ := hrel
              have HB1 := hid hb1
              have HBW := hid (show Below w.heap.size w wr from HMW.out.trans (hb1.mono HMW.out.size))
              clear hb1
              by_cases hlt : j < na
              · obtain ⟨x, hx⟩ := get_lt (l := a) (i := j) (by rw [← HNA.out]; exact hlt)
                obtain ⟨ba, oa, rfl, hax⟩ := ks_at (HAA.out w (Below.refl _ _)) HBW.out hx
                obtain ⟨k0, k1, k2⟩ := hax wr (Below.refl _ _)
                have INL := hid (in_any _ R x wr (HUW.out.ups HB1.out))
                rw [show decide (x ∈ R) = true from decide_eq_true ((HMEM.out x).2 (.inl (List.mem_of_getElem? hx)))] at INL
                obtain ⟨x0, x1, x2⟩ := x
                simp only at k0 k1 k2
                clear hax hx
                go_wp2_with fail
                refine INL.out.mono ?_
                rintro e wq ⟨rfl, hbq⟩
                have HBQ := hid (below_t HB1.out hbq)
                clear hbq
                go_wp2
                go_roundw
                case rel => exact ⟨j + 1, by omega, by go_num, HBQ.out⟩
                case measure => simp [intOf]; omega
              · have HTW2 := hid (below_t HTW.out HB1.out)
                have HSC2 := hid (fun (W : World) (hW : Below wr.heap.size wr W) => HsC.out W (below_t HTW2.out hW))
                have HW1 := hid HBW.out
                have INL := hid (fun W (h : Below wr.heap.size wr W) => in_any _ R (s0, s1, s2) W ((HUW.out.ups HB1.out).ups h))
                have INA := hid (fun W (h : Below wr.heap.size wr W) => in_any _ a (s0, s1, s2) W (HAA.out W (HBW.out.trans (h.mono HBW.out.size))))
                have INB := hid (fun W (h : Below wr.heap.size wr W) => in_any vb b (s0, s1, s2) W (HBB.out W (HBW.out.trans (h.mono HBW.out.size))))
                have HW1 := hid (show Below w.heap.size w wr from HBW.out)
                have HT1 := hid (Below.refl wr.heap.size wr)
                have hmm := HMEM.out (s0, s1, s2)
                by_cases hya : (s0, s1, s2) ∈ a
                · rw [show decide ((s0, s1, s2) ∈ R) = true from decide_eq_true (hmm.2 (.inl hya))] at INL
                  rw [show decide ((s0, s1, s2) ∈ a) = true from decide_eq_true hya] at INA
                  clear hya hmm INB
                  go_upto_region 18 with fail
                  have HT1 := hid HT1.out.drew
                  refine wa_start (S := fun W => Below wr.heap.size wr W) (by kernel_rfl) HT1.out ?_
                  refine wa_tk 0 (some 88) (.slice pu n cu) rfl (by kernel_rfl) rfl rfl HT1.out (fun w h0 => by go_simp) ?_
                  try simp only [Act.put, List.setIfInBounds_toArray, List.set_cons_zero, List.set_cons_succ]
                  refine wa_tk 1 (some 89) (KV (s0, s1, s2)) rfl (by kernel_rfl) rfl rfl HT1.out (fun w h0 => by obtain ⟨k0, k1, k2⟩ := HSC2.out _ h0; go_simp) ?_
                  try simp only [Act.put, List.setIfInBounds_toArray, List.set_cons_zero, List.set_cons_succ]
                  refine wa_tk 3 (some 91) (.slice pa na ca) rfl (by kernel_rfl) rfl rfl HT1.out (fun w h0 => by go_simp) ?_
                  try simp only [Act.put, List.setIfInBounds_toArray, List.set_cons_zero, List.set_cons_succ]
                  refine wa_tk 4 (some 92) (KV (s0, s1, s2)) rfl (by kernel_rfl) rfl rfl HT1.out (fun w h0 => by obtain ⟨k0, k1, k2⟩ := HSC2.out _ h0; go_simp) ?_
                  try simp only [Act.put, List.setIfInBounds_toArray, List.set_cons_zero, List.set_cons_succ]
                  refine wa_branch [2] (by decide +kernel) rfl ?_
                  refine ar_op 2 rfl rfl (fun K hK => ?_) ar_nil
                  unfold Oper.wp
                  go_simp
                  go_at_call 25
                  refine (INL.out _ HT1.out).mono ?_
                  rintro e wz ⟨rfl, hbz⟩
                  have HT1 := hid (below_t HT1.out hbz)
                  clear hbz
                  go_simp
                  refine hK.out _ _ HT1.out ?_
                  clear hK K
                  try simp only [Act.put, List.setIfInBounds_toArray, List.set_cons_zero, List.set_cons_succ]
                  refine wa_branch [5] (by decide +kernel) rfl ?_
                  refine ar_op 5 rfl rfl (fun K hK => ?_) ar_nil
                  unfold Oper.wp
                  go_simp
                  go_at_call 25
                  refine (INA.out _ HT1.out).mono ?_
                  rintro e wz ⟨rfl, hbz⟩
                  have HT1 := hid (below_t HT1.out hbz)
                  clear hbz
                  go_simp
                  refine hK.out _ _ HT1.out ?_
                  clear hK K
                  try simp only [Act.put, List.setIfInBounds_toArray, List.set_cons_zero, List.set_cons_succ]
                  refine wa_tk 6 (some 94) (.bool true) rfl (by kernel_rfl) rfl rfl HT1.out (fun w h0 => by go_simp) ?_
                  try simp only [Act.put, List.setIfInBounds_toArray, List.set_cons_zero, List.set_cons_succ]
                  refine wa_skg 7 (some 95) rfl (by kernel_rfl) rfl rfl HT1.out ?_
                  try simp only [Act.put, List.setIfInBounds_toArray, List.set_cons_zero, List.set_cons_succ]
                  refine wa_skg 8 (some 96) rfl (by kernel_rfl) rfl rfl HT1.out ?_
                  try simp only [Act.put, List.setIfInBounds_toArray, List.set_cons_zero, List.set_cons_succ]
                  refine wa_skg 9 (some 97) rfl (by kernel_rfl) rfl rfl HT1.out ?_
                  try simp only [Act.put, List.setIfInBounds_toArray, List.set_cons_zero, List.set_cons_succ]
                  refine wa_tk 10 (some 98) (.bool true) rfl (by kernel_rfl) rfl rfl HT1.out (fun w h0 => by go_simp) ?_
                  try simp only [Act.put, List.setIfInBounds_toArray, List.set_cons_zero, List.set_cons_succ]
                  refine wa_tk 11 (some 99) (.bool true) rfl (by kernel_rfl) rfl rfl HT1.out (fun w h0 => by go_simp) ?_
                  try simp only [Act.put, List.setIfInBounds_toArray, List.set_cons_zero, List.set_cons_succ]
                  refine wa_branch [12] (by decide +kernel) rfl ?_
                  refine ar_op 12 rfl rfl (fun K hK => ?_) ar_nil
                  unfold Oper.wp
                  go_simp
                  refine hK.out _ _ HT1.out ?_
                  clear hK K
                  try simp only [Act.put, List.setIfInBounds_toArray, List.set_cons_zero, List.set_cons_succ]
                  refine wa_done (by decide +kernel) ?_
                  go_wp2
                  go_ret
                  exact ⟨rfl, below_t HW1.out HT1.out⟩
                · rw [show decide ((s0, s1, s2) ∈ a) = false from decide_eq_false hya] at INA
                  by_cases hyb : (s0, s1, s2) ∈ b
                  · rw [show decide ((s0, s1, s2) ∈ R) = true from decide_eq_true (hmm.2 (.inr hyb))] at INL
                    rw [show decide ((s0, s1, s2) ∈ b) = true from decide_eq_true hyb] at INB
                    clear hya hyb hmm
                    go_upto_region 18 with fail
                    have HT1 := hid HT1.out.drew
                    refine wa_start (S := fun W => Below wr.heap.size wr W) (by kernel_rfl) HT1.out ?_
                    refine wa_tk 0 (some 88) (.slice pu n cu) rfl (by kernel_rfl) rfl rfl HT1.out (fun w h0 => by go_simp) ?_
                    try simp only [Act.put, List.setIfInBounds_toArray, List.set_cons_zero, List.set_cons_succ]
                    refine wa_tk 1 (some 89) (KV (s0, s1, s2)) rfl (by kernel_rfl) rfl rfl HT1.out (fun w h0 => by obtain ⟨k0, k1, k2⟩ := HSC2.out _ h0; go_simp) ?_
                    try simp only [Act.put, List.setIfInBounds_toArray, List.set_cons_zero, List.set_cons_succ]
                    refine wa_tk 3 (some 91) (.slice pa na ca) rfl (by kernel_rfl) rfl rfl HT1.out (fun w h0 => by go_simp) ?_
                    try simp only [Act.put, List.setIfInBounds_toArray, List.set_cons_zero, List.set_cons_succ]
                    refine wa_tk 4 (some 92) (KV (s0, s1, s2)) rfl (by kernel_rfl) rfl rfl HT1.out (fun w h0 => by obtain ⟨k0, k1, k2⟩ := HSC2.out _ h0; go_simp) ?_
                    try simp only [Act.put, List.setIfInBounds_toArray, List.set_cons_zero, List.set_cons_succ]
                    refine wa_branch [2] (by decide +kernel) rfl ?_
                    refine ar_op 2 rfl rfl (fun K hK => ?_) ar_nil
                    unfold Oper.wp
                    go_simp
                    go_at_call 25
                    refine (INL.out _ HT1.out).mono ?_
                    rintro e wz ⟨rfl, hbz⟩
                    have HT1 := hid (below_t HT1.out hbz)
                    clear hbz
                    go_simp
                    refine hK.out _ _ HT1.out ?_
                    clear hK K
                    try simp only [Act.put, List.setIfInBounds_toArray, List.set_cons_zero, List.set_cons_succ]
                    refine wa_branch [5] (by decide +kernel) rfl ?_
                    refine ar_op 5 rfl rfl (fun K hK => ?_) ar_nil
                    unfold Oper.wp
                    go_simp
                    go_at_call 25
                    refine (INA.out _ HT1.out).mono ?_
                    rintro e wz ⟨rfl, hbz⟩
                    have HT1 := hid (below_t HT1.out hbz)
                    clear hbz
                    go_simp
                    refine hK.out _ _ HT1.out ?_
                    clear hK K
                    try simp only [Act.put, List.setIfInBounds_toArray, List.set_cons_zero, List.set_cons_succ]
                    refine wa_tk 6 (some 94) (.bool false) rfl (by kernel_rfl) rfl rfl HT1.out (fun w h0 => by go_simp) ?_
                    try simp only [Act.put, List.setIfInBounds_toArray, List.set_cons_zero, List.set_cons_succ]
                    refine wa_tkg 7 (some 95) (vb) rfl (by kernel_rfl) rfl rfl HT1.out (fun w h0 => by go_simp) ?_
                    try simp only [Act.put, List.setIfInBounds_toArray, List.set_cons_zero, List.set_cons_succ]
                    refine wa_tkg 8 (some 96) (KV (s0, s1, s2)) rfl (by kernel_rfl) rfl rfl HT1.out (fun w h0 => by obtain ⟨k0, k1, k2⟩ := HSC2.out _ h0; go_simp) ?_
                    try simp only [Act.put, List.setIfInBounds_toArray, List.set_cons_zero, List.set_cons_succ]
                    refine wa_branch [9] (by decide +kernel) rfl ?_
                    refine ar_opg 9 rfl rfl (fun K hK => ?_) ar_nil
                    unfold Oper.wp
                    go_simp
                    go_at_call 25
                    refine (INB.out _ HT1.out).mono ?_
                    rintro e wz ⟨rfl, hbz⟩
                    have HT1 := hid (below_t HT1.out hbz)
                    clear hbz
                    go_simp
                    refine hK.out _ _ HT1.out ?_
                    clear hK K
                    try simp only [Act.put, List.setIfInBounds_toArray, List.set_cons_zero, List.set_cons_succ]
                    refine wa_tk 10 (some 98) (.bool true) rfl (by kernel_rfl) rfl rfl HT1.out (fun w h0 => by go_simp) ?_
                    try simp only [Act.put, List.setIfInBounds_toArray, List.set_cons_zero, List.set_cons_succ]
                    refine wa_tk 11 (some 99) (.bool true) rfl (by kernel_rfl) rfl rfl HT1.out (fun w h0 => by go_simp) ?_
                    try simp only [Act.put, List.setIfInBounds_toArray, List.set_cons_zero, List.set_cons_succ]
                    refine wa_branch [12] (by decide +kernel) rfl ?_
                    refine ar_op 12 rfl rfl (fun K hK => ?_) ar_nil
                    unfold Oper.wp
                    go_simp
                    refine hK.out _ _ HT1.out ?_
                    clear hK K
                    try simp only [Act.put, List.setIfInBounds_toArray, List.set_cons_zero, List.set_cons_succ]
                    refine wa_done (by decide +kernel) ?_
                    go_wp2
                    go_ret
                    exact ⟨rfl, below_t HW1.out HT1.out⟩
                  · rw [show decide ((s0, s1, s2) ∈ R) = false from decide_eq_false (fun h => (hmm.1 h).elim hya hyb)] at INL
                    rw [show decide ((s0, s1, s2) ∈ b) = false from decide_eq_false hyb] at INB
                    clear hya hyb hmm
                    go_upto_region 18 with fail
                    have HT1 := hid HT1.out.drew
                    refine wa_start (S := fun W => Below wr.heap.size wr W) (by kernel_rfl) HT1.out ?_
                    refine wa_tk 0 (some 88) (.slice pu n cu) rfl (by kernel_rfl) rfl rfl HT1.out (fun w h0 => by go_simp) ?_
                    try simp only [Act.put, List.setIfInBounds_toArray, List.set_cons_zero, List.set_cons_succ]
                    refine wa_tk 1 (some 89) (KV (s0, s1, s2)) rfl (by kernel_rfl) rfl rfl HT1.out (fun w h0 => by obtain ⟨k0, k1, k2⟩ := HSC2.out _ h0; go_simp) ?_
                    try simp only [Act.put, List.setIfInBounds_toArray, List.set_cons_zero, List.set_cons_succ]
                    refine wa_tk 3 (some 91) (.slice pa na ca) rfl (by kernel_rfl) rfl rfl HT1.out (fun w h0 => by go_simp) ?_
                    try simp only [Act.put, List.setIfInBounds_toArray, List.set_cons_zero, List.set_cons_succ]
                    refine wa_tk 4 (some 92) (KV (s0, s1, s2)) rfl (by kernel_rfl) rfl rfl HT1.out (fun w h0 => by obtain ⟨k0, k1, k2⟩ := HSC2.out _ h0; go_simp) ?_
                    try simp only [Act.put, List.setIfInBounds_toArray, List.set_cons_zero, List.set_cons_succ]
                    refine wa_branch [2] (by decide +kernel) rfl ?_
                    refine ar_op 2 rfl rfl (fun K hK => ?_) ar_nil
                    unfold Oper.wp
                    go_simp
                    go_at_call 25
                    refine (INL.out _ HT1.out).mono ?_
                    rintro e wz ⟨rfl, hbz⟩
                    have HT1 := hid (below_t HT1.out hbz)
                    clear hbz
                    go_simp
                    refine hK.out _ _ HT1.out ?_
                    clear hK K
                    try simp only [Act.put, List.setIfInBounds_toArray, List.set_cons_zero, List.set_cons_succ]
                    refine wa_branch [5] (by decide +kernel) rfl ?_
                    refine ar_op 5 rfl rfl (fun K hK => ?_) ar_nil
                    unfold Oper.wp
                    go_simp
                    go_at_call 25
                    refine (INA.out _ HT1.out).mono ?_
                    rintro e wz ⟨rfl, hbz⟩
                    have HT1 := hid (below_t HT1.out hbz)
                    clear hbz
                    go_simp
                    refine hK.out _ _ HT1.out ?_
                    clear hK K
                    try simp only [Act.put, List.setIfInBounds_toArray, List.set_cons_zero, List.set_cons_succ]
                    refine wa_tk 6 (some 94) (.bool false) rfl (by kernel_rfl) rfl rfl HT1.out (fun w h0 => by go_simp) ?_
                    try simp only [Act.put, List.setIfInBounds_toArray, List.set_cons_zero, List.set_cons_succ]
                    refine wa_tkg 7 (some 95) (vb) rfl (by kernel_rfl) rfl rfl HT1.out (fun w h0 => by go_simp) ?_
                    try simp only [Act.put, List.setIfInBounds_toArray, List.set_cons_zero, List.set_cons_succ]
                    refine wa_tkg 8 (some 96) (KV (s0, s1, s2)) rfl (by kernel_rfl) rfl rfl HT1.out (fun w h0 => by obtain ⟨k0, k1, k2⟩ := HSC2.out _ h0; go_simp) ?_
                    try simp only [Act.put, List.setIfInBounds_toArray, List.set_cons_zero, List.set_cons_succ]
                    refine wa_branch [9] (by decide +kernel) rfl ?_
                    refine ar_opg 9 rfl rfl (fun K hK => ?_) ar_nil
                    unfold Oper.wp
                    go_simp
                    go_at_call 25
                    refine (INB.out _ HT1.out).mono ?_
                    rintro e wz ⟨rfl, hbz⟩
                    have HT1 := hid (below_t HT1.out hbz)
                    clear hbz
                    go_simp
                    refine hK.out _ _ HT1.out ?_
                    clear hK K
                    try simp only [Act.put, List.setIfInBounds_toArray, List.set_cons_zero, List.set_cons_succ]
                    refine wa_tk 10 (some 98) (.bool false) rfl (by kernel_rfl) rfl rfl HT1.out (fun w h0 => by go_simp) ?_
                    try simp only [Act.put, List.setIfInBounds_toArray, List.set_cons_zero, List.set_cons_succ]
                    refine wa_tk 11 (some 99) (.bool true) rfl (by kernel_rfl) rfl rfl HT1.out (fun w h0 => by go_simp) ?_
                    try simp only [Act.put, List.setIfInBounds_toArray, List.set_cons_zero, List.set_cons_succ]
                    refine wa_branch [12] (by decide +kernel) rfl ?_
                    refine ar_op 12 rfl rfl (fun K hK => ?_) ar_nil
                    unfold Oper.wp
                    go_simp
                    refine hK.out _ _ HT1.out ?_
                    clear hK K
                    try simp only [Act.put, List.setIfInBounds_toArray, List.set_cons_zero, List.set_cons_succ]
                    refine wa_done (by decide +kernel) ?_
                    go_wp2
                    go_ret
                    exact ⟨rfl, below_t HW1.out HT1.out⟩
      · rw [h1]
        rw [HME1.out h2] at hu
        obtain ⟨pu, cu, hf⟩ := hu.form
        have hf2 : u = .slice pu 0 cu := hf
        subst hf2
        clear hu h1 h2 HE HME0 HME1 HLST MM FA FB hf
        go_wp2
        go_ret
        exact ⟨rfl, below_t HZ.out HT.out⟩
    · rw [show decide (b.length ≤ 40) = false from decide_eq_false hlb] at FB
      clear hla hlb ha hb hna
      go_enter Try.func8, Try.ntmps8
      go_upto_region 1 with fail
      obtain ⟨Z, hZ⟩ : ∃ Z, Z = (w.alloc (.cells #[.int .i64 s0, .int .i64 s1, .int .i64 s2] 23)) := ⟨_, rfl⟩
      have HZ := hid (show Below w.heap.size w Z from by rw [hZ]; exact (Below.refl _ w).alloc (Nat.le_refl _) _)
      have bs : Blk Z (w.heap.size) 23 (kc (s0, s1, s2)) := by
        have h := Blk.new w 23 (kc (s0, s1, s2))
        rw [hZ]; exact h
      have HsC := hid (fun (W : World) (hW : Below Z.heap.size Z W) => show At3 W (w.heap.size) 0 (s0, s1, s2) from ⟨(bs.below hW bs.lt).cell 0 _ rfl, (bs.below hW bs.lt).cell 1 _ rfl, (bs.below hW bs.lt).cell 2 _ rfl⟩)
      have HT := hid (Below.refl Z.heap.size Z)
      rw [← hZ]
      clear hZ bs
      go_wp2_with fail
      refine (SA.out _).mono ?_
      rintro e wn ⟨rfl, hb⟩
      have HT := hid (below_t HT.out hb)
      clear hb
      go_wp2_with fail
      refine (FA.out _ (HZ.out.trans (HT.out.mono HZ.out.size))).mono ?_
      rintro e wn ⟨rfl, hb⟩
      have HT := hid (below_t HT.out hb)
      clear hb
      go_wp2_with fail
      refine (FB.out _ (HZ.out.trans (HT.out.mono HZ.out.size))).mono ?_
      rintro e wn ⟨rfl, hb⟩
      have HT := hid (below_t HT.out hb)
      clear hb
      go_wp2
      all_goals (go_ret; exact ⟨rfl, below_t HZ.out HT.out⟩)
  · rw [show decide (a.length ≤ 40) = false from decide_eq_false hla] at FA
    clear hla ha hb hna
    go_enter Try.func8, Try.ntmps8
    go_upto_region 1 with fail
    obtain ⟨Z, hZ⟩ : ∃ Z, Z = (w.alloc (.cells #[.int .i64 s0, .int .i64 s1, .int .i64 s2] 23)) := ⟨_, rfl⟩
    have HZ := hid (show Below w.heap.size w Z from by rw [hZ]; exact (Below.refl _ w).alloc (Nat.le_refl _) _)
    have bs : Blk Z (w.heap.size) 23 (kc (s0, s1, s2)) := by
      have h := Blk.new w 23 (kc (s0, s1, s2))
      rw [hZ]; exact h
    have HsC := hid (fun (W : World) (hW : Below Z.heap.size Z W) => show At3 W (w.heap.size) 0 (s0, s1, s2) from ⟨(bs.below hW bs.lt).cell 0 _ rfl, (bs.below hW bs.lt).cell 1 _ rfl, (bs.below hW bs.lt).cell 2 _ rfl⟩)
    have HT := hid (Below.refl Z.heap.size Z)
    rw [← hZ]
    clear hZ bs
    go_wp2_with fail
    refine (SA.out _).mono ?_
    rintro e wn ⟨rfl, hb⟩
    have HT := hid (below_t HT.out hb)
    clear hb
    go_wp2_with fail
    refine (FA.out _ (HZ.out.trans (HT.out.mono HZ.out.size))).mono ?_
    rintro e wn ⟨rfl, hb⟩
    have HT := hid (below_t HT.out hb)
    clear hb
    go_wp2
    all_goals (go_ret; exact ⟨rfl, below_t HZ.out HT.out⟩)
end Go.Proofs.Ytlkcnnamnjnmbaa

/- Contracts: the reference's Same and Equal. -/
import Derived.Test.YtgckigolbajhoaaDoorU
namespace Go.Proofs.YtgckigolbajhoaaDoor
open Go.RowKit Go
set_option linter.unusedVariables false
set_option linter.unusedSimpArgs false
theorem below_dN {w : World} (q : Nat) : Below w.heap.size w (w.drewN q) := ⟨rfl, rfl, rfl, Nat.le_refl _, fun _ _ => rfl⟩
set_option maxRecDepth 100000 in
set_option maxHeartbeats 8000000 in
theorem rsame_any (v1 v2 : Value) (l m : List Tk) (w : World) (h1 : KS w v1 l) (h2 : KS w v2 m) :
    Calls Tryd.prog 18 #[v1, v2] w fun e w' => e = .returned (.bool (sme l m)) ∧ Below w.heap.size w w' := by
  obtain ⟨p1, c1, rfl⟩ := h1.form
  obtain ⟨p2, c2, rfl⟩ := h2.form
  have hr1 : KR p1 w.heap.size l w := h1.gr 4 kc_len (by omega)
  have hr2 : KR p2 w.heap.size m w := h2.gr 4 kc_len (by omega)
  have hm1 := h1.len
  have HR1 := hid hr1; have HR2 := hid hr2
  obtain ⟨n1, hn1⟩ : ∃ n, n = l.length := ⟨_, rfl⟩
  obtain ⟨n2, hn2⟩ : ∃ n, n = m.length := ⟨_, rfl⟩
  rw [← hn1] at hm1 ⊢
  rw [← hn2]
  have HN1 := hid hn1; have HN2 := hid hn2
  have HM := hid (show (n1 : Int) ≤ 9223372036854775807 by unfold maxLen at hm1; omega)
  clear h1 h2 hr1 hr2 hn1 hn2 hm1
  by_cases hne : n1 = n2
  · subst hne
    go_enter Tryd.func18, Tryd.ntmps18
    go_wp2
    go_loopw [5] (fun i wr => ∃ k : Nat, k ≤ n1 ∧ i = .int .i64 k ∧ Below w.heap.size w wr ∧ Hid ((l.take k).map L9.core = (m.take k).map L9.core)) (fun i _ => n1 - (intOf i).toNat)
    case atStart => exact ⟨0, by omega, rfl, Below.refl _ _, hid rfl⟩
    case round =>
      obtain ⟨k, hk, rfl, hb, hal⟩ := hrel
      have HBW := hid hb
      have hmx := HM.out
      by_cases hlt : k < n1
      · obtain ⟨x, hx⟩ := get_lt (l := l) (i := k) (by rw [← HN1.out]; exact hlt)
        obtain ⟨y, hy⟩ := get_lt (l := m) (i := k) (by rw [← HN2.out]; exact hlt)
        obtain ⟨b, o, hp, hbl, x0, x1, x2, x3⟩ := KR.at4 (HR1.out.up hb) hx
        obtain ⟨b', o', hp', hbl', y0, y1, y2, y3⟩ := KR.at4 (HR2.out.up hb) hy
        subst hp; subst hp'
        have t1 := take_snoc hx; have t2 := take_snoc hy
        have HX := hid hx; have HY := hid hy; have HT1 := hid t1; have HT2 := hid t2; have HAL := hid hal.out
        obtain ⟨xk, xt, xn, xa⟩ := x
        obtain ⟨yk, yt, yn, ya⟩ := y
        simp only at x0 x1 x2 x3 y0 y1 y2 y3
        have HSE := hid (fun (W : World) (hW : W = wr) => show (W.cell? ⟨b, o + k * 4, none⟩ = some (.int .i64 xk)) from by rw [hW]; exact x0)
        clear hx hy hb hbl hbl' t1 t2 hal HSE
        by_cases hk1 : xk = yk
        · subst hk1
          by_cases ht1 : xt = yt
          · subst ht1
            by_cases hn1 : xn = yn
            · subst hn1
              have HE := hid (show (l.take (k + 1)).map L9.core = (m.take (k + 1)).map L9.core by rw [HT1.out, HT2.out, List.map_append, List.map_append, HAL.out]; rfl)
              go_wp2_with fail
              go_quiet (fail)
              have HD := hid (HBW.out.trans ((below_dN nq).mono HBW.out.size))
              clear x0 x1 x2 x3 y0 y1 y2 y3
              go_wp2
              go_roundw
              case rel => exact ⟨k + 1, by omega, by go_num, HD.out, HE⟩
              case measure => simp [intOf]; omega
            · have HE := hid (sme_bad HX.out HY.out (by simp [L9.core, hn1]))
              have q1 : (xn == yn) = false := by simpa using hn1
              have q2 : (xn != yn) = true := by simpa using hn1
              clear hn1
              go_wp2_with fail
              go_quiet (fail)
              have HD := hid (HBW.out.trans ((below_dN nq).mono HBW.out.size))
              clear x0 x1 x2 x3 y0 y1 y2 y3
              go_wp2
              go_ret
              exact ⟨by rw [HE.out]; rfl, HD.out⟩
          · have HE := hid (sme_bad HX.out HY.out (by simp [L9.core, ht1]))
            have q3 : decide (xt = yt) = false := by simpa using ht1
            go_wp2_with fail
            go_quiet (fail)
            have HD := hid (HBW.out.trans ((below_dN nq).mono HBW.out.size))
            clear x0 x1 x2 x3 y0 y1 y2 y3
            go_wp2
            go_ret
            exact ⟨by rw [HE.out]; rfl, HD.out⟩
        · have HE := hid (sme_bad HX.out HY.out (by simp [L9.core, hk1]))
          have HQ2 := hid (show (xk != yk) = true by simpa using hk1)
          have HLT := hid (show (0 : Int) ≤ k ∧ (k : Int) < n1 from ⟨by omega, by omega⟩)
          have HX0 := hid x0; have HY0 := hid y0
          clear hk1 x0 x1 x2 x3 y0 y1 y2 y3
          go_wp2_with fail
          have HS0 := hid (rfl : wr.drew = wr.drew)
          refine wa_start (S := fun W => W = wr.drew) (by kernel_rfl) HS0.out ?_
          refine wa_tk 0 (some 17) (.slice (some ⟨b, o, none⟩) n1 c1) rfl (by kernel_rfl) rfl rfl HS0.out (fun w h0 => by go_simp) ?_
          try simp only [Act.put, List.setIfInBounds_toArray, List.set_cons_zero, List.set_cons_succ]
          refine wa_tk 1 (some 18) (.int .i64 k) rfl (by kernel_rfl) rfl rfl HS0.out (fun w h0 => by go_simp) ?_
          try simp only [Act.put, List.setIfInBounds_toArray, List.set_cons_zero, List.set_cons_succ]
          refine wa_tk 2 (some 19) (.pointer (some ⟨b, o + k * 4, none⟩)) rfl (by kernel_rfl) rfl rfl HS0.out (fun w h0 => by have g1 := HLT.out.1; have g2 := HLT.out.2; go_simp) ?_
          try simp only [Act.put, List.setIfInBounds_toArray, List.set_cons_zero, List.set_cons_succ]
          refine wa_tk 3 (some 20) (.pointer (some ⟨b, o + k * 4, none⟩)) rfl (by kernel_rfl) rfl rfl HS0.out (fun w h0 => by go_simp) ?_
          try simp only [Act.put, List.setIfInBounds_toArray, List.set_cons_zero, List.set_cons_succ]
          refine wa_tk 4 (some 21) (.int .i64 xk) rfl (by kernel_rfl) rfl rfl HS0.out (fun w h0 => by have e0 := HX0.out; subst h0; go_simp) ?_
          try simp only [Act.put, List.setIfInBounds_toArray, List.set_cons_zero, List.set_cons_succ]
          refine wa_tk 5 (some 22) (.slice (some ⟨b', o', none⟩) n1 c2) rfl (by kernel_rfl) rfl rfl HS0.out (fun w h0 => by go_simp) ?_
          try simp only [Act.put, List.setIfInBounds_toArray, List.set_cons_zero, List.set_cons_succ]
          refine wa_tk 6 (some 23) (.int .i64 k) rfl (by kernel_rfl) rfl rfl HS0.out (fun w h0 => by go_simp) ?_
          try simp only [Act.put, List.setIfInBounds_toArray, List.set_cons_zero, List.set_cons_succ]
          refine wa_tk 7 (some 24) (.pointer (some ⟨b', o' + k * 4, none⟩)) rfl (by kernel_rfl) rfl rfl HS0.out (fun w h0 => by have g1 := HLT.out.1; have g2 := HLT.out.2; go_simp) ?_
          try simp only [Act.put, List.setIfInBounds_toArray, List.set_cons_zero, List.set_cons_succ]
          refine wa_tk 8 (some 25) (.pointer (some ⟨b', o' + k * 4, none⟩)) rfl (by kernel_rfl) rfl rfl HS0.out (fun w h0 => by go_simp) ?_
          try simp only [Act.put, List.setIfInBounds_toArray, List.set_cons_zero, List.set_cons_succ]
          refine wa_tk 9 (some 26) (.int .i64 yk) rfl (by kernel_rfl) rfl rfl HS0.out (fun w h0 => by have e0 := HY0.out; subst h0; go_simp) ?_
          try simp only [Act.put, List.setIfInBounds_toArray, List.set_cons_zero, List.set_cons_succ]
          refine wa_tk 10 (some 27) (.bool true) rfl (by kernel_rfl) rfl rfl HS0.out (fun w h0 => by have q := HQ2.out; go_simp) ?_
          try simp only [Act.put, List.setIfInBounds_toArray, List.set_cons_zero, List.set_cons_succ]
          refine wa_tk 11 (some 28) (.bool true) rfl (by kernel_rfl) rfl rfl HS0.out (fun w h0 => by go_simp) ?_
          try simp only [Act.put, List.setIfInBounds_toArray, List.set_cons_zero, List.set_cons_succ]
          refine wa_skg 12 (some 29) rfl (by kernel_rfl) rfl rfl HS0.out ?_
          try simp only [Act.put, List.setIfInBounds_toArray, List.set_cons_zero, List.set_cons_succ]
          refine wa_skg 13 (some 30) rfl (by kernel_rfl) rfl rfl HS0.out ?_
          try simp only [Act.put, List.setIfInBounds_toArray, List.set_cons_zero, List.set_cons_succ]
          refine wa_skg 14 (some 31) rfl (by kernel_rfl) rfl rfl HS0.out ?_
          try simp only [Act.put, List.setIfInBounds_toArray, List.set_cons_zero, List.set_cons_succ]
          refine wa_skg 15 (some 32) rfl (by kernel_rfl) rfl rfl HS0.out ?_
          try simp only [Act.put, List.setIfInBounds_toArray, List.set_cons_zero, List.set_cons_succ]
          refine wa_skg 16 (some 33) rfl (by kernel_rfl) rfl rfl HS0.out ?_
          try simp only [Act.put, List.setIfInBounds_toArray, List.set_cons_zero, List.set_cons_succ]
          refine wa_skg 17 (some 34) rfl (by kernel_rfl) rfl rfl HS0.out ?_
          try simp only [Act.put, List.setIfInBounds_toArray, List.set_cons_zero, List.set_cons_succ]
          refine wa_skg 18 (some 35) rfl (by kernel_rfl) rfl rfl HS0.out ?_
          try simp only [Act.put, List.setIfInBounds_toArray, List.set_cons_zero, List.set_cons_succ]
          refine wa_skg 19 (some 36) rfl (by kernel_rfl) rfl rfl HS0.out ?_
          try simp only [Act.put, List.setIfInBounds_toArray, List.set_cons_zero, List.set_cons_succ]
          refine wa_skg 20 (some 37) rfl (by kernel_rfl) rfl rfl HS0.out ?_
          try simp only [Act.put, List.setIfInBounds_toArray, List.set_cons_zero, List.set_cons_succ]
          refine wa_skg 21 (some 38) rfl (by kernel_rfl) rfl rfl HS0.out ?_
          try simp only [Act.put, List.setIfInBounds_toArray, List.set_cons_zero, List.set_cons_succ]
          refine wa_skg 22 (some 39) rfl (by kernel_rfl) rfl rfl HS0.out ?_
          try simp only [Act.put, List.setIfInBounds_toArray, List.set_cons_zero, List.set_cons_succ]
          refine wa_tk 23 (some 40) (.bool true) rfl (by kernel_rfl) rfl rfl HS0.out (fun w h0 => by go_simp) ?_
          try simp only [Act.put, List.setIfInBounds_toArray, List.set_cons_zero, List.set_cons_succ]
          refine wa_tk 24 (some 41) (.bool true) rfl (by kernel_rfl) rfl rfl HS0.out (fun w h0 => by go_simp) ?_
          try simp only [Act.put, List.setIfInBounds_toArray, List.set_cons_zero, List.set_cons_succ]
          refine wa_skg 25 (some 42) rfl (by kernel_rfl) rfl rfl HS0.out ?_
          try simp only [Act.put, List.setIfInBounds_toArray, List.set_cons_zero, List.set_cons_succ]
          refine wa_skg 26 (some 43) rfl (by kernel_rfl) rfl rfl HS0.out ?_
          try simp only [Act.put, List.setIfInBounds_toArray, List.set_cons_zero, List.set_cons_succ]
          refine wa_skg 27 (some 44) rfl (by kernel_rfl) rfl rfl HS0.out ?_
          try simp only [Act.put, List.setIfInBounds_toArray, List.set_cons_zero, List.set_cons_succ]
          refine wa_skg 28 (some 45) rfl (by kernel_rfl) rfl rfl HS0.out ?_
          try simp only [Act.put, List.setIfInBounds_toArray, List.set_cons_zero, List.set_cons_succ]
          refine wa_skg 29 (some 46) rfl (by kernel_rfl) rfl rfl HS0.out ?_
          try simp only [Act.put, List.setIfInBounds_toArray, List.set_cons_zero, List.set_cons_succ]
          refine wa_skg 30 (some 47) rfl (by kernel_rfl) rfl rfl HS0.out ?_
          try simp only [Act.put, List.setIfInBounds_toArray, List.set_cons_zero, List.set_cons_succ]
          refine wa_skg 31 (some 48) rfl (by kernel_rfl) rfl rfl HS0.out ?_
          try simp only [Act.put, List.setIfInBounds_toArray, List.set_cons_zero, List.set_cons_succ]
          refine wa_skg 32 (some 49) rfl (by kernel_rfl) rfl rfl HS0.out ?_
          try simp only [Act.put, List.setIfInBounds_toArray, List.set_cons_zero, List.set_cons_succ]
          refine wa_skg 33 (some 50) rfl (by kernel_rfl) rfl rfl HS0.out ?_
          try simp only [Act.put, List.setIfInBounds_toArray, List.set_cons_zero, List.set_cons_succ]
          refine wa_skg 34 (some 51) rfl (by kernel_rfl) rfl rfl HS0.out ?_
          try simp only [Act.put, List.setIfInBounds_toArray, List.set_cons_zero, List.set_cons_succ]
          refine wa_skg 35 (some 52) rfl (by kernel_rfl) rfl rfl HS0.out ?_
          try simp only [Act.put, List.setIfInBounds_toArray, List.set_cons_zero, List.set_cons_succ]
          refine wa_tk 36 (some 53) (.bool true) rfl (by kernel_rfl) rfl rfl HS0.out (fun w h0 => by go_simp) ?_
          try simp only [Act.put, List.setIfInBounds_toArray, List.set_cons_zero, List.set_cons_succ]
          refine wa_done (by decide +kernel) ?_
          clear HS0
          go_wp2
          go_ret
          exact ⟨by rw [HE.out]; rfl, HBW.out.drew⟩
      · obtain rfl : k = n1 := by omega
        have HE := hid (show sme l m = true from decide_eq_true (by have := hal.out; rw [HN1.out, List.take_length] at this; rwa [← HN1.out, HN2.out, List.take_length] at this))
        clear hb hal
        go_wp2
        go_ret
        exact ⟨by rw [HE.out]; rfl, HBW.out⟩
  · have HE := hid (sme_len (l := l) (m := m) (by rw [← HN1.out, ← HN2.out]; exact hne))
    have hb1 : ((n1 : Int) == n2) = false := by simp; omega
    have hb2 : ((n1 : Int) != n2) = true := by simp; omega
    clear hne
    go_enter Tryd.func18, Tryd.ntmps18
    go_wp2
    go_ret
    exact ⟨by rw [HE.out]; rfl, Below.refl _ _⟩
end Go.Proofs.YtgckigolbajhoaaDoor

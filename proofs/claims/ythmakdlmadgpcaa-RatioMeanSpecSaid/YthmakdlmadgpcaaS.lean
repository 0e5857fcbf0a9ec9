/- Mean of the reference. -/
import Derived.Test.YthmakdlmadgpcaaQ
namespace Go.Proofs.Ythmakdlmadgpcaa
open Go.RowKit Go
set_option linter.unusedVariables false
set_option linter.unusedSimpArgs false
theorem ps_range (xs ys : List Int) (i : Nat) : ps xs ys (List.range (i + 1)) = ps xs ys (List.range i) + xs.getD i 0 * ys.getD i 0 := by rw [List.range_succ, ps_snoc]
theorem ws_range (ys : List Int) (i : Nat) : ws ys (List.range (i + 1)) = ws ys (List.range i) + ys.getD i 0 := by rw [List.range_succ, ws_snoc]
theorem wchk_bad {xs ys : List Int} (j : Nat) (hj : j < xs.length) (hb : ¬ gd xs ys j) : wchk xs ys = 1 := by
  unfold wchk; rw [if_neg]; rintro ⟨_, h⟩; exact hb (h j hj)
set_option maxRecDepth 100000 in
set_option maxHeartbeats 4000000 in
theorem rMean_eq (p1 p2 : Option Addr) (c1 c2 len : Nat) (xs ys : List Int) (hx : Hid (∀ x ∈ xs, I64 x)) (hlx : Hid (len = xs.length)) (hly : Hid (len = ys.length)) (hm : len ≤ 9223372036854775807) (w : World) (hr1 : Hid (RD .i64 p1 w.heap.size xs w)) (hr2 : Hid (RD .i64 p2 w.heap.size ys w)) :
    Calls Try.prog 23 #[.slice p1 len c1, .slice p2 len c2] w fun e w' => e = .returned (RR (mn xs ys)) ∧ Below w.heap.size w w' := by
  have A0 : Below w.heap.size w (w.alloc (.cells #[.int .i64 0, .int .i64 0] 23)) := (Below.refl _ _).alloc (Nat.le_refl _) _
  have R1 := hid (hr1.out.up A0); have R2 := hid (hr2.out.up A0)
  have HF := hid (fr_new w 0 0)
  have T0 := hid A0
  clear A0 hr1 hr2
  go_enter Try.func23, Try.ntmps23
  go_wp2_with fail
  obtain ⟨W0, hW0⟩ : ∃ W0, W0 = w.alloc (.cells #[.int .i64 0, .int .i64 0] 23) := ⟨_, rfl⟩
  rw [← hW0] at T0 R1 R2 HF ⊢
  clear hW0
  go_loopw [8] (fun s wr => ∃ i : Nat, i ≤ len ∧ s = .int .i64 (i : Int) ∧ Hid (∀ j, j < i → gd xs ys j) ∧ ∃ n, wr = W0.drewN n) (fun s _ => len - (RowKit.intOf s).toNat)
  case atStart => exact ⟨0, by omega, rfl, hid (by omega), 0, rfl⟩
  case round =>
    obtain ⟨i, hi, rfl, hg, n, rfl⟩ := hrel
    by_cases hlt : i < len
    · obtain ⟨a1, rfl, hb1, hx1⟩ := R1.out i (by rw [← hlx.out]; exact hlt)
      obtain ⟨a2, rfl, hb2, hy1⟩ := R2.out i (by rw [← hly.out]; exact hlt)
      obtain ⟨X, hX⟩ : ∃ X, X = xs.getD i 0 := ⟨_, rfl⟩
      obtain ⟨Y, hY⟩ : ∃ Y, Y = ys.getD i 0 := ⟨_, rfl⟩
      rw [← hX] at hx1
      rw [← hY] at hy1
      have HXV := hid hX; have HYV := hid hY
      obtain ⟨f0, f1, z0, z1⟩ := HF.out
      have HC0 := hid f0; have HC1 := hid f1
      clear hX hY
      rcases (by omega : X < -1048576 ∨ (-1048576 ≤ X ∧ 1048576 < X) ∨ (-1048576 ≤ X ∧ X ≤ 1048576 ∧ Y < 0) ∨ (-1048576 ≤ X ∧ X ≤ 1048576 ∧ 0 ≤ Y ∧ 1048576 < Y) ∨ (-1048576 ≤ X ∧ X ≤ 1048576 ∧ 0 ≤ Y ∧ Y ≤ 1048576)) with h1 | ⟨h1, h2⟩ | ⟨h1, h2, h3⟩ | ⟨h1, h2, h3, h4⟩ | ⟨h1, h2, h3, h4⟩
      · have hv : mn xs ys = (0, 0, 1) := by
          have hb : ¬ gd xs ys i := by show ¬ good _ _; rw [← HXV.out, ← HYV.out]; unfold good; omega
          have hc := wchk_bad i (by rw [← hlx.out]; exact hlt) hb
          unfold mn; rw [hc]; rfl
        have HV := hid hv
        clear hv
        have d1 : decide (X < -1048576) = true := by simp; omega
        clear h1
        go_wp2
        exact fin3 rfl HV.out (below_drewN T0.out n) (Nat.le_refl _) (by simpa using HC0.out) (by simpa using HC1.out)
      · have hv : mn xs ys = (0, 0, 1) := by
          have hb : ¬ gd xs ys i := by show ¬ good _ _; rw [← HXV.out, ← HYV.out]; unfold good; omega
          have hc := wchk_bad i (by rw [← hlx.out]; exact hlt) hb
          unfold mn; rw [hc]; rfl
        have HV := hid hv
        clear hv
        have d1 : decide (X < -1048576) = false := by simp; omega
        have d2 : decide (1048576 < X) = true := by simp; omega
        clear h1 h2
        go_wp2
        exact fin3 rfl HV.out (below_drewN T0.out n) (Nat.le_refl _) (by simpa using HC0.out) (by simpa using HC1.out)
      · have hv : mn xs ys = (0, 0, 1) := by
          have hb : ¬ gd xs ys i := by show ¬ good _ _; rw [← HXV.out, ← HYV.out]; unfold good; omega
          have hc := wchk_bad i (by rw [← hlx.out]; exact hlt) hb
          unfold mn; rw [hc]; rfl
        have HV := hid hv
        clear hv
        have d1 : decide (X < -1048576) = false := by simp; omega
        have d2 : decide (1048576 < X) = false := by simp; omega
        have d3 : decide (Y < 0) = true := by simp; omega
        clear h1 h2 h3
        go_wp2
        exact fin3 rfl HV.out (below_drewN T0.out n) (Nat.le_refl _) (by simpa using HC0.out) (by simpa using HC1.out)
      · have hv : mn xs ys = (0, 0, 1) := by
          have hb : ¬ gd xs ys i := by show ¬ good _ _; rw [← HXV.out, ← HYV.out]; unfold good; omega
          have hc := wchk_bad i (by rw [← hlx.out]; exact hlt) hb
          unfold mn; rw [hc]; rfl
        have HV := hid hv
        clear hv
        have d1 : decide (X < -1048576) = false := by simp; omega
        have d2 : decide (1048576 < X) = false := by simp; omega
        have d3 : decide (Y < 0) = false := by simp; omega
        have d4 : decide (1048576 < Y) = true := by simp; omega
        clear h1 h2 h3 h4
        go_wp2
        exact fin3 rfl HV.out (below_drewN T0.out n) (Nat.le_refl _) (by simpa using HC0.out) (by simpa using HC1.out)
      · have hgi : gd xs ys i := by show good _ _; rw [← HXV.out, ← HYV.out]; unfold good; omega
        have d1 : decide (X < -1048576) = false := by simp; omega
        have d2 : decide (1048576 < X) = false := by simp; omega
        have d3 : decide (Y < 0) = false := by simp; omega
        have d4 : decide (1048576 < Y) = false := by simp; omega
        have hg2 : ∀ j, j < i + 1 → gd xs ys j := fun j hj => by
          rcases (by omega : j < i ∨ j = i) with h | rfl
          · exact hg.out j h
          · exact hgi
        have HG2 := hid hg2
        clear h1 h2 h3 h4 hgi hg2
        go_wp2
        go_roundw
        case rel => exact ⟨i + 1, by omega, rfl, HG2, _, rfl⟩
        case measure => simp [RowKit.intOf]; omega
    · obtain rfl : i = len := by omega
      obtain ⟨f0, f1, z0, z1⟩ := HF.out
      have HC0 := hid f0; have HC1 := hid f1
      have hgg : goods xs ys := fun j hj => hg.out j (by rw [hlx.out]; exact hj)
      have hxy : xs.length = ys.length := by rw [← hlx.out, hly.out]
      by_cases hl2 : 1048576 < i
      · have hv : mn xs ys = (0, 0, 2) := by
          have hc : wchk xs ys = 2 := by unfold wchk; rw [if_pos ⟨hxy, hgg⟩, if_pos (by rw [← hlx.out]; exact hl2)]
          unfold mn; rw [hc]; rfl
        have HV := hid hv
        clear hv hgg hxy
        go_wp2
        exact fin3 rfl HV.out (below_drewN T0.out n) (Nat.le_refl _) (by simpa using HC0.out) (by simpa using HC1.out)
      · have hc : wchk xs ys = 0 := by unfold wchk; rw [if_pos ⟨hxy, hgg⟩, if_neg (by rw [← hlx.out]; exact hl2)]
        have hmn : mn xs ys = if ws ys (List.range i) = 0 then (0, 1, 0) else nw (ps xs ys (List.range i)) (ws ys (List.range i)) := by
          unfold mn; rw [if_pos hc, ← hlx.out]
        have HMN := hid hmn
        have HLM := hid (lim_of hxy hgg)
        obtain ⟨len, hle⟩ : ∃ len, len = i := ⟨_, rfl⟩
        rw [← hle] at HMN hlx hly hm hl2 ⊢
        clear hmn hc hgg hxy hlt hi hg hle i
        go_wp2_with fail
        go_loopw [6, 7, 9] (fun s t k wr => ∃ i : Nat, i ≤ len ∧ s = .int .i64 (ps xs ys (List.range i)) ∧ t = .int .i64 (ws ys (List.range i)) ∧ k = .int .i64 (i : Int) ∧ ∃ n, wr = W0.drewN n) (fun _ _ k _ => len - (RowKit.intOf k).toNat)
        case atStart => exact ⟨0, by omega, rfl, rfl, rfl, n, rfl⟩
        case round =>
          obtain ⟨i, hi, rfl, rfl, rfl, m, rfl⟩ := hrel
          by_cases hlt : i < len
          · obtain ⟨a1, rfl, hb1, hx1⟩ := R1.out i (by rw [← hlx.out]; exact hlt)
            obtain ⟨a2, rfl, hb2, hy1⟩ := R2.out i (by rw [← hly.out]; exact hlt)
            have hlm := HLM.out i
            have hq1 := ps_bd HLM.out (List.range i)
            have hq2 := ws_bd HLM.out (List.range i)
            rw [List.length_range] at hq1 hq2
            have s1 := ps_range xs ys i
            have s2 := ws_range ys i
            obtain ⟨X, hX⟩ : ∃ X, X = xs.getD i 0 := ⟨_, rfl⟩
            obtain ⟨Y, hY⟩ : ∃ Y, Y = ys.getD i 0 := ⟨_, rfl⟩
            rw [← hX] at hx1 hlm s1
            rw [← hY] at hy1 hlm s1 s2
            obtain ⟨Z, hZ⟩ : ∃ Z, X * Y = Z := ⟨_, rfl⟩
            have hz := mul_bd hlm.1 hlm.2.1 (show -1048576 ≤ Y by omega) hlm.2.2.2
            rw [hZ] at hz s1
            obtain ⟨A, hA⟩ : ∃ A, A = ps xs ys (List.range i) := ⟨_, rfl⟩
            obtain ⟨T, hT⟩ : ∃ T, T = ws ys (List.range i) := ⟨_, rfl⟩
            rw [← hA] at hq1 s1 ⊢
            rw [← hT] at hq2 s2 ⊢
            have q1 : -2305843009213693952 ≤ A := by omega
            have q2 : A ≤ 2305843009213693952 := by omega
            have t1 : 0 ≤ T := by omega
            have t2 : T ≤ 2305843009213693952 := by omega
            obtain ⟨z1, z2⟩ := hz
            obtain ⟨_, _, y1, y2⟩ := hlm
            have w1 : IntKind.i64.wrap Z = Z := wrap_i64 Z (by omega) (by omega)
            have w2 : IntKind.i64.wrap (A + Z) = A + Z := wrap_i64 _ (by omega) (by omega)
            have S1 := hid s1; have S2 := hid s2
            clear hq1 hq2 s1 s2 hX hY hA hT
            go_wp2_with fail
            go_quiet (fail)
            go_wp2
            go_roundw
            case rel => exact ⟨i + 1, by omega, by rw [S1.out], by rw [S2.out], rfl, _, by first | rfl | (simp; rfl)⟩
            case measure => simp [RowKit.intOf]; omega
          · obtain rfl : i = len := by omega
            have hq1 := ps_bd HLM.out (List.range i)
            have hq2 := ws_bd HLM.out (List.range i)
            rw [List.length_range] at hq1 hq2
            have hmn := HMN.out
            obtain ⟨A, hA⟩ : ∃ A, A = ps xs ys (List.range i) := ⟨_, rfl⟩
            obtain ⟨T, hT⟩ : ∃ T, T = ws ys (List.range i) := ⟨_, rfl⟩
            rw [← hA] at hq1 hmn ⊢
            rw [← hT] at hq2 hmn ⊢
            have j1 : I64 A := ⟨by omega, by omega⟩
            have j2 : I64 T := ⟨by omega, by omega⟩
            have J1 := hid j1; have J2 := hid j2
            clear hq1 hq2 hA hT j1 j2 HMN
            by_cases hT0 : T = 0
            · subst hT0
              rw [if_pos rfl] at hmn
              have HV := hid hmn
              clear hmn
              go_wp2
              exact fin3 rfl HV.out (below_drewN T0.out m) (Nat.le_refl _) (by simpa using HC0.out) (by simpa using HC1.out)
            · rw [if_neg hT0] at hmn
              have HV := hid hmn
              clear hmn
              go_wp2_with fail
              refine (rNew_any A T J1.out J2.out _).mono ?_
              rintro e w2 ⟨rfl, hb2⟩
              have HB2 := hid (below_t (below_drewN T0.out m) hb2)
              have hF2 := hid (HF.out.ups (below_t (below_drewN (Below.refl _ W0) m) hb2))
              obtain ⟨q0, q1, y0, y1⟩ := hF2.out
              obtain ⟨⟨p, q, e⟩, hx2⟩ : ∃ x, x = nw A T := ⟨_, rfl⟩
              have hv2 : mn xs ys = (p, q, e) := by rw [HV.out, hx2]
              have HV2 := hid hv2
              rw [← hx2]
              clear hx2 hv2 hb2 f0 f1 z0 z1
              go_wp2
              exact fin3 rfl HV2.out HB2.out (Nat.le_refl _) hF2.out.c0 hF2.out.c1
end Go.Proofs.Ythmakdlmadgpcaa

/- The law CodecEncodeSpec, from the contracts. -/
import Derived.Test.YtiklpimnmbjenaaW
import Derived.Test.YtiklpimnmbjenaaQ
namespace Go.Proofs.Ytiklpimnmbjenaa
open Go.RowKit Go
set_option linter.unusedVariables false
set_option linter.unusedSimpArgs false

set_option maxRecDepth 100000 in
set_option maxHeartbeats 4000000 in
theorem encl_any (t : T) (v : Value) (w : World) (hat : At w w.heap.size t v) : Calls Try.prog 3 #[v] w fun e w' => e = .returned (.bool true) ∧ Below w.heap.size w w' := by
  have hreal : Real t := ⟨_, _, _, hat⟩
  obtain ⟨k, n, s, p, len, cap, rfl⟩ := at_agg hat
  have HA := hid hat; clear hat
  obtain ⟨H, hH⟩ : ∃ H, H = w.heap.size := ⟨_, rfl⟩
  go_enter Try.func3, Try.ntmps3
  go_wp2_with fail
  refine (sane_any _).mono ?_
  rintro e w1 ⟨rfl, hb1⟩
  have c0 := cell_up (b := w.heap.size) (o := 0) (v := .int .i64 k) (by simp [go_sem]) hb1
  have c1 := cell_up (b := w.heap.size) (o := 1) (v := .int .i64 n) (by simp [go_sem]) hb1
  have c2 := cell_up (b := w.heap.size) (o := 2) (v := .string s) (by simp [go_sem]) hb1
  have c3 := cell_up (b := w.heap.size) (o := 3) (v := .slice p len cap) (by simp [go_sem]) hb1
  have A1 := hid (at_up (at_up HA.out (below_al w (.cells #[.int .i64 k, .int .i64 n, .string s, .slice p len cap] 24))) hb1)
  have B1 := hid (below_tr (below_al _ _) hb1)
  have s1 : w.heap.size < w1.heap.size := by have := hb1.size; simp at this; omega
  clear hb1
  go_wp2_with fail
  have hf := few_any t _ w1.heap.size k n s p len cap (at_up A1.out (below_al w1 (.cells #[.int .i64 k, .int .i64 n, .string s, .slice p len cap] 24))) (by simp) (by simp [go_sem]) (by simp [go_sem]) (by simp [go_sem]) (by simp [go_sem])
  by_cases hfew : cnt 21 t ≤ 200
  · have hd : decide (cnt 21 t ≤ 200) = true := by simp [hfew]
    obtain ⟨hel, hht⟩ := few_enc 21 t hreal hfew
    have hel2 : (enc t).length ≤ 1000000 := by omega
    have hht2 : hgt t ≤ 1000 := by omega
    clear hel hht hfew
    rw [hd] at hf
    have HF := hid hf; clear hf hd
    refine HF.out.mono ?_
    rintro e w2 ⟨rfl, hb2⟩
    have B2 := hid (below_tr (below_al w1 _) hb2); clear hb2 HF
    have A2 := hid (at_up A1.out B2.out)
    rw [← B2.out.cell (p := ⟨w.heap.size, _, none⟩) s1] at c0 c1 c2 c3
    have s2 : w.heap.size < w2.heap.size := by have := B2.out.size; omega
    have HB2 := hid (below_tr B1.out B2.out)
    by_cases hok : SzErr (dp t) = 0
    · have HK := hid hok; clear hok
      go_wp2_with fail
      refine (Encode_ok t _ _ _ A2.out (Nat.le_refl _) hht2 hel2 HK.out).mono ?_
      rintro e w3 ⟨g3, rfl, hr3, hg3, hb3⟩
      have B3 := hid hb3; have R3 := hid hr3; have A3 := hid (at_up A2.out hb3); have HB3 := hid (below_tr HB2.out hb3)
      clear hr3 hg3
      rw [← B3.out.cell (p := ⟨w.heap.size, _, none⟩) s2] at c0 c1 c2 c3
      have s3 : w.heap.size < w3.heap.size := by have := B3.out.size; omega
      clear hb3
      go_wp2_with fail
      refine (refEncode_ok t _ _ _ A3.out (Nat.le_refl _) hht2 hel2 HK.out).mono ?_
      rintro e w4 ⟨g4, q4, rfl, hr4, hb4⟩
      have B4 := hid hb4; have R4 := hid hr4; have RA4 := hid (row_up R3.out hb4); have A4 := hid (at_up A3.out hb4); have HB4 := hid (below_tr HB3.out hb4)
      rw [← B4.out.cell (p := ⟨w.heap.size, _, none⟩) s3] at c0 c1 c2 c3
      have s4 : w.heap.size < w4.heap.size := by have := B4.out.size; omega
      clear hr4 hb4
      go_wp2_with fail
      refine (Size_ok t _ _ _ A4.out (Nat.le_refl _) hht2 hel2 HK.out).mono ?_
      rintro e w5 ⟨rfl, hb5⟩
      have B5 := hid hb5; have R5 := hid (row_up R4.out hb5); have RA5 := hid (row_up RA4.out hb5); have A5 := hid (at_up A4.out hb5); have HB5 := hid (below_tr HB4.out hb5)
      rw [← B5.out.cell (p := ⟨w.heap.size, _, none⟩) s4] at c0 c1 c2 c3
      have s5 : w.heap.size < w5.heap.size := by have := B5.out.size; omega
      clear hb5
      go_wp2_with fail
      refine (refSize_ok t _ _ _ A5.out (Nat.le_refl _) hht2 hel2 HK.out).mono ?_
      rintro e w6 ⟨rfl, hb6⟩
      have B6 := hid hb6; have R6 := hid (row_up R5.out hb6); have RA6 := hid (row_up RA5.out hb6); have A6 := hid (at_up A5.out hb6); have HB6 := hid (below_tr HB5.out hb6)
      rw [← B6.out.cell (p := ⟨w.heap.size, _, none⟩) s5] at c0 c1 c2 c3
      have s6 : w.heap.size < w6.heap.size := by have := B6.out.size; omega
      clear hb6
      obtain ⟨N, hN⟩ : ∃ N, N = (enc t).length := ⟨_, rfl⟩
      obtain ⟨X, hX⟩ : ∃ X, X = strOfNums (enc t) := ⟨_, rfl⟩
      have E1 : Hid (∀ W, Below w6.heap.size w6 W → (convert 27 9 (.slice (some ⟨g3, 0, none⟩) N N)).run Try.prog W = .ok (.string X) W) := fun W hW => by rw [hX, hN]; exact conv_row (row_up RA6.out hW) rfl
      have E2 : Hid (∀ W, Below w6.heap.size w6 W → (convert 27 9 (.slice (some ⟨g4, 0, none⟩) N q4)).run Try.prog W = .ok (.string X) W) := fun W hW => by rw [hX, hN]; exact conv_row (row_up R6.out hW) rfl
      rw [← hN]
      clear hN hX
      have K1 : Hid (∀ W, Below w6.heap.size w6 W → Calls Try.prog 12 #[.agg #[.int .i64 k, .int .i64 n, .string s, .slice p len cap]] W fun e w' => e = .returned (.int .i64 0) ∧ Below W.heap.size W w') := fun W hW => by
        have := check_any t W W.heap.size _ (at_up A6.out hW) (Nat.le_refl _) hht2; rwa [HK.out] at this
      have K2 : Hid (∀ W, Below w6.heap.size w6 W → Calls Try.prog 13 #[.agg #[.int .i64 k, .int .i64 n, .string s, .slice p len cap]] W fun e w' => e = .returned (.int .i64 0) ∧ Below W.heap.size W w') := fun W hW => by
        have := refCheck_any t W W.heap.size _ (at_up A6.out hW) (Nat.le_refl _) hht2; rwa [HK.out] at this
      go_wp2_with fail
      go_region_held3 (fun W => W.cell? ⟨w.heap.size, 0, none⟩ = some (.int .i64 k) ∧ W.cell? ⟨w.heap.size, 1, none⟩ = some (.int .i64 n) ∧ W.cell? ⟨w.heap.size, 2, none⟩ = some (.string s) ∧ W.cell? ⟨w.heap.size, 3, none⟩ = some (.slice p len cap) ∧
          (convert 27 9 (.slice (some ⟨g3, 0, none⟩) N N)).run Try.prog W = .ok (.string X) W ∧ (convert 27 9 (.slice (some ⟨g4, 0, none⟩) N q4)).run Try.prog W = .ok (.string X) W)
        (((repeat' apply And.intro) <;> first | (go_keep; done) | exact E1.out _ (Below.refl _ _).drew | exact E2.out _ (Below.refl _ _).drew | exact cell_up d0 hb8 | exact cell_up d1 hb8 | exact cell_up d2 hb8 | exact cell_up d3 hb8 | exact E1.out _ (below_tr hB7 hb8) | exact E2.out _ (below_tr hB7 hb8) | exact d0 | exact d1 | exact d2 | exact d3 | exact E1.out _ hB7 | exact E2.out _ hB7))
        (first | (go_at_call 12; refine (K1.out _ (Below.refl _ _).drew).mono ?_; rintro e w7 ⟨rfl, hb7⟩; have hB7 : Below w6.heap.size w6 w7 := below_tr (a := w6.drew) (Below.refl _ _).drew hb7; have d0 := cell_up c0 hB7; have d1 := cell_up c1 hB7; have d2 := cell_up c2 hB7; have d3 := cell_up c3 hB7) | (go_at_call 13; refine (K2.out _ hB7).mono ?_; rintro e w8 ⟨rfl, hb8⟩))
      go_wp2
      go_ret
      exact ⟨by simp, below_tr HB6.out (below_tr hB7 hb8)⟩
    · obtain ⟨x, hx⟩ : ∃ x, x = SzErr (dp t) := ⟨_, rfl⟩
      have HX := hid hx.symm; have HK := hid hok; clear hx hok
      go_wp2_with fail
      refine (Encode_err t _ _ _ A2.out (Nat.le_refl _) hht2 HK.out).mono ?_
      rintro e w3 ⟨rfl, hb3⟩
      rw [HX.out]
      have A3 := hid (at_up A2.out hb3); have HB3 := hid (below_tr HB2.out hb3)
      rw [← hb3.cell (p := ⟨w.heap.size, _, none⟩) s2] at c0 c1 c2 c3
      have s3 : w.heap.size < w3.heap.size := by have := hb3.size; omega
      clear hb3
      go_wp2_with fail
      refine (refEncode_err t _ _ _ A3.out (Nat.le_refl _) hht2 HK.out).mono ?_
      rintro e w4 ⟨rfl, hb4⟩
      rw [HX.out]
      have A4 := hid (at_up A3.out hb4); have HB4 := hid (below_tr HB3.out hb4)
      rw [← hb4.cell (p := ⟨w.heap.size, _, none⟩) s3] at c0 c1 c2 c3
      have s4 : w.heap.size < w4.heap.size := by have := hb4.size; omega
      clear hb4
      go_wp2_with fail
      refine (Size_err t _ _ _ A4.out (Nat.le_refl _) hht2 HK.out).mono ?_
      rintro e w5 ⟨rfl, hb5⟩
      rw [HX.out]
      have A5 := hid (at_up A4.out hb5); have HB5 := hid (below_tr HB4.out hb5)
      rw [← hb5.cell (p := ⟨w.heap.size, _, none⟩) s4] at c0 c1 c2 c3
      have s5 : w.heap.size < w5.heap.size := by have := hb5.size; omega
      clear hb5
      go_wp2_with fail
      refine (refSize_err t _ _ _ A5.out (Nat.le_refl _) hht2 HK.out).mono ?_
      rintro e w6 ⟨rfl, hb6⟩
      rw [HX.out]
      have A6 := hid (at_up A5.out hb6); have HB6 := hid (below_tr HB5.out hb6)
      rw [← hb6.cell (p := ⟨w.heap.size, _, none⟩) s5] at c0 c1 c2 c3
      have s6 : w.heap.size < w6.heap.size := by have := hb6.size; omega
      clear hb6
      have hcv : ∀ W, (convert 27 9 (.slice none 0 0)).run Try.prog W = .ok (.string ⟨#[]⟩) W := fun W => conv_zero (P := Try.prog) W 27 5 Try.underlying27 (by kernel_rfl) none 0 9 Try.underlying9
      have K1 : Hid (∀ W, Below w6.heap.size w6 W → Calls Try.prog 12 #[.agg #[.int .i64 k, .int .i64 n, .string s, .slice p len cap]] W fun e w' => e = .returned (.int .i64 x) ∧ Below W.heap.size W w') := fun W hW => by
        have := check_any t W W.heap.size _ (at_up A6.out hW) (Nat.le_refl _) hht2; rwa [HX.out] at this
      have K2 : Hid (∀ W, Below w6.heap.size w6 W → Calls Try.prog 13 #[.agg #[.int .i64 k, .int .i64 n, .string s, .slice p len cap]] W fun e w' => e = .returned (.int .i64 x) ∧ Below W.heap.size W w') := fun W hW => by
        have := refCheck_any t W W.heap.size _ (at_up A6.out hW) (Nat.le_refl _) hht2; rwa [HX.out] at this
      go_wp2_with fail
      go_region_held3 (fun W => W.cell? ⟨w.heap.size, 0, none⟩ = some (.int .i64 k) ∧ W.cell? ⟨w.heap.size, 1, none⟩ = some (.int .i64 n) ∧ W.cell? ⟨w.heap.size, 2, none⟩ = some (.string s) ∧ W.cell? ⟨w.heap.size, 3, none⟩ = some (.slice p len cap))
        (((repeat' apply And.intro) <;> first | (go_keep; done) | exact cell_up d0 hb8 | exact cell_up d1 hb8 | exact cell_up d2 hb8 | exact cell_up d3 hb8 | exact d0 | exact d1 | exact d2 | exact d3))
        (first | (go_at_call 12; refine (K1.out _ (Below.refl _ _).drew).mono ?_; rintro e w7 ⟨rfl, hb7⟩; have hB7 : Below w6.heap.size w6 w7 := below_tr (a := w6.drew) (Below.refl _ _).drew hb7; have d0 := cell_up c0 hB7; have d1 := cell_up c1 hB7; have d2 := cell_up c2 hB7; have d3 := cell_up c3 hB7) | (go_at_call 13; refine (K2.out _ hB7).mono ?_; rintro e w8 ⟨rfl, hb8⟩))
      go_wp2
      go_ret
      exact ⟨by simp, below_tr HB6.out (below_tr hB7 hb8)⟩
  · have hd : decide (cnt 21 t ≤ 200) = false := by simp [hfew]
    rw [hd] at hf
    have HF := hid hf; clear hf hd hfew
    refine HF.out.mono ?_
    rintro e w2 ⟨rfl, hb2⟩
    have B2 := hid (below_tr B1.out (below_tr (below_al w1 _) hb2)); clear hb2
    go_wp2
    go_ret
    exact ⟨rfl, B2.out⟩
end Go.Proofs.Ytiklpimnmbjenaa

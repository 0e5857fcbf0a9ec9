/- The reference's comparison of two values. -/
import Derived.Test.YtiklpimnmbjenaaO
namespace Go.Proofs.Ytiklpimnmbjenaa
open Go.RowKit Go
set_option linter.unusedVariables false
set_option linter.unusedSimpArgs false

set_option maxRecDepth 100000 in
set_option maxHeartbeats 2000000 in
theorem rsame_step (k n : Int) (s : ByteArray) (l : List T) (ih : ∀ t ∈ l, SaidSame 16 t) : SaidSame 16 (.mk k n s l) := by
  intro u w B a b ha hb hB
  obtain ⟨k', n', s', l'⟩ := u
  obtain ⟨_, p, len, cap, HL, rfl, hlc, hm, b1, off, hp, hk⟩ := at_kid ha
  obtain ⟨_, p', len', cap', HL', rfl, hlc', hm', b1', off', hp', hk'⟩ := at_kid hb
  clear ha hb
  have hs := same_mk k n s l k' n' s' l'
  rw [HL.out, HL'.out] at hs
  rw [hs]
  clear hs
  have hbel : ∀ o o', Below w.heap.size w ((w.alloc o).alloc o') := fun o o' => ((Below.refl _ _).alloc (Nat.le_refl _) _).alloc (by simp) _
  by_cases h1 : k = k'
  · by_cases h2 : n = n'
    · by_cases h3 : s.toList = s'.toList
      · by_cases h4 : len = len'
        · subst h1 h2 h4
          simp only [ne_eq, not_true, if_false, h3]
          by_cases hl0 : 0 < len
          · obtain ⟨rfl, hbB⟩ := hp hl0
            obtain ⟨rfl, hbB'⟩ := hp' hl0
            clear hp hp'
            have HK := hid hk; have HK' := hid hk'; clear hk hk'
            obtain ⟨W0, hW0⟩ : ∃ W0, W0 = (w.alloc (.cells #[.int .i64 k, .int .i64 n, .string s, .slice (some ⟨b1, off, none⟩) len cap] 24)).alloc (.cells #[.int .i64 k, .int .i64 n, .string s', .slice (some ⟨b1', off', none⟩) len cap'] 24) := ⟨_, rfl⟩
            have HW := hid hW0; clear hW0
            go_enter Try.func16, Try.ntmps16
            go_wp2_with fail
            go_loopw [5] (fun iv wr => ∃ i : Nat, i ≤ len ∧ iv = .int .i64 i ∧ Hid (sames l l' = sames (l.drop i) (l'.drop i)) ∧ Hid (Below (w.heap.size + 2) W0 wr)) (fun iv _ => len - (intOf iv).toNat)
            case atStart => exact ⟨0, by omega, rfl, rfl, by rw [HW.out]; exact Below.refl _ _⟩
            case round =>
              obtain ⟨i, hi, rfl, HR, HB⟩ := hrel
              have hw0 : W0.heap.size = w.heap.size + 2 := by rw [HW.out]; simp
              have hbw : Below w.heap.size w wr := (by rw [HW.out]; exact hbel _ _ : Below w.heap.size w W0).trans (HB.out.mono (by omega))
              have q1 : wr.cell? ⟨w.heap.size, 3, none⟩ = some (.slice (some ⟨b1, off, none⟩) len cap) := by rw [HB.out.cell (by simp), HW.out]; simp [go_sem]
              have q2 : wr.cell? ⟨w.heap.size + 1, 3, none⟩ = some (.slice (some ⟨b1', off', none⟩) len cap') := by rw [HB.out.cell (by simp), HW.out]; simp [go_sem]
              have hsz : w.heap.size + 2 ≤ wr.heap.size := by have := HB.out.size; omega
              by_cases hlt : i < len
              · obtain ⟨t, ka, na, sa, pa, lena, capa, ⟨hmem, hdrop⟩, hat, e0, e1, e2, e3⟩ := HK.out i hlt
                obtain ⟨u, kb, nb, sb, pb, lenb, capb, ⟨hmem', hdrop'⟩, hat', e0', e1', e2', e3'⟩ := HK'.out i hlt
                have hih := ih t hmem
                have hsc : sames (l.drop i) (l'.drop i) = (same t u && sames (l.drop (i + 1)) (l'.drop (i + 1))) := by rw [hdrop, hdrop', sames_cons]
                have HI := hid hih; have HA := hid hat; have HA' := hid hat'; have HS := hid hsc; clear hih hat hat' hsc hdrop hdrop' hmem hmem'
                rw [← hbw.cell (p := ⟨b1, _, none⟩) (by simp; omega)] at e0 e1 e2 e3
                rw [← hbw.cell (p := ⟨b1', _, none⟩) (by simp; omega)] at e0' e1' e2' e3'
                have HBW := hid hbw; clear hbw
                cases hsb : same t u with
                | false =>
                  have HSB := hid hsb; clear hsb
                  go_wp2_with fail
                  go_region_held3 (fun W => W.cell? ⟨w.heap.size, 3, none⟩ = some (.slice (some ⟨b1, off, none⟩) len cap) ∧ W.cell? ⟨w.heap.size + 1, 3, none⟩ = some (.slice (some ⟨b1', off', none⟩) len cap') ∧ W.cell? ⟨b1, off + i * 4, none⟩ = some (.int .i64 ka) ∧ W.cell? ⟨b1, off + i * 4 + 1, none⟩ = some (.int .i64 na) ∧ W.cell? ⟨b1, off + i * 4 + 2, none⟩ = some (.string sa) ∧ W.cell? ⟨b1, off + i * 4 + 3, none⟩ = some (.slice pa lena capa) ∧ W.cell? ⟨b1', off' + i * 4, none⟩ = some (.int .i64 kb) ∧ W.cell? ⟨b1', off' + i * 4 + 1, none⟩ = some (.int .i64 nb) ∧ W.cell? ⟨b1', off' + i * 4 + 2, none⟩ = some (.string sb) ∧ W.cell? ⟨b1', off' + i * 4 + 3, none⟩ = some (.slice pb lenb capb))
                    (((repeat' apply And.intro) <;> first | (go_keep; done) | (rw [hc1 _ _ (by show _ < wr.heap.size; omega)]; go_keep; done)))
                    ((go_at_call 16; refine (HI.out u _ B _ _ (At.below HBW.out.drew hB HA.out) (At.below HBW.out.drew hB HA'.out) (by show B ≤ wr.heap.size; omega)).mono ?_; rintro e w1 ⟨rfl, hb1⟩; rw [HSB.out]; obtain ⟨hc1, hf1⟩ := bcell hb1))
                  go_wp2
                  go_ret
                  refine ⟨?_, HBW.out.trans (Below.drew (Below.refl _ _) |>.trans (hb1.mono (by show w.heap.size ≤ wr.heap.size; omega)))⟩
                  have h := HR.out
                  rw [HS.out, HSB.out] at h
                  simp [h]
                | true =>
                  have HSB := hid hsb; clear hsb
                  go_wp2_with fail
                  go_region_held3 (fun W => W.cell? ⟨w.heap.size, 3, none⟩ = some (.slice (some ⟨b1, off, none⟩) len cap) ∧ W.cell? ⟨w.heap.size + 1, 3, none⟩ = some (.slice (some ⟨b1', off', none⟩) len cap') ∧ W.cell? ⟨b1, off + i * 4, none⟩ = some (.int .i64 ka) ∧ W.cell? ⟨b1, off + i * 4 + 1, none⟩ = some (.int .i64 na) ∧ W.cell? ⟨b1, off + i * 4 + 2, none⟩ = some (.string sa) ∧ W.cell? ⟨b1, off + i * 4 + 3, none⟩ = some (.slice pa lena capa) ∧ W.cell? ⟨b1', off' + i * 4, none⟩ = some (.int .i64 kb) ∧ W.cell? ⟨b1', off' + i * 4 + 1, none⟩ = some (.int .i64 nb) ∧ W.cell? ⟨b1', off' + i * 4 + 2, none⟩ = some (.string sb) ∧ W.cell? ⟨b1', off' + i * 4 + 3, none⟩ = some (.slice pb lenb capb))
                    (((repeat' apply And.intro) <;> first | (go_keep; done) | (rw [hc1 _ _ (by show _ < wr.heap.size; omega)]; go_keep; done)))
                    ((go_at_call 16; refine (HI.out u _ B _ _ (At.below HBW.out.drew hB HA.out) (At.below HBW.out.drew hB HA'.out) (by show B ≤ wr.heap.size; omega)).mono ?_; rintro e w1 ⟨rfl, hb1⟩; rw [HSB.out]; obtain ⟨hc1, hf1⟩ := bcell hb1))
                  go_wp2
                  go_roundw
                  case rel =>
                    refine ⟨i + 1, by omega, by go_num, ?_, HB.out.trans (Below.drew (Below.refl _ _) |>.trans (hb1.mono (by show w.heap.size + 2 ≤ wr.heap.size; omega)))⟩
                    have h := HR.out
                    rw [HS.out, HSB.out] at h
                    show _ = _
                    simpa using h
                  case measure => simp [intOf]; omega
              · obtain rfl : i = len := by omega
                go_wp2
                go_ret
                have h := HR.out
                rw [← HL.out, List.drop_length, sames_nil] at h
                exact ⟨by simp [h], hbw⟩
          · obtain rfl : len = 0 := by omega
            have hnil : l = [] := List.eq_nil_of_length_eq_zero HL.out
            subst hnil
            go_enter Try.func16, Try.ntmps16
            go_wp2_with fail
            go_loopw [5] (fun iv wr => iv = .int .i64 0 ∧ wr = (w.alloc (.cells #[.int .i64 k, .int .i64 n, .string s, .slice p 0 cap] 24)).alloc (.cells #[.int .i64 k, .int .i64 n, .string s', .slice p' 0 cap'] 24)) (fun iv _ => 0 - (intOf iv).toNat)
            case atStart => exact ⟨rfl, rfl⟩
            case round =>
              obtain ⟨rfl, rfl⟩ := hrel
              go_wp2
              go_ret
              exact ⟨by simp [sames_nil], hbel _ _⟩
        · have h4' : ((len : Int) != (len' : Int)) = true := by simp; omega
          subst h1 h2
          have H4 := hid h4; clear h4
          go_enter Try.func16, Try.ntmps16
          go_wp2
          go_ret
          exact ⟨by simp [h3, H4.out], hbel _ _⟩
      · subst h1 h2
        go_enter Try.func16, Try.ntmps16
        go_wp2
        go_ret
        exact ⟨by simp [h3], hbel _ _⟩
    · subst h1
      have h2' : (n != n') = true := by simp [h2]
      go_enter Try.func16, Try.ntmps16
      go_wp2
      go_ret
      exact ⟨by simp [h2], hbel _ _⟩
  · have h1' : (k != k') = true := by simp [h1]
    go_enter Try.func16, Try.ntmps16
    go_wp2
    go_ret
    exact ⟨by simp [h1], hbel _ _⟩
theorem rsame_any (t : T) : SaidSame 16 t := by
  induction t using T.all with
  | step k n s l ih => exact rsame_step k n s l ih

end Go.Proofs.Ytiklpimnmbjenaa

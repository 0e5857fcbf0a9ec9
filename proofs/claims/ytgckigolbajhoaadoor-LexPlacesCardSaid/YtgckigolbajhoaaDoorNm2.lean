/- Contract: Name. -/
import Derived.Test.YtgckigolbajhoaaDoorNm
namespace Go.Proofs.YtgckigolbajhoaaDoor
open Go.RowKit Go
set_option linter.unusedVariables false
set_option linter.unusedSimpArgs false
theorem nm_empty {s : List UInt8} (h : s = []) : L9.nm s = false := by subst h; rfl
/-- the cells of a new row of classes -/
theorem zs_new (w : World) (zs : List Int) (t : TypeId) : ∀ i z, zs[i]? = some z → (w.alloc (.cells (zs.map (Value.int .u8)).toArray t)).cell? ⟨w.heap.size, i, none⟩ = some (.int .u8 z) := by
  intro i z h
  refine cell_lit w _ t i _ ?_
  simp [h]
theorem kl_ne {c : UInt8} (h : L9.isL c = false) : (kl c == 2) = false := by rw [kl_L, h]
theorem lst_head {s : ByteArray} (h : 0 < s.size) : ∃ c r, lst s = c :: r ∧ c = s[0] := by
  have hl : (lst s).length = s.size := rfl
  refine ⟨s[0], (lst s).drop 1, ?_, rfl⟩
  exact List.drop_eq_getElem_cons (l := lst s) (i := 0) (by omega)
set_option maxRecDepth 100000 in
set_option maxHeartbeats 4000000 in
theorem name_any (s : ByteArray) (w : World) (hk : Konst w) (hs : s.size ≤ maxLen) : Calls Tryd.prog 19 #[.string s] w fun e w' => e = .returned (.bool (L9.nm (lst s))) ∧ Below w.heap.size w w' := by
  have hl : (lst s).length = s.size := rfl
  have HK := hid hk; have HS := hid hs
  clear hk hs
  by_cases h0 : s.toList = []
  · have hv := hid (nm_empty (show lst s = [] from by rw [← h0, Lib.toList_data]))
    go_enter Tryd.func19, Tryd.ntmps19
    go_wp2
    go_ret
    exact ⟨by rw [hv.out]; rfl, Below.refl _ _⟩
  · have hpos : 0 < s.size := by
      rcases Nat.eq_zero_or_pos s.size with h | h
      · exact absurd (by rw [Lib.toList_data]; exact List.eq_nil_of_length_eq_zero (hl.trans h)) h0
      · exact h
    obtain ⟨c, r, hcr, hc⟩ := lst_head hpos
    have HC := hid hc
    clear hc
    by_cases h32 : (s.size : Int) ≤ 32
    · have HCL := hid (show Calls Tryd.prog 25 #[.int .u8 c.toNat] w fun e w' => e = .returned (.int .u8 (kl c)) ∧ w = w' from classOf_any c.toNat w HK.out (u8_lt c))
      by_cases hL : L9.isL c = true
      · have hc2 : (kl c == 2) = true := by rw [kl_L, hL]
        have hc3 : kl c = 2 := by simpa using hc2
        rw [hc3] at HCL
        have HCN := hid (fun t => count_any s w.heap.size 3 3 [2, 3, 4] (w.alloc (.cells ([2, 3, 4].map (Value.int .u8)).toArray t)) (HK.out.up ((Below.refl _ w).alloc (Nat.le_refl _) _)) HS.out rfl (by omega) (zs_new w _ t))
        have htw : (lst s).takeWhile (inC [2, 3, 4]) = (lst s).takeWhile L9.isP := tw_eq _ _ inC_P _
        rw [htw] at HCN
        have hb := tw_whole L9.isP (lst s)
        have hnm : L9.nm (lst s) = (lst s).all L9.isP := by
          have hl2 : (c :: r).length ≤ 32 := by rw [← hcr, hl]; omega
          rw [hcr]; simp only [L9.nm, hL, Bool.and_true, decide_eq_true hl2, Bool.true_and]
        have hv := hid (show decide (((lst s).takeWhile L9.isP).length = s.size) = L9.nm (lst s) by
          rw [hnm, ← hl]
          by_cases ha : (lst s).all L9.isP = true
          · rw [ha]; exact decide_eq_true (hb.2 ha)
          · rw [Bool.eq_false_iff.2 ha]; exact decide_eq_false (fun h => ha (hb.1 h)))
        obtain ⟨m, hm⟩ : ∃ m, m = ((lst s).takeWhile L9.isP).length := ⟨_, rfl⟩
        rw [← hm] at hv HCN
        have hv := hid (show (!s.toList.isEmpty && ((m : Int) == (s.size : Int))) = L9.nm (lst s) by
          rw [← hv.out, show s.toList.isEmpty = false by simpa using h0]
          rcases Nat.decEq m s.size with h | h
          · rw [decide_eq_false h, Bool.not_false, Bool.true_and]; simp; omega
          · rw [decide_eq_true h, h]; simp)
        clear hm hb htw hnm hc2 hc3 hL hl hcr
        go_enter Tryd.func19, Tryd.ntmps19
        go_wp2_with fail
        rw [← HC.out]
        refine HCL.out.mono ?_
        rintro e w' ⟨rfl, rfl⟩
        go_wp2_with fail
        refine (HCN.out _).mono ?_
        rintro e w' ⟨rfl, rfl⟩
        go_wp2_with fail
        go_ret
        exact ⟨by rw [← hv.out]; rfl, (Below.refl _ w).alloc (Nat.le_refl _) _⟩
      · have hc2 : (kl c == 2) = false := kl_ne (by simpa using hL)
        have hv := hid (show L9.nm (lst s) = false by rw [hcr]; simp [L9.nm, hL])
        clear hL hcr hl
        go_enter Tryd.func19, Tryd.ntmps19
        go_wp2_with fail
        rw [← HC.out]
        refine HCL.out.mono ?_
        rintro e w' ⟨rfl, rfl⟩
        go_wp2
        go_ret
        exact ⟨by rw [hv.out]; rfl, Below.refl _ _⟩
    · have hv := hid (show L9.nm (lst s) = false by
        rw [hcr]
        have : ¬ (c :: r).length ≤ 32 := by rw [← hcr, hl]; omega
        simp only [L9.nm, decide_eq_false this, Bool.false_and])
      clear hcr hl
      go_enter Tryd.func19, Tryd.ntmps19
      go_wp2
      go_ret
      exact ⟨by rw [hv.out]; rfl, Below.refl _ _⟩
end Go.Proofs.YtgckigolbajhoaaDoor

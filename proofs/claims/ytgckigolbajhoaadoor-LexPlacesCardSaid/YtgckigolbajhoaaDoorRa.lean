/- Contracts: the reference's classes of bytes. -/
import Derived.Test.YtgckigolbajhoaaDoorV2
namespace Go.Proofs.YtgckigolbajhoaaDoor
open Go.RowKit Go
set_option linter.unusedVariables false
set_option linter.unusedSimpArgs false
set_option maxRecDepth 100000 in
set_option maxHeartbeats 8000000 in
theorem letter_any (c : UInt8) (w : World) : Calls Tryd.prog 26 #[.int .u8 c.toNat] w fun e w' => e = .returned (.bool (L9.isL c)) ∧ w = w' := by
  obtain ⟨n, hn⟩ : ∃ n, n = c.toNat := ⟨_, rfl⟩
  have hd : L9.isL c = decide (97 ≤ n ∧ n ≤ 122 ∨ 65 ≤ n ∧ n ≤ 90) := by rw [hn]; rfl
  rw [← hn]
  clear hn
  rcases (by omega : (97 ≤ n ∧ n ≤ 122) ∨ 122 < n ∨ (n < 97 ∧ 90 < n) ∨ (65 ≤ n ∧ n ≤ 90) ∨ n < 65) with ⟨h1, h2⟩ | h1 | ⟨h1, h2⟩ | ⟨h1, h2⟩ | h1
  · have hv := hid (show L9.isL c = true by rw [hd]; exact decide_eq_true (by omega))
    have g1 : (97 : Int) ≤ n := by omega
    have g2 : (n : Int) ≤ 122 := by omega
    clear hd h1 h2
    go_enter Tryd.func26, Tryd.ntmps26
    go_wp2
    go_ret
    exact ⟨by rw [hv.out]; rfl, rfl⟩
  · have hv := hid (show L9.isL c = false by rw [hd]; exact decide_eq_false (by omega))
    have g1 : (97 : Int) ≤ n := by omega
    have g2 : ¬ (n : Int) ≤ 122 := by omega
    have g3 : (65 : Int) ≤ n := by omega
    have g4 : ¬ (n : Int) ≤ 90 := by omega
    clear hd h1
    go_enter Tryd.func26, Tryd.ntmps26
    go_wp2
    go_ret
    exact ⟨by rw [hv.out]; rfl, rfl⟩
  · have hv := hid (show L9.isL c = false by rw [hd]; exact decide_eq_false (by omega))
    have g1 : ¬ (97 : Int) ≤ n := by omega
    have g3 : (65 : Int) ≤ n := by omega
    have g4 : ¬ (n : Int) ≤ 90 := by omega
    clear hd h1 h2
    go_enter Tryd.func26, Tryd.ntmps26
    go_wp2
    go_ret
    exact ⟨by rw [hv.out]; rfl, rfl⟩
  · have hv := hid (show L9.isL c = true by rw [hd]; exact decide_eq_true (by omega))
    have g1 : ¬ (97 : Int) ≤ n := by omega
    have g3 : (65 : Int) ≤ n := by omega
    have g4 : (n : Int) ≤ 90 := by omega
    clear hd h1 h2
    go_enter Tryd.func26, Tryd.ntmps26
    go_wp2
    go_ret
    exact ⟨by rw [hv.out]; rfl, rfl⟩
  · have hv := hid (show L9.isL c = false by rw [hd]; exact decide_eq_false (by omega))
    have g1 : ¬ (97 : Int) ≤ n := by omega
    have g3 : ¬ (65 : Int) ≤ n := by omega
    clear hd h1
    go_enter Tryd.func26, Tryd.ntmps26
    go_wp2
    go_ret
    exact ⟨by rw [hv.out]; rfl, rfl⟩
set_option maxRecDepth 100000 in
set_option maxHeartbeats 8000000 in
theorem figure_any (c : UInt8) (w : World) : Calls Tryd.prog 28 #[.int .u8 c.toNat] w fun e w' => e = .returned (.bool (L9.isD c)) ∧ w = w' := by
  obtain ⟨n, hn⟩ : ∃ n, n = c.toNat := ⟨_, rfl⟩
  have hd : L9.isD c = decide (48 ≤ n ∧ n ≤ 57) := by rw [hn]; rfl
  rw [← hn]
  clear hn
  rcases (by omega : (48 ≤ n ∧ n ≤ 57) ∨ 57 < n ∨ n < 48) with ⟨h1, h2⟩ | h1 | h1
  · have hv := hid (show L9.isD c = true by rw [hd]; exact decide_eq_true (by omega))
    have g1 : (48 : Int) ≤ n := by omega
    have g2 : (n : Int) ≤ 57 := by omega
    clear hd h1 h2
    go_enter Tryd.func28, Tryd.ntmps28
    go_wp2
    go_ret
    exact ⟨by rw [hv.out]; rfl, rfl⟩
  · have hv := hid (show L9.isD c = false by rw [hd]; exact decide_eq_false (by omega))
    have g1 : (48 : Int) ≤ n := by omega
    have g2 : ¬ (n : Int) ≤ 57 := by omega
    clear hd h1
    go_enter Tryd.func28, Tryd.ntmps28
    go_wp2
    go_ret
    exact ⟨by rw [hv.out]; rfl, rfl⟩
  · have hv := hid (show L9.isD c = false by rw [hd]; exact decide_eq_false (by omega))
    have g1 : ¬ (48 : Int) ≤ n := by omega
    clear hd h1
    go_enter Tryd.func28, Tryd.ntmps28
    go_wp2
    go_ret
    exact ⟨by rw [hv.out]; rfl, rfl⟩
set_option maxRecDepth 100000 in
set_option maxHeartbeats 8000000 in
theorem part_any (c : UInt8) (w : World) : Calls Tryd.prog 27 #[.int .u8 c.toNat] w fun e w' => e = .returned (.bool (L9.isP c)) ∧ w = w' := by
  have HL := hid (letter_any c w)
  have HF := hid (figure_any c w)
  obtain ⟨n, hn⟩ : ∃ n, n = c.toNat := ⟨_, rfl⟩
  have hd : L9.isP c = (L9.isL c || L9.isD c || decide (n = 95)) := by rw [hn]; rfl
  rw [← hn] at HL HF ⊢
  clear hn
  cases h1 : L9.isL c
  · cases h2 : L9.isD c
    · rw [h1] at HL; rw [h2] at HF; rw [h1, h2] at hd
      by_cases h3 : n = 95
      · have hv := hid (show L9.isP c = true by rw [hd]; simp [h3])
        have g : ((n : Int) == 95) = true := by simp [h3]
        clear hd h1 h2 h3
        go_enter Tryd.func27, Tryd.ntmps27
        go_wp2_with (first | (go_at_call 26; refine HL.out.mono ?_; rintro e w' ⟨rfl, rfl⟩) | (go_at_call 28; refine HF.out.mono ?_; rintro e w' ⟨rfl, rfl⟩))
        go_ret
        exact ⟨by rw [hv.out]; rfl, rfl⟩
      · have hv := hid (show L9.isP c = false by rw [hd]; simp [h3])
        have g : ((n : Int) == 95) = false := by simp; omega
        clear hd h1 h2 h3
        go_enter Tryd.func27, Tryd.ntmps27
        go_wp2_with (first | (go_at_call 26; refine HL.out.mono ?_; rintro e w' ⟨rfl, rfl⟩) | (go_at_call 28; refine HF.out.mono ?_; rintro e w' ⟨rfl, rfl⟩))
        go_ret
        exact ⟨by rw [hv.out]; rfl, rfl⟩
    · rw [h1] at HL; rw [h2] at HF; rw [h1, h2] at hd
      have hv := hid (show L9.isP c = true by rw [hd]; simp)
      clear hd h1 h2
      go_enter Tryd.func27, Tryd.ntmps27
      go_wp2_with (first | (go_at_call 26; refine HL.out.mono ?_; rintro e w' ⟨rfl, rfl⟩) | (go_at_call 28; refine HF.out.mono ?_; rintro e w' ⟨rfl, rfl⟩))
      go_ret
      exact ⟨by rw [hv.out]; rfl, rfl⟩
  · rw [h1] at HL; rw [h1] at hd
    have hv := hid (show L9.isP c = true by rw [hd]; simp)
    clear hd h1
    go_enter Tryd.func27, Tryd.ntmps27
    go_wp2_with (first | (go_at_call 26; refine HL.out.mono ?_; rintro e w' ⟨rfl, rfl⟩))
    go_ret
    exact ⟨by rw [hv.out]; rfl, rfl⟩
def SG : List UInt8 := [123, 125, 40, 41, 59, 44, 61, 35, 47, 60, 33, 45, 46]
theorem isS_mem (c : UInt8) : L9.isS c = SG.contains c := byte_all (M := fun c => L9.isS c = SG.contains c) (by decide +kernel) c
set_option maxRecDepth 100000 in
set_option maxHeartbeats 8000000 in
theorem rsign_any (c : UInt8) (w : World) : Calls Tryd.prog 30 #[.int .u8 c.toNat] w fun e w' => e = .returned (.bool (L9.isS c)) ∧ w = w' := by
  have hv0 := hid (isS_mem c)
  obtain ⟨n, hn⟩ : ∃ n, n = c.toNat := ⟨_, rfl⟩
  rw [← hn]
  have HN := hid hn
  clear hn
  go_enter Tryd.func30, Tryd.ntmps30
  go_wp2
  obtain ⟨q, hq⟩ : ∃ q : ByteArray, q = ⟨#[123, 125, 40, 41, 59, 44, 61, 35, 47, 60, 33, 45, 46]⟩ := ⟨_, rfl⟩
  have hqs : q.size = 13 := by rw [hq]; rfl
  have hql : lst q = SG := by rw [hq]; rfl
  rw [← hq]
  have HQL := hid hql
  clear hq hql
  go_loop [4] (fun i => ∃ k : Nat, k ≤ 13 ∧ i = .int .i64 k ∧ Hid (∀ j, j < k → SG[j]? ≠ some c)) (fun i => 13 - (intOf i).toNat)
  case atStart => exact ⟨0, by omega, rfl, hid (fun j hj => by omega)⟩
  case round =>
    obtain ⟨k, hk, rfl, hz⟩ := hrel
    by_cases hlt : k < 13
    · have hks : k < q.size := by omega
      obtain ⟨d, hd⟩ : ∃ d, d = q[k] := ⟨_, rfl⟩
      have hsg := hid (show SG[k]? = some d by
        rw [← HQL.out, hd]
        have : k < (lst q).length := hks
        rw [List.getElem?_eq_getElem this]; rfl)
      have hqd : q[k] = d := hd.symm
      clear hd
      by_cases hx : d = c
      · have hv := hid (show L9.isS c = true by rw [hv0.out]; exact List.contains_iff_mem.2 (List.mem_of_getElem? (by rw [hsg.out, hx])))
        have hb1 : (((d.toNat : Nat) : Int) == (n : Int)) = true := by rw [hx, HN.out]; simp
        clear hx
        go_wp2
        go_ret
        exact ⟨by rw [hv.out]; rfl, rfl⟩
      · have hb1 : (((d.toNat : Nat) : Int) == (n : Int)) = false := by
          rw [HN.out]; simp
          intro e; exact hx (UInt8.toNat_inj.1 (by omega))
        have HZ := hid (show ∀ j, j < k + 1 → SG[j]? ≠ some c from fun j hj => by
          rcases Nat.lt_or_ge j k with h | h
          · exact hz.out j h
          · obtain rfl : j = k := by omega
            rw [hsg.out]; intro e; exact hx (Option.some.inj e))
        clear hx
        go_wp2
        go_round
        case rel => exact ⟨k + 1, by omega, by go_num, HZ⟩
        case measure => simp [intOf]; omega
    · obtain rfl : k = 13 := by omega
      have hv := hid (show L9.isS c = false by
        rw [hv0.out]
        cases h : SG.contains c
        · rfl
        · obtain ⟨j, hj⟩ := List.mem_iff_getElem?.1 (List.contains_iff_mem.1 h)
          have hlt := (List.getElem?_eq_some_iff.1 hj).1
          exact absurd hj (hz.out j (by simpa [SG] using hlt)))
      go_wp2
      go_ret
      exact ⟨by rw [hv.out]; rfl, rfl⟩
end Go.Proofs.YtgckigolbajhoaaDoor

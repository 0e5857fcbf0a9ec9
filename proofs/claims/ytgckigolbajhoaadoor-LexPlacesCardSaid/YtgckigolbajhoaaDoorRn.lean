/- Contracts: the reference's Name and Valid. -/
import Derived.Test.YtgckigolbajhoaaDoorRa
namespace Go.Proofs.YtgckigolbajhoaaDoor
open Go.RowKit Go
set_option linter.unusedVariables false
set_option linter.unusedSimpArgs false
theorem nm_parts (c : UInt8) (r : List UInt8) : L9.nm (c :: r) = (decide ((c :: r).length ≤ 32) && L9.isL c && (c :: r).all L9.isP) := rfl
set_option maxRecDepth 100000 in
set_option maxHeartbeats 8000000 in
theorem rname2_any (s : ByteArray) (w : World) (hs : s.size ≤ maxLen) : Calls Tryd.prog 20 #[.string s] w fun e w' => e = .returned (.bool (L9.nm (lst s))) ∧ w = w' := by
  have hl : (lst s).length = s.size := rfl
  have HP := hid (fun c => part_any c w)
  have HM := hid (show (s.size : Int) ≤ 9223372036854775807 by unfold maxLen at hs; omega)
  clear hs
  by_cases h0 : (s.size : Int) < 1
  · have hv := hid (nm_empty (show lst s = [] from List.eq_nil_of_length_eq_zero (by omega)))
    clear hl
    go_enter Tryd.func20, Tryd.ntmps20
    go_wp2
    go_ret
    exact ⟨by rw [hv.out]; rfl, rfl⟩
  · have hpos : 0 < s.size := by omega
    obtain ⟨c, r, hcr, hc⟩ := lst_head hpos
    have HL := hid (letter_any c w)
    have hs0 : s[0] = c := hc.symm
    clear hc
    have hnm := nm_parts c r
    rw [← hcr, hl] at hnm
    by_cases h32 : (32 : Int) < s.size
    · have hv := hid (show L9.nm (lst s) = false by rw [hnm, decide_eq_false (by omega)]; rfl)
      clear hl hcr hnm
      go_enter Tryd.func20, Tryd.ntmps20
      go_wp2
      go_ret
      exact ⟨by rw [hv.out]; rfl, rfl⟩
    · rw [decide_eq_true (show s.size ≤ 32 by omega), Bool.true_and] at hnm
      cases hL : L9.isL c
      · rw [hL] at HL hnm
        have hv := hid (show L9.nm (lst s) = false by rw [hnm]; rfl)
        clear hl hcr hnm hL
        go_enter Tryd.func20, Tryd.ntmps20
        go_wp2_with (go_at_call 26; refine HL.out.mono ?_; rintro e w' ⟨rfl, rfl⟩)
        go_ret
        exact ⟨by rw [hv.out]; rfl, rfl⟩
      · rw [hL] at HL hnm
        rw [Bool.true_and] at hnm
        have HNM := hid hnm
        have HLE := hid hl
        have h32' : (s.size : Int) ≤ 32 := by omega
        clear hl hcr hnm hL h32
        go_enter Tryd.func20, Tryd.ntmps20
        go_wp2_with (go_at_call 26; refine HL.out.mono ?_; rintro e w' ⟨rfl, rfl⟩)
        clear hs0
        go_loop [3] (fun i => ∃ k : Nat, k ≤ s.size ∧ i = .int .i64 k ∧ Hid (((lst s).take k).all L9.isP = true)) (fun i => s.size - (intOf i).toNat)
        case atStart => exact ⟨0, by omega, rfl, hid rfl⟩
        case round =>
          obtain ⟨k, hk, rfl, hz⟩ := hrel
          by_cases hlt : k < s.size
          · have hkl : k < (lst s).length := hlt
            obtain ⟨d, hd⟩ : ∃ d, d = s[k] := ⟨_, rfl⟩
            have hg : (lst s)[k]? = some d := by rw [hd, List.getElem?_eq_getElem hkl]; rfl
            have HG := hid hg
            have hsk : s[k] = d := hd.symm
            clear hd hg
            have HPD := hid (HP.out d)
            cases hp : L9.isP d
            · rw [hp] at HPD
              have hv := hid (show L9.nm (lst s) = false by
                rw [HNM.out]
                cases ha : (lst s).all L9.isP
                · rfl
                · have := List.all_eq_true.1 ha d (List.mem_of_getElem? HG.out); rw [hp] at this; cases this)
              clear hp
              go_wp2_with (go_at_call 27; refine HPD.out.mono ?_; rintro e w' ⟨rfl, rfl⟩)
              go_ret
              exact ⟨by rw [hv.out]; rfl, rfl⟩
            · rw [hp] at HPD
              have HZ := hid (show ((lst s).take (k + 1)).all L9.isP = true by rw [take_snoc HG.out, List.all_append, hz.out]; simp [hp])
              clear hp
              go_wp2_with (go_at_call 27; refine HPD.out.mono ?_; rintro e w' ⟨rfl, rfl⟩)
              go_round
              case rel => exact ⟨k + 1, by omega, by go_num, HZ⟩
              case measure => simp [intOf]; omega
          · obtain rfl : k = s.size := by omega
            have hv := hid (show L9.nm (lst s) = true by rw [HNM.out]; have := hz.out; rwa [List.take_of_length_le (by rw [HLE.out]; omega)] at this)
            go_wp2
            go_ret
            exact ⟨by rw [hv.out]; rfl, rfl⟩
end Go.Proofs.YtgckigolbajhoaaDoor

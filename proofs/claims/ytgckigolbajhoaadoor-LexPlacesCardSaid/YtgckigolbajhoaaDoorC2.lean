/- Contract: count. -/
import Derived.Test.YtgckigolbajhoaaDoorC1
namespace Go.Proofs.YtgckigolbajhoaaDoor
open Go.RowKit Go
set_option linter.unusedVariables false
set_option linter.unusedSimpArgs false
def inC (zs : List Int) (c : UInt8) : Bool := zs.contains (kl c)
set_option maxRecDepth 100000 in
set_option maxHeartbeats 4000000 in
theorem count_any (s : ByteArray) (b n c : Nat) (zs : List Int) (w : World) (hk : Konst w) (hs : s.size ≤ maxLen) (hn : n = zs.length) (hm : n ≤ 10) (h : ∀ i z, zs[i]? = some z → w.cell? ⟨b, i, none⟩ = some (.int .u8 z)) :
    Calls Tryd.prog 38 #[.string s, .slice (some ⟨b, 0, none⟩) n c] w fun e w' => e = .returned (.int .i64 ((lst s).takeWhile (inC zs)).length) ∧ w = w' := by
  have HC := hid (fun x => contains_any b n c zs x w hn hm h)
  have HK := hid (fun (ch : UInt8) => show Calls Tryd.prog 25 #[.int .u8 ch.toNat] w fun e w' => e = .returned (.int .u8 (kl ch)) ∧ w = w' from classOf_any ch.toNat w hk (u8_lt ch))
  have HS := hid hs
  clear h hn hk hs
  go_enter Tryd.func38, Tryd.ntmps38
  go_wp2
  go_loop [4] (fun i => ∃ k : Nat, k ≤ s.size ∧ i = .int .i64 k ∧ Hid (((lst s).takeWhile (inC zs)).length = k + (((lst s).drop k).takeWhile (inC zs)).length)) (fun i => s.size - (intOf i).toNat)
  case atStart => exact ⟨0, by omega, rfl, hid (by simp)⟩
  case round =>
    obtain ⟨k, hk, rfl, hz⟩ := hrel
    by_cases hlt : k < s.size
    · obtain ⟨ch, hch⟩ : ∃ ch, ch = s[k] := ⟨_, rfl⟩
      have hdr := hid (show (lst s).drop k = ch :: (lst s).drop (k + 1) by
        rw [hch, List.drop_eq_getElem_cons (by simpa using hlt)]
        rfl)
      have HCH := hid hch
      clear hch
      by_cases hx : inC zs ch = true
      · have hv := hid (show ((lst s).takeWhile (inC zs)).length = (k + 1) + (((lst s).drop (k + 1)).takeWhile (inC zs)).length by rw [hz.out, hdr.out, L9.tw_cons hx, List.length_cons]; omega)
        have HC2 := hid (HC.out (kl ch))
        rw [show zs.contains (kl ch) = true from hx] at HC2
        have hkm : (k : Int) < 9223372036854775807 := by have := HS.out; unfold maxLen at this; omega
        clear hx
        go_wp2_with fail
        rw [← HCH.out]
        refine (HK.out ch).mono ?_
        rintro e w' ⟨rfl, rfl⟩
        go_wp2_with fail
        refine HC2.out.mono ?_
        rintro e w' ⟨rfl, rfl⟩
        go_wp2
        go_round
        case rel => exact ⟨k + 1, by omega, by go_num, hv⟩
        case measure => simp [intOf]; omega
      · have hv := hid (show ((lst s).takeWhile (inC zs)).length = k by rw [hz.out, hdr.out]; simp [hx])
        have HC2 := hid (HC.out (kl ch))
        rw [show zs.contains (kl ch) = false from by simpa [inC] using hx] at HC2
        clear hx
        go_wp2_with fail
        rw [← HCH.out]
        refine (HK.out ch).mono ?_
        rintro e w' ⟨rfl, rfl⟩
        go_wp2_with fail
        refine HC2.out.mono ?_
        rintro e w' ⟨rfl, rfl⟩
        go_wp2
        go_ret
        exact ⟨by rw [hv.out]; rfl, rfl⟩
    · have hv := hid (show ((lst s).takeWhile (inC zs)).length = k by
        have : (lst s).length = s.size := rfl
        rw [hz.out, show k = (lst s).length by omega, List.drop_length]; rfl)
      go_wp2
      go_ret
      exact ⟨by rw [hv.out]; rfl, rfl⟩
end Go.Proofs.YtgckigolbajhoaaDoor

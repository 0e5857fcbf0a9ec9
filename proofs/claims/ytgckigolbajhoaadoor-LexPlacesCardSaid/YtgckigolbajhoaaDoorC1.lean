/- Contracts: slices.Index and Contains over classes. -/
import Derived.Test.YtgckigolbajhoaaDoorC
namespace Go.Proofs.YtgckigolbajhoaaDoor
open Go.RowKit Go
set_option linter.unusedVariables false
set_option linter.unusedSimpArgs false
def ix (x : Int) : List Int → Nat → Int
  | [], _ => -1
  | z :: r, i => if x = z then i else ix x r (i + 1)
theorem ix_ge (x : Int) : ∀ (l : List Int) (i : Nat), decide (0 ≤ ix x l i) = l.contains x
  | [], i => by simp [ix]
  | z :: r, i => by
    unfold ix
    by_cases h : x = z
    · rw [if_pos h]; simp [h]
    · rw [if_neg h, ix_ge x r (i + 1)]
      rw [List.contains_cons]
      simp [h]
set_option maxRecDepth 100000 in
set_option maxHeartbeats 4000000 in
theorem index_any (b n c : Nat) (zs : List Int) (x : Int) (w : World) (hn : n = zs.length) (hm : n ≤ 10) (h : ∀ i z, zs[i]? = some z → w.cell? ⟨b, i, none⟩ = some (.int .u8 z)) :
    Calls Tryd.prog 58 #[.slice (some ⟨b, 0, none⟩) n c, .int .u8 x] w fun e w' => e = .returned (.int .i64 (ix x zs 0)) ∧ w = w' := by
  have HR := hid h; have HN := hid hn
  clear h hn
  go_enter Tryd.func58, Tryd.ntmps58
  go_wp2
  go_loop [8] (fun i => ∃ k : Nat, k ≤ n ∧ i = .int .i64 k ∧ Hid (ix x zs 0 = ix x (zs.drop k) k)) (fun i => n - (intOf i).toNat)
  case atStart => exact ⟨0, by omega, rfl, hid rfl⟩
  case round =>
    obtain ⟨k, hk, rfl, hz⟩ := hrel
    by_cases hlt : k < n
    · obtain ⟨z, hi⟩ := get_lt (l := zs) (i := k) (by rw [← HN.out]; exact hlt)
      have hc := HR.out k z hi
      have hdr := hid (show ix x zs 0 = ix x (z :: zs.drop (k + 1)) k by
        rw [hz.out]
        obtain ⟨h1, h2⟩ := List.getElem?_eq_some_iff.1 hi
        rw [List.drop_eq_getElem_cons h1, h2])
      clear hi
      by_cases hx : x = z
      · have hv := hid (show ix x zs 0 = k by rw [hdr.out]; exact if_pos hx)
        have hb1 : (x == z) = true := by simpa using hx
        clear hx
        go_wp2
        go_ret
        exact ⟨by rw [hv.out]; rfl, rfl⟩
      · have hv := hid (show ix x zs 0 = ix x (zs.drop (k + 1)) (k + 1) by rw [hdr.out]; exact if_neg hx)
        have hb1 : (x == z) = false := by simpa using hx
        clear hx
        go_wp2
        go_round
        case rel => exact ⟨k + 1, by omega, by go_num, hv⟩
        case measure => simp [intOf]; omega
    · have hv := hid (show ix x zs 0 = -1 by rw [hz.out, show k = zs.length by have := HN.out; omega, List.drop_length]; rfl)
      go_wp2
      go_ret
      exact ⟨by rw [hv.out]; rfl, rfl⟩
theorem contains_any (b n c : Nat) (zs : List Int) (x : Int) (w : World) (hn : n = zs.length) (hm : n ≤ 10) (h : ∀ i z, zs[i]? = some z → w.cell? ⟨b, i, none⟩ = some (.int .u8 z)) :
    Calls Tryd.prog 50 #[.slice (some ⟨b, 0, none⟩) n c, .int .u8 x] w fun e w' => e = .returned (.bool (zs.contains x)) ∧ w = w' := by
  have HC := hid (fun w h => index_any b n c zs x w hn hm h)
  have hge := hid (ix_ge x zs 0)
  have HR := hid h
  clear h hn
  go_enter Tryd.func50, Tryd.ntmps50
  go_wp2_with (go_at_call 58; refine (HC.out _ HR.out).mono ?_; rintro e w' ⟨rfl, rfl⟩)
  go_ret
  exact ⟨by rw [← hge.out]; rfl, rfl⟩
end Go.Proofs.YtgckigolbajhoaaDoor

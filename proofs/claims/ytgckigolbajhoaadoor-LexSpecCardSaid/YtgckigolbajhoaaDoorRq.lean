/- Contract: the reference's number. -/
import Derived.Test.YtgckigolbajhoaaDoorRa
namespace Go.Proofs.YtgckigolbajhoaaDoor
open Go.RowKit Go
set_option linter.unusedVariables false
set_option linter.unusedSimpArgs false
def nbad (t : List UInt8) : Bool := decide ((t.head? = some 48 ∧ 1 < t.length) ∨ 1099511627776 < L9.vn t)
set_option maxRecDepth 100000 in
set_option maxHeartbeats 8000000 in
theorem number_any (s : ByteArray) (w : World) (h0 : 0 < s.size) (hs : s.size ≤ 70000) (hd : ∀ c ∈ lst s, L9.isD c = true) :
    Calls Tryd.prog 29 #[.string s] w fun e w' => (∃ n : Int, e = .returned (.tuple #[.int .i64 n, .bool (!nbad (lst s))]) ∧ (nbad (lst s) = false → n = L9.vn (lst s))) ∧ Below w.heap.size w w' := by
  have hl : (lst s).length = s.size := rfl
  have HALL := hid hd; have HL := hid hl
  obtain ⟨c, r, hcr, hc⟩ := lst_head h0
  have HHD := hid (show (lst s).head? = some c by rw [hcr]; rfl)
  have hs0 : s[0] = c := hc.symm
  have HS0 := hid hs0
  clear hd hl hcr hc hs0
  go_enter Tryd.func29, Tryd.ntmps29
  go_wp2
  go_loop [4, 5] (fun n i => ∃ k : Nat, k ≤ s.size ∧ i = .int .i64 k ∧ n = .int .i64 (L9.vn ((lst s).take k)) ∧ Hid (L9.vn ((lst s).take k) ≤ 1099511627776)) (fun _ i => s.size - (intOf i).toNat)
  case atStart => exact ⟨0, by omega, rfl, by rw [List.take_zero]; rfl, hid (by rw [List.take_zero]; decide)⟩
  case round =>
    obtain ⟨k, hk, rfl, rfl, hv⟩ := hrel
    by_cases hlt : k < s.size
    · have hkl : k < (lst s).length := hlt
      obtain ⟨d, hd⟩ : ∃ d, d = s[k] := ⟨_, rfl⟩
      have hdk : (lst s)[k]? = some d := by rw [hd, List.getElem?_eq_getElem hkl]; rfl
      have hsk : s[k] = d := hd.symm
      have hstep := hid (vn_step hdk)
      have hdd := HALL.out d (List.mem_of_getElem? hdk)
      have hw8 := u8w d hdd
      have hd9 := L9.dg_lt d hdd
      obtain ⟨x, hx⟩ : ∃ x, x = d.toNat - 48 := ⟨_, rfl⟩
      rw [← hx] at hw8 hd9 hstep
      obtain ⟨n, hn⟩ : ∃ n, n = L9.vn ((lst s).take k) := ⟨_, rfl⟩
      rw [← hn] at hv hstep ⊢
      have hnb := hv.out
      have hw10 := wrap_id (x := 10 * (n : Int)) (by omega) (by omega)
      have hwa := wrap_id (x := 10 * (n : Int) + x) (by omega) (by omega)
      clear hx hn hdd hdk hd
      by_cases hbig : 1099511627776 < 10 * n + x
      · have HB := hid (show nbad (lst s) = true from decide_eq_true (.inr (by have := vn_take_le (lst s) (k + 1); rw [hstep.out] at this; omega)))
        have hb3 : (1099511627776 : Int) < 10 * (n : Int) + x := by omega
        clear hbig
        go_wp2
        refine bodyPost_ret (by simp [results, Tryd.results29, go_sem]; rfl) rfl ?_
        exact ⟨⟨0, by rw [HB.out]; rfl, fun h => by rw [HB.out] at h; cases h⟩, Below.refl _ _⟩
      · have hb3 : ¬ (1099511627776 : Int) < 10 * (n : Int) + x := by omega
        have HS2 := hid (show L9.vn ((lst s).take (k + 1)) ≤ 1099511627776 by rw [hstep.out]; omega)
        have HN2 := hid (show (L9.vn ((lst s).take (k + 1)) : Int) = 10 * (n : Int) + x by rw [hstep.out]; omega)
        clear hbig
        go_wp2
        go_round
        case rel => exact ⟨k + 1, by omega, by go_num, by rw [HN2.out], HS2⟩
        case measure => simp [intOf]; omega
    · obtain rfl : k = s.size := by omega
      have hvb := hv.out
      rw [show (lst s).take s.size = lst s from List.take_of_length_le (by rw [HL.out]; omega)] at hvb ⊢
      have hnb : nbad (lst s) = decide (c.toNat = 48 ∧ 1 < s.size) := by
        unfold nbad
        rw [HHD.out, HL.out]
        have h2 : (some c = some (48 : UInt8)) ↔ c.toNat = 48 := by
          constructor
          · intro h; cases h; rfl
          · intro h; rw [show c = 48 from UInt8.toNat_inj.1 h]
        simp only [h2]
        apply decide_eq_decide.2
        constructor
        · rintro (h | h)
          · exact h
          · omega
        · exact .inl
      obtain ⟨n, hn⟩ : ∃ n, n = L9.vn (lst s) := ⟨_, rfl⟩
      have HN := hid hn
      rw [← hn]
      obtain ⟨z, hz⟩ : ∃ z, z = s.size := ⟨_, rfl⟩
      have hs0 := HS0.out
      clear hn hvb hv
      by_cases h1 : s.size = 1
      · have HB := hid (show nbad (lst s) = false by rw [hnb]; exact decide_eq_false (by omega))
        have hb : ((s.size : Int) == 1) = true := by simp [h1]
        clear hnb h1 hz
        go_wp2_with fail
        go_region
        go_wp2
        refine bodyPost_ret (by simp [results, Tryd.results29, go_sem]; rfl) rfl ?_
        exact ⟨⟨n, by rw [HB.out]; rfl, fun _ => by rw [HN.out]⟩, (Below.refl _ _).drew⟩
      · have hb : ((s.size : Int) == 1) = false := by simp; omega
        by_cases h48 : c.toNat = 48
        · have HB := hid (show nbad (lst s) = true by rw [hnb]; exact decide_eq_true ⟨h48, by omega⟩)
          have hc1 : (((c.toNat : Nat) : Int) == 48) = true := by simp [h48]
          have hc2 : (((c.toNat : Nat) : Int) != 48) = false := by simp [h48]
          clear hnb h1 hz h48
          go_wp2_with fail
          go_region
          go_wp2
          refine bodyPost_ret (by simp [results, Tryd.results29, go_sem]; rfl) rfl ?_
          exact ⟨⟨n, by rw [HB.out]; rfl, fun _ => by rw [HN.out]⟩, (Below.refl _ _).drew⟩
        · have HB := hid (show nbad (lst s) = false by rw [hnb]; exact decide_eq_false (fun h => h48 h.1))
          have hc1 : (((c.toNat : Nat) : Int) == 48) = false := by simp; omega
          have hc2 : (((c.toNat : Nat) : Int) != 48) = true := by simp; omega
          clear hnb h1 hz h48
          go_wp2_with fail
          go_region
          go_wp2
          refine bodyPost_ret (by simp [results, Tryd.results29, go_sem]; rfl) rfl ?_
          exact ⟨⟨n, by rw [HB.out]; rfl, fun _ => by rw [HN.out]⟩, (Below.refl _ _).drew⟩
end Go.Proofs.YtgckigolbajhoaaDoor

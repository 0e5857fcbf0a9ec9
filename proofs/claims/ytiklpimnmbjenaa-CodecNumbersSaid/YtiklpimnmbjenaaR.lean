/- Contracts of the functions of package codec and lemmas for them: what each call returns and what becomes of memory, for every input within the bounds that each theorem states. -/
import Derived.Test.YtiklpimnmbjenaaQ
namespace Go.Proofs.Ytiklpimnmbjenaa
open Go.RowKit Go
set_option linter.unusedVariables false
set_option linter.unusedSimpArgs false

theorem rn_num : ∀ (u s a : Nat) (r : List Int), u * 2 ^ s < 18446744073709551616 → (s = 0 ∨ 0 < u) → a < 2 ^ s → rn s a (num u ++ r) = some (a + u * 2 ^ s, r) := by
  intro u
  induction u using Nat.strongRecOn with
  | ind u ih =>
    intro s a r h h0 ha
    by_cases hu : u < 128
    · rw [num_lt hu, List.singleton_append, rn]
      simp only [Int.toNat_natCast]
      rw [Nat.mod_eq_of_lt hu, if_neg (by omega), if_neg (by omega), if_neg (by omega)]
    · rw [num_ge hu, List.cons_append, rn]
      simp only [Int.toNat_natCast]
      have e : (u % 128 + 128) % 128 = u % 128 := by omega
      have hle : u % 128 * 2 ^ s ≤ u * 2 ^ s := Nat.mul_le_mul_right _ (Nat.mod_le _ _)
      have hsum : u / 128 * 2 ^ (s + 7) + u % 128 * 2 ^ s = u * 2 ^ s := by
        rw [Nat.pow_add, show (2 : Nat) ^ 7 = 128 from rfl, Nat.mul_comm (2 ^ s) 128, ← Nat.mul_assoc, ← Nat.add_mul]
        congr 1; omega
      have hm : u % 128 * 2 ^ s ≤ 127 * 2 ^ s := Nat.mul_le_mul_right _ (by omega)
      rw [e, if_neg (by omega), if_pos (by omega), ih (u / 128) (by omega) (s + 7) _ r (by omega) (by omega) (by rw [Nat.pow_add]; omega)]
      congr 2; omega

theorem dec_int (a : Int) (h : wfI a) : decB (1 :: num (uns a)) = some (T.mk 1 a ⟨#[]⟩ []) := by
  unfold decB
  have hn := rn_num (uns a) 0 0 [] (by simpa using uns_lt h.1 h.2) (by omega) (by omega)
  rw [pv_one]
  simp at hn
  rw [hn]
  simp [sig_uns]

theorem num_bytes (u : Nat) : ∀ x ∈ num u, 0 ≤ x ∧ x < 256 := by
  induction u using Nat.strongRecOn with
  | ind u ih =>
    intro x hx
    by_cases hu : u < 128
    · rw [num_lt hu] at hx; simp at hx; omega
    · rw [num_ge hu] at hx
      rcases List.mem_cons.1 hx with rfl | hx
      · omega
      · exact ih _ (by omega) x hx

theorem enc_i (a : Int) : enc (T.mk 1 a ⟨#[]⟩ []) = 1 :: num (uns a) := by rw [enc_mk]; simp
theorem dp_i (a : Int) : dp (T.mk 1 a ⟨#[]⟩ []) = some 0 := by rw [dp_mk]; simp [cln]
theorem hgt_i (a : Int) : hgt (T.mk 1 a ⟨#[]⟩ []) ≤ 1000 := by rw [hgt_mk, hgts]; omega

/-- the size of a number's encoding -/
def sz (a : Int) : Nat := (num (uns a)).length + 1
theorem sz_bd (a : Int) (h : wfI a) : 2 ≤ sz a ∧ sz a ≤ 11 := by unfold sz; have := num_pos (uns a); have := num_ten (uns_lt h.1 h.2); omega

theorem Size_i (a : Int) (w : World) (h : wfI a) : Calls Try.prog 10 #[VI a] w fun e w' => e = .returned (.tuple #[.int .i64 (sz a), .int .i64 0]) ∧ Below w.heap.size w w' := by
  have hs := sz_bd a h
  have := Size_ok (T.mk 1 a ⟨#[]⟩ []) w w.heap.size (VI a) (at_leaf 1 a ⟨#[]⟩ (wfI_small _ (by omega)) h (Nat.zero_le _)) (Nat.le_refl _) (hgt_i a) (by rw [enc_i]; unfold sz at hs; simp; omega) (by rw [dp_i]; rfl)
  rw [enc_i] at this
  exact this
theorem Encode_i (a : Int) (w : World) (h : wfI a) : Calls Try.prog 8 #[VI a] w fun e w' => ∃ g, e = .returned (.tuple #[.slice (some ⟨g, 0, none⟩) (sz a) (sz a), .int .i64 0]) ∧ Row w' g (sz a) (sz a) (1 :: num (uns a)) ∧ Below w.heap.size w w' := by
  have hs := sz_bd a h
  have := Encode_ok (T.mk 1 a ⟨#[]⟩ []) w w.heap.size (VI a) (at_leaf 1 a ⟨#[]⟩ (wfI_small _ (by omega)) h (Nat.zero_le _)) (Nat.le_refl _) (hgt_i a) (by rw [enc_i]; unfold sz at hs; simp; omega) (by rw [dp_i]; rfl)
  rw [enc_i] at this
  exact this.mono fun e w' ⟨g, h1, h2, _, h3⟩ => ⟨g, h1, h2, h3⟩
theorem Decode_i (a : Int) (v : Value) (w : World) (h : wfI a) (hv : InB w v (1 :: num (uns a))) : Calls Try.prog 14 #[v] w fun e w' => ∃ p cap, e = .returned (.tuple #[.agg #[.int .i64 1, .int .i64 a, .string ⟨#[]⟩, .slice p 0 cap], .int .i64 0]) ∧ Below w.heap.size w w' := by
  have hs := sz_bd a h
  unfold sz at hs
  refine (Decode_any _ v w hv (by simp; omega)).mono fun e w' ⟨hb, ho⟩ => ?_
  rw [dec_int a h] at ho
  obtain ⟨v', rfl, ha⟩ := ho
  rw [AtP] at ha
  obtain ⟨_, _, p, cap, rfl, _⟩ := ha
  exact ⟨p, cap, rfl, hb⟩

set_option maxRecDepth 100000 in
set_option maxHeartbeats 2000000 in
theorem numbers_any (a b : Int) (ha : wfI a) (hb : wfI b) (w : World) : Calls Try.prog 5 #[.int .i64 a, .int .i64 b] w fun e w' => e = .returned (.bool true) ∧ Below w.heap.size w w' := by
  obtain ⟨a1, a2⟩ := sz_bd a ha
  obtain ⟨b1, b2⟩ := sz_bd b hb
  have hm1 : 0 ≤ a → a ≤ b → sz a ≤ sz b := by
    intro h1 h2; unfold sz; have := num_mono (uns b) (uns a) (by unfold uns; split <;> split <;> omega); omega
  have hm2 : a < 0 → b ≤ a → sz a ≤ sz b := by
    intro h1 h2; unfold sz; have := num_mono (uns b) (uns a) (by unfold uns; split <;> split <;> omega); omega
  obtain ⟨m, hm⟩ : ∃ m, m = sz a := ⟨_, rfl⟩
  obtain ⟨n, hn⟩ : ∃ n, n = sz b := ⟨_, rfl⟩
  rw [← hm] at a1 a2 hm1 hm2
  rw [← hn] at b1 b2 hm1 hm2
  have HM := hid hm.symm; have HN := hid hn.symm; have HA := hid ha; have HB := hid hb
  clear hm hn ha hb
  have hbad : ¬ ((0 ≤ a ∧ a ≤ b ∧ n < m) ∨ (a < 0 ∧ b ≤ a ∧ n < m)) := by omega
  clear hm1 hm2
  go_enter Try.func5, Try.ntmps5
  go_wp2_with fail
  refine (sane_any _).mono ?_
  rintro e w1 ⟨rfl, hb1⟩
  have B1 := hid hb1; clear hb1
  go_wp2_with fail
  refine (int_any _ _).mono ?_
  rintro e w2 ⟨rfl, hb2⟩
  have B2 := hid (below_tr B1.out hb2); clear hb2
  go_wp2_with fail
  refine (Size_i a _ HA.out).mono ?_
  rintro e w3 ⟨rfl, hb3⟩
  rw [HM.out]
  have B3 := hid (below_tr B2.out hb3); clear hb3
  go_wp2_with fail
  refine (int_any _ _).mono ?_
  rintro e w4 ⟨rfl, hb4⟩
  have B4 := hid (below_tr B3.out hb4); clear hb4
  go_wp2_with fail
  refine (Size_i b _ HB.out).mono ?_
  rintro e w5 ⟨rfl, hb5⟩
  rw [HN.out]
  have B5 := hid (below_tr B4.out hb5); clear hb5
  go_wp2_with fail
  all_goals
    refine (int_any _ _).mono ?_
    rintro e w6 ⟨rfl, hb6⟩
    have B6 := hid (below_tr B5.out hb6); clear hb6
    go_wp2_with fail
    refine (Encode_i a _ HA.out).mono ?_
    rintro e w7 ⟨g, rfl, hr7, hb7⟩
    have B7 := hid (below_tr B6.out hb7); have R7 := hid hr7; clear hb7 hr7
    go_wp2_with fail
    refine (Decode_i a _ _ HA.out (row_in R7.out (by unfold sz; simp) (by intro x hx; rcases List.mem_cons.1 hx with rfl | hx; exact ⟨by omega, by omega⟩; exact num_bytes _ x hx))).mono ?_
    rintro e w8 ⟨p, cap, rfl, hb8⟩
    have B8 := hid (below_tr B7.out hb8); clear hb8
    go_wp2
    go_ret
    exact ⟨by simp, below_tr B8.out (below_al _ _)⟩
end Go.Proofs.Ytiklpimnmbjenaa

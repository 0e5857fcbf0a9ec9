/- What is read is what was written: reading, then writing, leads back to the bytes. -/
import Derived.Test.YtiklpimnmbjenaaParse
namespace Go.Proofs.Ytiklpimnmbjenaa
set_option linter.unusedVariables false
set_option linter.unusedSimpArgs false
theorem rn_sound : ∀ (l : List Int) (s a u : Nat) (r : List Int), (∀ c ∈ l, 0 ≤ c ∧ c < 256) → rn s a l = some (u, r) → ∃ v, u = a + v * 2 ^ s ∧ l = num v ++ r ∧ (0 < s → v ≠ 0) := by
  intro l
  induction l with
  | nil => intro s a u r _ h; rw [rn] at h; cases h
  | cons c t ih =>
    intro s a u r hb h
    have hc := hb c (by simp)
    rw [rn] at h
    split at h
    · cases h
    · split at h
      · rename_i h1 h2
        obtain ⟨v, h3, h4, h5⟩ := ih _ _ _ _ (fun x hx => hb x (by simp [hx])) h
        have hv := h5 (by omega)
        refine ⟨c.toNat % 128 + 128 * v, ?_, ?_, fun _ => by omega⟩
        · rw [h3, Nat.add_mul, Nat.pow_add, Nat.add_assoc]
          congr 2
          rw [show (2 : Nat) ^ 7 = 128 from rfl, ← Nat.mul_assoc, Nat.mul_right_comm, Nat.mul_comm v 128, Nat.mul_right_comm]
        · rw [num_ge (by omega), h4, List.cons_append]
          congr 1
          · omega
          · congr 2; omega
      · split at h
        · cases h
        · rename_i h1 h2 h3
          simp at h
          obtain ⟨rfl, rfl⟩ := h
          have e : c.toNat % 128 = c.toNat := by omega
          refine ⟨c.toNat, by rw [e], ?_, fun hs => by omega⟩
          rw [num_lt (by omega), List.singleton_append]
          congr 1; omega
theorem rn_back (l : List Int) (u : Nat) (r : List Int) (hb : ∀ c ∈ l, 0 ≤ c ∧ c < 256) (h : rn 0 0 l = some (u, r)) : l = num u ++ r := by
  obtain ⟨v, h1, h2, _⟩ := rn_sound l 0 0 u r hb h
  have : u = v := by rw [h1]; simp
  rw [this]; exact h2
theorem uns_sig (u : Nat) : uns (sig u) = u := by
  unfold uns sig
  split <;> split <;> omega
theorem bytes_sub {l x y : List Int} (h : l = x ++ y) (hb : ∀ c ∈ l, 0 ≤ c ∧ c < 256) : ∀ c ∈ y, 0 ≤ c ∧ c < 256 := fun c hc => hb c (by rw [h]; simp [hc])
theorem dps_mono : ∀ (l : List T) (d m k : Nat), (∀ t ∈ l, ∃ k, dp t = some k ∧ k ≤ d) → m ≤ d → ∃ k, dps l m = some k ∧ k ≤ d := by
  intro l
  induction l with
  | nil => intro d m k _ h; exact ⟨m, by rw [dps], h⟩
  | cons t r ih =>
    intro d m k h hm
    obtain ⟨j, hj, hjd⟩ := h t (by simp)
    obtain ⟨k', h1, h2⟩ := ih d (max m j) 0 (fun t ht => h t (by simp [ht])) (by omega)
    exact ⟨k', by rw [dps_cons, hj]; exact h1, h2⟩
theorem pl_sound {f : List Int → Option (T × List Int)} {d : Nat} (hf : ∀ l t r, (∀ c ∈ l, 0 ≤ c ∧ c < 256) → f l = some (t, r) → l = enc t ++ r ∧ ∃ k, dp t = some k ∧ k ≤ d) :
    ∀ n l ts r, (∀ c ∈ l, 0 ≤ c ∧ c < 256) → pl f n l = some (ts, r) → l = encs ts ++ r ∧ ts.length = n ∧ ∀ t ∈ ts, ∃ k, dp t = some k ∧ k ≤ d := by
  intro n
  induction n with
  | zero =>
    intro l ts r _ h
    rw [pl] at h
    simp at h
    obtain ⟨rfl, rfl⟩ := h
    exact ⟨by simp [encs], rfl, by simp⟩
  | succ n ih =>
    intro l ts r hb h
    rw [pl] at h
    cases h1 : f l with
    | none => rw [h1] at h; cases h
    | some x =>
      obtain ⟨t, r1⟩ := x
      rw [h1] at h
      simp only at h
      obtain ⟨e1, hk⟩ := hf l t r1 hb h1
      cases h2 : pl f n r1 with
      | none => rw [h2] at h; cases h
      | some y =>
        obtain ⟨ts', r2⟩ := y
        rw [h2] at h
        simp at h
        obtain ⟨rfl, rfl⟩ := h
        obtain ⟨e2, e3, e4⟩ := ih r1 ts' r2 (bytes_sub e1 hb) h2
        refine ⟨by rw [encs_cons, List.append_assoc, ← e2]; exact e1, by simp [e3], ?_⟩
        intro t' ht'
        rcases List.mem_cons.1 ht' with rfl | ht'
        · exact hk
        · exact e4 t' ht'
theorem nums_back : ∀ (l : List Int), (∀ c ∈ l, 0 ≤ c ∧ c < 256) → (strOfNums l).data.toList.map (fun c => (c.toNat : Int)) = l := by
  intro l hb
  simp only [strOfNums, List.map_map]
  conv => rhs; rw [← List.map_id l]
  apply List.map_congr_left
  intro c hc
  have := hb c hc
  simp
  omega
theorem pv_sound_of (d : Nat) (h3 : ∀ l t r, (∀ c ∈ l, 0 ≤ c ∧ c < 256) → pv d (3 :: l) = some (t, r) → 3 :: l = enc t ++ r ∧ ∃ k, dp t = some k ∧ k ≤ d) :
    ∀ l t r, (∀ c ∈ l, 0 ≤ c ∧ c < 256) → pv d l = some (t, r) → l = enc t ++ r ∧ ∃ k, dp t = some k ∧ k ≤ d := by
  intro l t r hb h
  cases l with
  | nil => cases d <;> (rw [pv] at h; cases h)
  | cons c l =>
    have hb' : ∀ c ∈ l, 0 ≤ c ∧ c < 256 := fun x hx => hb x (by simp [hx])
    by_cases c1 : c = 1
    · subst c1
      rw [pv_one] at h
      cases hr : rn 0 0 l with
      | none => rw [hr] at h; cases h
      | some x =>
        obtain ⟨u, r1⟩ := x
        rw [hr] at h
        simp at h
        obtain ⟨rfl, rfl⟩ := h
        have e := rn_back l u r1 hb' hr
        refine ⟨?_, 0, ?_, Nat.zero_le _⟩
        · rw [enc_mk, if_pos rfl, uns_sig, List.cons_append, ← e]
        · rw [dp]; simp [cln]
    · by_cases c2 : c = 2
      · subst c2
        rw [pv_two] at h
        cases hr : rn 0 0 l with
        | none => rw [hr] at h; cases h
        | some x =>
          obtain ⟨n, r1⟩ := x
          rw [hr] at h
          simp only [Option.bind_some] at h
          split at h
          · cases h
          · rename_i hl
            simp at h
            obtain ⟨rfl, rfl⟩ := h
            have e := rn_back l n r1 hb' hr
            have hb1 := bytes_sub e hb'
            have hs : (strOfNums (r1.take n)).size = n := by
              have : (strOfNums (r1.take n)).size = (r1.take n).length := by simp [strOfNums, ByteArray.size]
              rw [this, List.length_take]; omega
            refine ⟨?_, 0, ?_, Nat.zero_le _⟩
            · rw [enc_mk, if_neg (by decide), if_pos rfl, hs, nums_back _ (fun c hc => hb1 c (List.mem_of_mem_take hc)), List.cons_append, List.append_assoc, List.take_append_drop, ← e]
            · rw [dp]; simp [cln]
      · by_cases c3 : c = 3
        · subst c3
          exact h3 l t r hb' h
        · rw [pv_else d c l c1 c2 c3] at h; cases h
theorem pv_sound (d : Nat) : ∀ l t r, (∀ c ∈ l, 0 ≤ c ∧ c < 256) → pv d l = some (t, r) → l = enc t ++ r ∧ ∃ k, dp t = some k ∧ k ≤ d := by
  induction d with
  | zero =>
    intro l t r hb h
    exact pv_sound_of 0 (fun _ _ _ _ h0 => by rw [pv_three0] at h0; cases h0) l t r hb h
  | succ d ih =>
    intro l t r hb h
    refine pv_sound_of (d + 1) (fun l' t' r' hb' h0 => ?_) l t r hb h
    rw [pv_three] at h0
    cases hr : rn 0 0 l' with
    | none => rw [hr] at h0; cases h0
    | some x =>
      obtain ⟨n, r1⟩ := x
      rw [hr] at h0
      simp only [Option.bind_some] at h0
      cases hp : pl (pv d) n r1 with
      | none => rw [hp] at h0; cases h0
      | some y =>
        obtain ⟨ts, r2⟩ := y
        rw [hp] at h0
        simp at h0
        obtain ⟨rfl, rfl⟩ := h0
        have e := rn_back l' n r1 hb' hr
        obtain ⟨e1, e2, e3⟩ := pl_sound ih n r1 ts r2 (bytes_sub e hb') hp
        obtain ⟨k, h1, h2⟩ := dps_mono ts d 0 0 e3 (Nat.zero_le _)
        refine ⟨?_, k + 1, ?_, by omega⟩
        · rw [enc_mk, if_neg (by decide), if_neg (by decide), e2, List.cons_append, List.append_assoc, ← e1, ← e]
        · rw [dp]; simp [cln, h1]
end Go.Proofs.Ytiklpimnmbjenaa

/- Contracts of the functions of package codec and lemmas for them: what each call returns and what becomes of memory, for every input within the bounds that each theorem states. -/
import Derived.Test.YtiklpimnmbjenaaO
namespace Go.Proofs.Ytiklpimnmbjenaa
open Go.RowKit Go
set_option linter.unusedVariables false
set_option linter.unusedSimpArgs false

theorem at_leaf {w : World} {P : Nat → Prop} (k n : Int) (s : ByteArray) (hk : wfI k) (hn : wfI n) (hs : s.size ≤ maxLen) : AtP w P (T.mk k n s []) (.agg #[.int .i64 k, .int .i64 n, .string s, .slice none 0 0]) := by
  rw [AtP]
  exact ⟨⟨hk, hn⟩, hs, none, 0, rfl, by simp, by simp, 0, 0, by simp, by simp⟩
theorem wfI_small (n : Int) (h : -1000000 ≤ n ∧ n ≤ 1000000) : wfI n := by unfold wfI; omega

theorem list_any (p : Option Addr) (n c : Nat) (w : World) :
    Calls Try.prog 18 #[.slice p n c] w fun e w' => e = .returned (VL p n c) ∧ Below w.heap.size w w' := by
  go_enter Try.func18, Try.ntmps18
  go_wp2
  exact bodyPost_ret (v := VL p n c) (by simp [results, Try.results18, go_sem]) rfl ⟨rfl, (Below.refl _ _).alloc (Nat.le_refl _) _⟩
theorem text_any (s : ByteArray) (w : World) :
    Calls Try.prog 19 #[.string s] w fun e w' => e = .returned (VT s) ∧ Below w.heap.size w w' := by
  go_enter Try.func19, Try.ntmps19
  go_wp2
  exact bodyPost_ret (v := VT s) (by simp [results, Try.results19, go_sem]) rfl ⟨rfl, (Below.refl _ _).alloc (Nat.le_refl _) _⟩

/-- the bytes that Encode has made, as what Decode reads -/
theorem row_in {w : World} {g n cap : Nat} {l : List Int} (h : Row w g n cap l) (hn : l.length = n) (hby : ∀ x ∈ l, 0 ≤ x ∧ x < 256) : InB w (.slice (some ⟨g, 0, none⟩) n cap) l := by
  have hlt := row_lt h
  have hnc : n ≤ cap := by
    rcases h.2 with ⟨h, _⟩ | ⟨g', cap', cur, hv, _, _, h1, _⟩
    · simp at h
    · simp at hv; obtain ⟨_, rfl⟩ := hv; exact h1
  refine ⟨hby, some ⟨g, 0, none⟩, cap, by rw [hn], by omega, fun _ => ⟨g, 0, rfl, hlt, fun i u hi => ?_⟩⟩
  have := h.cellAt i (by have := (List.getElem?_eq_some_iff.1 hi).1; omega)
  rw [Nat.zero_add, this]
  simp [hi]

/-! The chapter's examples. -/

def t3 : T := T.mk 1 (-3) ⟨#[]⟩ []
def tL : T := T.mk 3 0 ⟨#[]⟩ [T.mk 1 100 ⟨#[]⟩ [], T.mk 2 0 ⟨#[97, 98]⟩ []]
theorem enc_t3 : enc t3 = [1, 5] := by
  unfold t3; rw [enc_mk]; simp [show uns (-3) = 5 from by decide, num_lt]
theorem dp_t3 : dp t3 = some 0 := by unfold t3; rw [dp_mk]; simp [cln]
theorem enc_tL : enc tL = [3, 2, 1, 200, 1, 2, 2, 97, 98] := by
  unfold tL
  rw [enc_mk]
  have h1 : enc (T.mk 1 100 ⟨#[]⟩ []) = [1, 200, 1] := by
    rw [enc_mk]; simp [show uns 100 = 200 from by decide]
    rw [num_ge (by omega), num_lt (by omega)]; rfl
  have h2 : enc (T.mk 2 0 ⟨#[97, 98]⟩ []) = [2, 2, 97, 98] := by
    rw [enc_mk]; simp [show (ByteArray.size ⟨#[97, 98]⟩) = 2 from rfl, num_lt]
  rw [encs_cons, encs_cons, h1, h2]
  simp [encs, num_lt]
theorem dp_tL : dp tL = some 1 := by
  unfold tL
  rw [dp_mk]
  have h1 : dp (T.mk 1 100 ⟨#[]⟩ []) = some 0 := by rw [dp_mk]; simp [cln]
  have h2 : dp (T.mk 2 0 ⟨#[97, 98]⟩ []) = some 0 := by rw [dp_mk]; simp [cln]
  rw [dps_cons, h1]
  simp only
  rw [dps_cons, h2]
  simp [cln, dps]
theorem hgt_t3 : hgt t3 ≤ 1000 := by unfold t3; rw [hgt_mk, hgts]; omega
theorem hgt_tL : hgt tL ≤ 1000 := by
  unfold tL
  rw [hgt_mk, hgts, hgts, hgts, hgt_mk, hgt_mk, hgts]; omega
theorem dec_tL : decB [3, 2, 1, 200, 1, 2, 2, 97, 98] = some tL := rfl
theorem dec_b1 : decB [] = none := rfl
theorem dec_b2 : decB [1, 128, 0] = none := rfl
theorem dec_b3 : decB [1, 5, 0] = none := rfl
theorem dec_b4 : decB [2, 3, 97] = none := rfl

theorem enc_3 (w : World) : Calls Try.prog 8 #[VI (-3)] w fun e w' => ∃ g, e = .returned (.tuple #[.slice (some ⟨g, 0, none⟩) 2 2, .int .i64 0]) ∧ Row w' g 2 2 [1, 5] ∧ w.heap.size ≤ g ∧ Below w.heap.size w w' := by
  have h := Encode_ok t3 w w.heap.size (VI (-3)) (at_leaf _ _ _ (wfI_small _ (by omega)) (wfI_small _ (by omega)) (Nat.zero_le _)) (Nat.le_refl _) hgt_t3 (by rw [enc_t3]; decide) (by rw [dp_t3]; rfl)
  rw [enc_t3] at h
  exact h

theorem at_tL {w : World} {h : Nat} (hh : h < w.heap.size) (c : Nat → Value) (h0 : w.cell? ⟨h, 0, none⟩ = some (.int .i64 1)) (h1 : w.cell? ⟨h, 1, none⟩ = some (.int .i64 100)) (h2 : w.cell? ⟨h, 2, none⟩ = some (.string ⟨#[]⟩)) (h3 : w.cell? ⟨h, 3, none⟩ = some (.slice none 0 0))
    (h4 : w.cell? ⟨h, 4, none⟩ = some (.int .i64 2)) (h5 : w.cell? ⟨h, 5, none⟩ = some (.int .i64 0)) (h6 : w.cell? ⟨h, 6, none⟩ = some (.string ⟨#[97, 98]⟩)) (h7 : w.cell? ⟨h, 7, none⟩ = some (.slice none 0 0)) : At w w.heap.size tL (VL (some ⟨h, 0, none⟩) 2 2) := by
  unfold At tL
  rw [AtP]
  refine ⟨⟨wfI_small _ (by omega), wfI_small _ (by omega)⟩, Nat.zero_le _, some ⟨h, 0, none⟩, 2, rfl, by simp, by omega, h, 0, fun _ => ⟨rfl, hh⟩, fun i hi => ?_⟩
  match i, hi with
  | 0, _ => exact ⟨_, _, _, _, at_leaf 1 100 ⟨#[]⟩ (wfI_small _ (by omega)) (wfI_small _ (by omega)) (Nat.zero_le _), h0, h1, h2, h3⟩
  | 1, _ => exact ⟨_, _, _, _, at_leaf 2 0 ⟨#[97, 98]⟩ (wfI_small _ (by omega)) (wfI_small _ (by omega)) (by decide), h4, h5, h6, h7⟩

theorem enc_L {w : World} {h : Nat} (ha : At w w.heap.size tL (VL (some ⟨h, 0, none⟩) 2 2)) : Calls Try.prog 8 #[VL (some ⟨h, 0, none⟩) 2 2] w fun e w' => ∃ g, e = .returned (.tuple #[.slice (some ⟨g, 0, none⟩) 9 9, .int .i64 0]) ∧ Row w' g 9 9 [3, 2, 1, 200, 1, 2, 2, 97, 98] ∧ w.heap.size ≤ g ∧ Below w.heap.size w w' := by
  have h := Encode_ok tL w w.heap.size _ ha (Nat.le_refl _) hgt_tL (by rw [enc_tL]; decide) (by rw [dp_tL]; rfl)
  rw [enc_tL] at h
  exact h
theorem size_L {w : World} {h : Nat} (ha : At w w.heap.size tL (VL (some ⟨h, 0, none⟩) 2 2)) : Calls Try.prog 10 #[VL (some ⟨h, 0, none⟩) 2 2] w fun e w' => e = .returned (.tuple #[.int .i64 9, .int .i64 0]) ∧ Below w.heap.size w w' := by
  have h := Size_ok tL w w.heap.size _ ha (Nat.le_refl _) hgt_tL (by rw [enc_tL]; decide) (by rw [dp_tL]; rfl)
  rw [enc_tL] at h
  exact h
theorem dec_L {w : World} {v : Value} (hv : InB w v [3, 2, 1, 200, 1, 2, 2, 97, 98]) : Calls Try.prog 14 #[v] w fun e w' => ∃ k n s p len cap, e = .returned (.tuple #[.agg #[.int .i64 k, .int .i64 n, .string s, .slice p len cap], .int .i64 0]) ∧
    At w' w'.heap.size tL (.agg #[.int .i64 k, .int .i64 n, .string s, .slice p len cap]) ∧ Below w.heap.size w w' := by
  refine (Decode_any _ v w hv (by decide)).mono fun e w' h => ?_
  obtain ⟨hb, h⟩ := h
  rw [dec_tL] at h
  obtain ⟨v', he, ha⟩ := h
  obtain ⟨k, n, s, p, len, cap, rfl⟩ := atp_agg ha
  exact ⟨k, n, s, p, len, cap, he, AtP.kept (fun k hk => ⟨hk.2, rfl⟩) ha, hb⟩
theorem dec_bad {w : World} {v : Value} {l : List Int} (hv : InB w v l) (hl : l.length ≤ 100) (hd : decB l = none) : Calls Try.prog 14 #[v] w fun e w' => e = .returned (.tuple #[ZV, .int .i64 10]) ∧ Below w.heap.size w w' := by
  refine (Decode_any l v w hv (by omega)).mono fun e w' h => ?_
  obtain ⟨hb, h⟩ := h
  rw [hd] at h
  exact ⟨h, hb⟩
theorem same_L {w : World} {a b : Value} (ha : At w w.heap.size tL a) (hb : At w w.heap.size tL b) : Calls Try.prog 20 #[a, b] w fun e w' => e = .returned (.bool true) ∧ Below w.heap.size w w' := by
  have h := same_any tL tL w w.heap.size a b ha hb (Nat.le_refl _)
  rw [show same tL tL = true from by unfold tL; rw [same_mk]; simp; rw [sames_cons, sames_cons, same_mk, same_mk]; simp [sames_nil]] at h
  exact h
theorem same_no (w : World) : Calls Try.prog 20 #[VT ⟨#[]⟩, VL none 0 0] w fun e w' => e = .returned (.bool false) ∧ Below w.heap.size w w' := by
  have h := same_any (T.mk 2 0 ⟨#[]⟩ []) (T.mk 3 0 ⟨#[]⟩ []) w w.heap.size _ _ (at_leaf 2 0 ⟨#[]⟩ (wfI_small _ (by omega)) (wfI_small _ (by omega)) (Nat.zero_le _)) (at_leaf 3 0 ⟨#[]⟩ (wfI_small _ (by omega)) (wfI_small _ (by omega)) (Nat.zero_le _)) (Nat.le_refl _)
  rw [show same (T.mk 2 0 ⟨#[]⟩ []) (T.mk 3 0 ⟨#[]⟩ []) = false from by rw [same_mk]; simp] at h
  exact h
theorem check_0 (w : World) : Calls Try.prog 12 #[ZV] w fun e w' => e = .returned (.int .i64 1) ∧ Below w.heap.size w w' := by
  have h := check_any (T.mk 0 0 ⟨#[]⟩ []) w w.heap.size _ (at_leaf 0 0 ⟨#[]⟩ (wfI_small _ (by omega)) (wfI_small _ (by omega)) (Nat.zero_le _)) (Nat.le_refl _) (by rw [hgt_mk, hgts]; omega)
  rw [show dp (T.mk 0 0 ⟨#[]⟩ []) = none from by rw [dp_mk]; simp [cln]] at h
  exact h

end Go.Proofs.Ytiklpimnmbjenaa

/- Contracts of the functions of package codec and lemmas for them: what each call returns and what becomes of memory, for every input within the bounds that each theorem states. -/
import Derived.Test.YtiklpimnmbjenaaH
namespace Go.Proofs.Ytiklpimnmbjenaa
open Go.RowKit Go
set_option linter.unusedVariables false
set_option linter.unusedSimpArgs false

theorem at_agg {w : World} {B : Nat} {t : T} {v : Value} (h : At w B t v) : ∃ (k n : Int) (s : ByteArray) (p : Option Addr) (len cap : Nat), v = .agg #[.int .i64 k, .int .i64 n, .string s, .slice p len cap] := by
  obtain ⟨k, n, s, l⟩ := t
  obtain ⟨_, p, len, cap, _, h, _⟩ := at_kid h
  exact ⟨_, _, _, _, _, _, h⟩

theorem szErr_ok {o : Option Nat} (h : SzErr o = 0) : o.isSome = true := by unfold SzErr at h; cases o <;> simp_all

theorem Size_ok (t : T) (w : World) (B : Nat) (v : Value) (hat : At w B t v) (hB : B ≤ w.heap.size) (hg : hgt t ≤ 1000) (hen : (enc t).length ≤ 1000000) (hok : SzErr (dp t) = 0) :
    Calls Try.prog 10 #[v] w fun e w' => e = .returned (.tuple #[.int .i64 (enc t).length, .int .i64 0]) ∧ Below w.heap.size w w' := by
  obtain ⟨k, n, s, p, len, cap, rfl⟩ := at_agg hat
  have HA := hid hat; have HD := hid (szErr_ok hok); have HK := hid hok; clear hat hok
  go_enter Try.func10, Try.ntmps10
  go_wp2_with (first | (go_at_call 12; refine (check_any t _ B _ (At.below ((Below.refl _ _).alloc (Nat.le_refl _) _) hB HA.out) (by simp; omega) hg).mono ?_; rintro e w1 ⟨rfl, hb1⟩; rw [HK.out]; obtain ⟨hc1, hf1⟩ := bcell hb1) | (go_at_call 24; refine (size_any t _ B _ (At.below (((Below.refl _ _).alloc (Nat.le_refl _) _).trans (hb1.mono (by simp))) hB HA.out) (by have := hb1.size; simp at this; omega) HD.out hen).mono ?_; rintro e w2 ⟨rfl, hb2⟩))
  go_ret2
  exact ⟨rfl, (((Below.refl _ _).alloc (Nat.le_refl _) _).trans (hb1.mono (by simp))).trans (hb2.mono (by have := hb1.size; simp at this; omega))⟩
theorem Size_err (t : T) (w : World) (B : Nat) (v : Value) (hat : At w B t v) (hB : B ≤ w.heap.size) (hg : hgt t ≤ 1000) (hok : SzErr (dp t) ≠ 0) :
    Calls Try.prog 10 #[v] w fun e w' => e = .returned (.tuple #[.int .i64 0, .int .i64 (SzErr (dp t))]) ∧ Below w.heap.size w w' := by
  obtain ⟨k, n, s, p, len, cap, rfl⟩ := at_agg hat
  have HA := hid hat; clear hat
  obtain ⟨x, hx⟩ : ∃ x, x = SzErr (dp t) := ⟨_, rfl⟩
  rw [← hx] at hok ⊢
  have HX := hid hx.symm; clear hx
  have hne : (x != 0) = true := by simp [hok]
  clear hok
  go_enter Try.func10, Try.ntmps10
  go_wp2_with (go_at_call 12; refine (check_any t _ B _ (At.below ((Below.refl _ _).alloc (Nat.le_refl _) _) hB HA.out) (by simp; omega) hg).mono ?_; rintro e w1 ⟨rfl, hb1⟩; rw [HX.out]; obtain ⟨hc1, hf1⟩ := bcell hb1)
  go_ret2
  exact ⟨rfl, ((Below.refl _ _).alloc (Nat.le_refl _) _).trans (hb1.mono (by simp))⟩

theorem Encode_err (t : T) (w : World) (B : Nat) (v : Value) (hat : At w B t v) (hB : B ≤ w.heap.size) (hg : hgt t ≤ 1000) (hok : SzErr (dp t) ≠ 0) :
    Calls Try.prog 8 #[v] w fun e w' => e = .returned (.tuple #[.slice none 0 0, .int .i64 (SzErr (dp t))]) ∧ Below w.heap.size w w' := by
  obtain ⟨k, n, s, p, len, cap, rfl⟩ := at_agg hat
  have HA := hid hat; clear hat
  have HO := hid hok
  obtain ⟨x, hx⟩ : ∃ x, x = SzErr (dp t) := ⟨_, rfl⟩
  rw [← hx] at hok ⊢
  have HX := hid hx.symm; clear hx
  have hne : (x != 0) = true := by simp [hok]
  clear hok
  go_enter Try.func8, Try.ntmps8
  go_wp2_with (go_at_call 10; refine (Size_err t _ B _ (At.below ((Below.refl _ _).alloc (Nat.le_refl _) _) hB HA.out) (by simp; omega) hg HO.out).mono ?_; rintro e w1 ⟨rfl, hb1⟩; rw [HX.out]; obtain ⟨hc1, hf1⟩ := bcell hb1)
  go_ret2
  exact ⟨rfl, ((Below.refl _ _).alloc (Nat.le_refl _) _).trans (hb1.mono (by simp))⟩

theorem made (N : Nat) (h : N ≤ 1000000) : ∃ Z : Array Value, (∀ w : World, (Instr.makeSlice 27 (.int .i64 0) (.int .i64 (N : Int))).run Try.prog w = .ok (.slice (some ⟨w.heap.size, 0, none⟩) 0 N) (w.alloc (.cells Z 5))) ∧
    ∀ w : World, Row (w.alloc (.cells Z 5)).drew w.heap.size 0 N [] := by
  obtain ⟨i0, hi, hz0, hz1, hz2⟩ := info_parts Try.info5
  have hr : ∀ w : World, _ := fun w => run_make (P := Try.prog) w 27 5 i0 _ Try.underlying27 hi hz0 .i64 .i64 0 N (by omega) (by omega) (by rw [hz2]; simp; omega) (by omega)
  refine ⟨_, fun w => by simpa using hr w, fun w => ?_⟩
  obtain ⟨w', h1, h2, _⟩ := run_make_own (P := Try.prog) w w.heap.size 27 5 i0 _ 1 Try.underlying27 hi hz0 hz1 .i64 .i64 N (by rw [hz2]; omega) (by unfold maxLen; omega) (Nat.le_refl _)
  have h3 := hr w
  rw [h1] at h3
  simp at h3
  rw [h3] at h2
  exact h2.drew

set_option maxHeartbeats 1000000 in
theorem Encode_ok (t : T) (w : World) (B : Nat) (v : Value) (hat : At w B t v) (hB : B ≤ w.heap.size) (hg : hgt t ≤ 1000) (hen : (enc t).length ≤ 1000000) (hok : SzErr (dp t) = 0) :
    Calls Try.prog 8 #[v] w fun e w' => ∃ g, e = .returned (.tuple #[.slice (some ⟨g, 0, none⟩) (enc t).length (enc t).length, .int .i64 0]) ∧ Row w' g (enc t).length (enc t).length (enc t) ∧ w.heap.size ≤ g ∧ Below w.heap.size w w' := by
  obtain ⟨k, n, s, p, len, cap, rfl⟩ := at_agg hat
  have HA := hid hat; have HD := hid (szErr_ok hok); have HK := hid hok; clear hat hok
  obtain ⟨N, hN⟩ : ∃ N, N = (enc t).length := ⟨_, rfl⟩
  rw [← hN] at hen ⊢
  have HN := hid hN.symm; clear hN
  obtain ⟨Z, hmk, hrow⟩ := made N (by omega)
  go_enter Try.func8, Try.ntmps8
  go_wp2_with (go_at_call 10; refine (Size_ok t _ B _ (At.below ((Below.refl _ _).alloc (Nat.le_refl _) _) hB HA.out) (by simp; omega) hg (by rw [HN.out]; omega) HK.out).mono ?_; rintro e w1 ⟨rfl, hb1⟩; rw [HN.out]; obtain ⟨hc1, hf1⟩ := bcell hb1)
  have hne : w.heap.size ≠ w1.heap.size := by have := hb1.size; simp at this; omega
  go_region_held3 (fun w' => w'.cell? ⟨w.heap.size, 0, none⟩ = some (.int .i64 k) ∧ w'.cell? ⟨w.heap.size, 1, none⟩ = some (.int .i64 n) ∧ w'.cell? ⟨w.heap.size, 2, none⟩ = some (.string s) ∧ w'.cell? ⟨w.heap.size, 3, none⟩ = some (.slice p len cap) ∧ w.heap.size < w'.heap.size)
     (((repeat' apply And.intro) <;> first | (go_keep; done) | (have h1 := hb1.size; simp at h1 ⊢; omega) | (refine hg2.cell ?_ ?_; go_keep; (simp; omega)) | (have h1 := hb1.size; have h2 := hg2.size; simp at h1 h2 ⊢; omega)))
     (first | (go_at_call 22; refine (write_any t _ B _ _ 0 N [] (At.below ((((Below.refl _ _).alloc (Nat.le_refl _) _).trans (hb1.mono (by simp))).alloc (by have := hb1.size; simp at this; omega) _).drew hB HA.out) (by have := hb1.size; simp at this ⊢; omega) (by have := hb1.size; simp at this; omega) HD.out (by rw [HN.out]; omega) hen (hrow _)).mono ?_; rw [HN.out]; rintro e w2 ⟨rfl, hr2, hg2⟩))
  go_wp2
  go_ret2
  have hz1 := hb1.size
  simp at hz1
  simp only [Nat.zero_add, List.nil_append] at hr2
  exact ⟨w1.heap.size, by simp, hr2, by omega, (((((Below.refl _ _).alloc (Nat.le_refl _) _).trans (hb1.mono (by simp))).alloc (by omega) _).drew).trans (below_of_grown hg2 (by omega) (by simp; omega))⟩
end Go.Proofs.Ytiklpimnmbjenaa

/- Contracts of the functions of package codec and lemmas for them: what each call returns and what becomes of memory, for every input within the bounds that each theorem states. -/
import Derived.Test.YtiklpimnmbjenaaC
import Derived.Test.YtiklpimnmbjenaaTree
namespace Go.Proofs.Ytiklpimnmbjenaa
open Go.RowKit Go
set_option linter.unusedVariables false
set_option linter.unusedSimpArgs false

theorem clean_any (k n : Int) (s : ByteArray) (p : Option Addr) (len cap : Nat) (w : World) :
    Calls Try.prog 35 #[.agg #[.int .i64 k, .int .i64 n, .string s, .slice p len cap]] w fun e w' => e = .returned (.bool (cln k n s len)) ∧ Below w.heap.size w w' := by
  have hbel := fun o => (Below.refl w.heap.size w).alloc (Nat.le_refl _) o
  by_cases h1 : k = 1
  · subst h1
    by_cases hs : s.toList = []
    all_goals
      go_enter Try.func35, Try.ntmps35
      go_wp2
      go_ret
      exact ⟨by simp [cln, hs]; try (rw [Bool.eq_iff_iff]; simp), hbel _⟩
  by_cases h2 : k = 2
  · subst h2
    by_cases hs : n = 0
    all_goals
      go_enter Try.func35, Try.ntmps35
      go_wp2
      go_ret
      exact ⟨by simp [cln, hs]; try (rw [Bool.eq_iff_iff]; simp), hbel _⟩
  by_cases h3 : k = 3
  · subst h3
    by_cases hs : n = 0
    all_goals
      go_enter Try.func35, Try.ntmps35
      go_wp2
      go_ret
      exact ⟨by simp [cln, hs]; try (rw [Bool.eq_iff_iff]; simp), hbel _⟩
  have e1 : (k == 1) = false := by simp [h1]
  have e2 : (k == 2) = false := by simp [h2]
  have e3 : (k == 3) = false := by simp [h3]
  go_enter Try.func35, Try.ntmps35
  go_wp2
  go_ret
  exact ⟨by simp [cln, h1, h2, h3], hbel _⟩

theorem bcell {W w1 : World} (hb : Below W.heap.size W w1) : (∀ b o, b < W.heap.size → w1.cell? ⟨b, o, none⟩ = W.cell? ⟨b, o, none⟩) ∧ (∀ b o, b < W.heap.size → w1.frozen? ⟨b, o, none⟩ = W.frozen? ⟨b, o, none⟩) :=
  ⟨fun b o h => hb.cell (p := ⟨b, o, none⟩) h, fun b o h => hb.frozen (p := ⟨b, o, none⟩) h⟩

/-- what 'At' says, the length under a name of its own -/
theorem at_kid {w : World} {B : Nat} {k n : Int} {s : ByteArray} {l : List T} {v : Value} (h : At w B (.mk k n s l) v) : s.size ≤ maxLen ∧ ∃ (p : Option Addr) (len cap : Nat), Hid (l.length = len) ∧ v = .agg #[.int .i64 k, .int .i64 n, .string s, .slice p len cap] ∧ len ≤ cap ∧ cap ≤ 9223372036854775807 ∧
      ∃ b off, (0 < len → p = some ⟨b, off, none⟩ ∧ b < B) ∧ ∀ i, i < len → ∃ t k' n' s' p' len' cap', (t ∈ l ∧ l.drop i = t :: l.drop (i + 1)) ∧ At w B t (.agg #[.int .i64 k', .int .i64 n', .string s', .slice p' len' cap']) ∧
        w.cell? ⟨b, off + i * 4, none⟩ = some (.int .i64 k') ∧ w.cell? ⟨b, off + i * 4 + 1, none⟩ = some (.int .i64 n') ∧ w.cell? ⟨b, off + i * 4 + 2, none⟩ = some (.string s') ∧ w.cell? ⟨b, off + i * 4 + 3, none⟩ = some (.slice p' len' cap') := by
  unfold At at h; rw [AtP] at h
  obtain ⟨_, hz, p, cap, hv, hc, hm, b, off, hp, hk⟩ := h
  refine ⟨hz, p, l.length, cap, rfl, hv, hc, hm, b, off, fun h => hp (by intro e; subst e; simp at h), fun i hi => ?_⟩
  obtain ⟨c0, c1, c2, c3, h, e0, e1, e2, e3⟩ := hk i hi
  have hl := List.drop_eq_getElem_cons hi
  have hm := List.getElem_mem hi
  generalize l[i] = t at h hl hm
  obtain ⟨k', n', s', l'⟩ := t
  have h' := h
  rw [AtP] at h
  obtain ⟨_, _, p', cap', hv', _⟩ := h
  simp at hv'
  obtain ⟨rfl, rfl, rfl, rfl⟩ := hv'
  exact ⟨_, k', n', s', p', _, cap', ⟨hm, hl⟩, h', e0, e1, e2, e3⟩

theorem at_wf {w : World} {B : Nat} {k n : Int} {s : ByteArray} {l : List T} {v : Value} (h : At w B (.mk k n s l) v) : wfI k ∧ wfI n := by unfold At at h; rw [AtP] at h; exact h.1

def dpN (t : T) : Nat := (dp t).getD 0
def dpB (t : T) : Bool := (dp t).isSome

def SaidDepth (t : T) : Prop := ∀ (w : World) (B : Nat) (v : Value), At w B t v → B ≤ w.heap.size → hgt t ≤ 1000 →
  Calls Try.prog 25 #[v] w fun e w' => e = .returned (.tuple #[.int .i64 (dpN t), .bool (dpB t)]) ∧ Below w.heap.size w w'

set_option maxRecDepth 100000 in
set_option maxHeartbeats 400000 in
theorem depth_step (k n : Int) (s : ByteArray) (l : List T) (ih : ∀ t ∈ l, SaidDepth t) : SaidDepth (.mk k n s l) := by
  intro w B v hat hB hg
  rw [hgt_mk] at hg
  have hle := dps_le (l := l) (fun t _ => dp_le t) 0
  obtain ⟨_, p, len, cap, HL, rfl, hlc, hm, b, off, hp, hk⟩ := at_kid hat
  clear hat
  have HD := hid (dp_mk k n s l); rw [HL.out] at HD
  by_cases hc : cln k n s len = true
  · by_cases h3 : k = 3
    · subst h3
      by_cases hl0 : 0 < len
      · obtain ⟨rfl, hbB⟩ := hp hl0
        clear hp
        have HK := hid hk; clear hk
        have HC := hid hc
        go_enter Try.func25, Try.ntmps25
        go_wp2_with (go_at_call 35; refine (clean_any _ _ _ _ _ _ _).mono ?_; rintro e w1 ⟨rfl, hb1⟩; obtain ⟨hc1, hf1⟩ := bcell hb1; have hz1 := hb1.size; simp at hz1)
        go_loopw [2, 17] (fun mv iv wr => ∃ i m : Nat, i ≤ len ∧ m ≤ 1000 ∧ mv = .int .i64 m ∧ iv = .int .i64 i ∧ Hid (dps l 0 = dps (l.drop i) m) ∧ Below w.heap.size w wr) (fun _ iv _ => len - (intOf iv).toNat)
        case atStart => exact ⟨0, 0, by omega, by omega, rfl, rfl, rfl, ((Below.refl _ _).alloc (Nat.le_refl _) _).trans (hb1.mono (by simp))⟩
        case round =>
          obtain ⟨i, m, hi, hm1, rfl, rfl, HR, hbr⟩ := hrel
          have hsz := hbr.size
          by_cases hlt : i < len
          · obtain ⟨t, k', n', s', p', len', cap', ⟨hmem, hdrop⟩, hatk, e0, e1, e2, e3⟩ := HK.out i hlt
            have hih := ih t hmem
            have hgt' := hgts_mem hmem
            have HM := hid hdrop; clear hdrop hmem
            have HA := hid hatk; clear hatk
            rw [← hbr.cell (p := ⟨b, _, none⟩) (by simp; omega)] at e0 e1 e2 e3
            have hdp := dp_le t
            have HI := hid hih; have HDP := hid hdp; clear hih hdp
            cases hdt : dp t with
            | none =>
              have hB1 : dpB t = false := by simp [dpB, hdt]
              have hN1 : dpN t = 0 := by simp [dpN, hdt]
              have HT := hid hdt; have HN1 := hid hN1; clear hdt hN1
              go_wp2_with (go_at_call 25; refine (HI.out _ B _ (At.below (hbr.alloc (by omega) _) hB HA.out) (by simp; omega) (by omega)).mono ?_; rintro e w2 ⟨rfl, hb2⟩)
              go_ret2
              refine ⟨?_, (hbr.alloc (by omega) _).trans (hb2.mono (by simp; omega))⟩
              have h := HR.out
              rw [HM.out, dps_cons, HT.out] at h
              have h' := HD.out
              simp [HC.out, h] at h'
              simp [dpN, dpB, h']
            | some d =>
              have hB1 : dpB t = true := by simp [dpB, hdt]
              have hN1 : dpN t = d := by simp [dpN, hdt]
              have hd : d ≤ 1000 := by have := HDP.out d hdt; omega
              have hN2 : dpN t ≤ 1000 := by omega
              have HT := hid hdt; have HN1 := hid hN1; clear hdt hN1
              go_wp2_with (go_at_call 25; refine (HI.out _ B _ (At.below (hbr.alloc (by omega) _) hB HA.out) (by simp; omega) (by omega)).mono ?_; rintro e w2 ⟨rfl, hb2⟩)
              go_roundw
              case rel =>
                refine ⟨i + 1, max m d, by omega, by omega, ?_, by go_num, ?_, (hbr.alloc (by omega) _).trans (hb2.mono (by simp; omega))⟩
                · rw [HN1.out]; simp; omega
                · have h := HR.out
                  rw [HM.out, dps_cons, HT.out] at h
                  exact h
              case measure => simp [intOf]; omega
          · obtain rfl : i = len := by omega
            go_wp2
            go_ret2
            refine ⟨?_, hbr⟩
            have h := HR.out
            rw [← HL.out, List.drop_length, dps] at h
            have h' := HD.out
            simp [HC.out, h] at h'
            simp [dpN, dpB, h']
      · obtain rfl : len = 0 := by omega
        go_enter Try.func25, Try.ntmps25
        go_wp2_with (go_at_call 35; refine (clean_any _ _ _ _ _ _ _).mono ?_; rintro e w1 ⟨rfl, hb1⟩; obtain ⟨hc1, hf1⟩ := bcell hb1)
        go_loopw [2, 17] (fun mv iv wr => mv = .int .i64 0 ∧ iv = .int .i64 0 ∧ Below w.heap.size w wr) (fun _ iv _ => 0 - (intOf iv).toNat)
        case atStart => exact ⟨rfl, rfl, ((Below.refl _ _).alloc (Nat.le_refl _) _).trans (hb1.mono (by simp))⟩
        case round =>
          obtain ⟨rfl, rfl, hbr⟩ := hrel
          go_wp2
          go_ret2
          refine ⟨?_, hbr⟩
          have h' := HD.out
          have hnil : l = [] := List.eq_nil_of_length_eq_zero HL.out
          simp [hc, hnil, dps] at h'
          simp [dpN, dpB, h', hnil]
    · have e3 : (k == 3) = false := by simp [h3]
      go_enter Try.func25, Try.ntmps25
      go_wp2_with (go_at_call 35; refine (clean_any _ _ _ _ _ _ _).mono ?_; rintro e w1 ⟨rfl, hb1⟩; obtain ⟨hc1, hf1⟩ := bcell hb1)
      go_ret2
      refine ⟨?_, ((Below.refl _ _).alloc (Nat.le_refl _) _).trans (hb1.mono (by simp))⟩
      have h := HD.out
      simp [hc, h3] at h
      simp [dpN, dpB, h]
  · have hc : cln k n s len = false := by simpa using hc
    go_enter Try.func25, Try.ntmps25
    go_wp2_with (go_at_call 35; refine (clean_any _ _ _ _ _ _ _).mono ?_; rintro e w1 ⟨rfl, hb1⟩; obtain ⟨hc1, hf1⟩ := bcell hb1)
    go_ret2
    refine ⟨?_, ((Below.refl _ _).alloc (Nat.le_refl _) _).trans (hb1.mono (by simp))⟩
    have h := HD.out
    simp [hc] at h
    simp [dpN, dpB, h]
theorem depth_any (t : T) : SaidDepth t := by
  induction t using T.all with
  | step k n s l ih => exact depth_step k n s l ih

end Go.Proofs.Ytiklpimnmbjenaa

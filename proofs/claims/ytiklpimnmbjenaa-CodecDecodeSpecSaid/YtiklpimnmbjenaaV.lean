/- Contracts of the specification's Formed, Depth, Check, count. -/
import Derived.Test.YtiklpimnmbjenaaU
namespace Go.Proofs.Ytiklpimnmbjenaa
open Go.RowKit Go
set_option linter.unusedVariables false
set_option linter.unusedSimpArgs false

def fmd (t : T) : Bool := (dp t).isSome
theorem dps_some : ∀ (l : List T) (m : Nat), (dps l m).isSome = l.all fmd := by
  intro l
  induction l with
  | nil => intro m; rw [dps]; rfl
  | cons t r ih =>
    intro m
    rw [dps_cons, List.all_cons]
    unfold fmd at ih ⊢
    cases dp t with
    | none => rfl
    | some d => simp [ih]
theorem fmd_mk (k n : Int) (s : ByteArray) (l : List T) : fmd (.mk k n s l) = (cln k n s l.length && (if k = 3 then l.all fmd else true)) := by
  unfold fmd
  rw [dp_mk]
  by_cases hc : cln k n s l.length = true
  · by_cases h3 : k = 3
    · rw [if_pos hc, hc, if_pos h3, if_pos h3]
      show _ = (true && l.all fmd)
      rw [← dps_some l 0, Bool.true_and, Option.isSome_map]
    · simp [hc, h3]
  · simp [hc]

mutual
def dpth : T → Nat
  | .mk k _ _ l => if k = 3 then dpths l + 1 else 0
def dpths : List T → Nat
  | [] => 0
  | t :: r => max (dpth t) (dpths r)
end
theorem dpth_mk (k n : Int) (s : ByteArray) (l : List T) : dpth (.mk k n s l) = if k = 3 then dpths l + 1 else 0 := by rw [dpth]
theorem dpths_cons (t : T) (r : List T) : dpths (t :: r) = max (dpth t) (dpths r) := by rw [dpths]
theorem dps_dpths {l : List T} (h : ∀ t ∈ l, ∀ d, dp t = some d → d = dpth t) : ∀ m d, dps l m = some d → d = max m (dpths l) := by
  induction l with
  | nil => intro m d hd; rw [dps] at hd; rw [dpths]; simp at hd; omega
  | cons t r ih =>
    intro m d hd
    rw [dps_cons] at hd
    rw [dpths_cons]
    cases ht : dp t with
    | none => rw [ht] at hd; cases hd
    | some x =>
      rw [ht] at hd
      have h1 := h t (by simp) x ht
      have h2 := ih (fun t h' => h t (by simp [h'])) _ _ hd
      omega
theorem dp_dpth (t : T) : ∀ d, dp t = some d → d = dpth t := by
  induction t using T.all with
  | step k n s l ih =>
    intro d h
    rw [dp_mk] at h
    rw [dpth_mk]
    split at h
    · split at h
      · rename_i h3
        cases hd : dps l 0 with
        | none => rw [hd] at h; cases h
        | some x => rw [hd] at h; simp at h; have := dps_dpths ih 0 x hd; rw [if_pos h3]; omega
      · rename_i h3; simp at h; rw [if_neg h3]; omega
    · cases h
theorem dpth_le (t : T) : dpth t ≤ hgt t := by
  induction t using T.all with
  | step k n s l ih =>
    rw [dpth_mk, hgt_mk]
    have : dpths l ≤ hgts l := by
      clear k n s
      induction l with
      | nil => rw [dpths]; omega
      | cons t r ihr => rw [dpths_cons, hgts]; have := ih t (by simp); have := ihr (fun t h => ih t (by simp [h])); omega
    split <;> omega

def SaidFormed (t : T) : Prop := ∀ (w : World) (B : Nat) (v : Value), At w B t v → B ≤ w.heap.size →
  Calls Try.prog 26 #[v] w fun e w' => e = .returned (.bool (fmd t)) ∧ Below w.heap.size w w'

set_option maxRecDepth 100000 in
set_option maxHeartbeats 2000000 in
theorem formed_step (k n : Int) (s : ByteArray) (l : List T) (ih : ∀ t ∈ l, SaidFormed t) : SaidFormed (.mk k n s l) := by
  intro w B v hat hB
  have hf := fmd_mk k n s l
  obtain ⟨_, p, len, cap, HL, rfl, hlc, hm, b, off, hp, hk⟩ := at_kid hat
  clear hat
  rw [HL.out] at hf
  have HF := hid hf; clear hf
  have hbel := fun o => below_al' w o
  by_cases h1 : k = 1
  · subst h1
    by_cases hs : s.toList = []
    all_goals
      go_enter Try.func26, Try.ntmps26
      go_wp2
      go_ret
      exact ⟨by rw [HF.out]; simp [cln, hs]; try (rw [Bool.eq_iff_iff]; simp), hbel _⟩
  by_cases h2 : k = 2
  · subst h2
    by_cases hs : n = 0
    all_goals
      go_enter Try.func26, Try.ntmps26
      go_wp2
      go_ret
      exact ⟨by rw [HF.out]; simp [cln, hs]; try (rw [Bool.eq_iff_iff]; simp), hbel _⟩
  by_cases h3 : k = 3
  · subst h3
    have hf3 : fmd (T.mk 3 n s l) = (cln 3 n s len && l.all fmd) := HF.out
    have HF3 := hid hf3; clear hf3
    by_cases hl0 : 0 < len
    · obtain ⟨rfl, hbB⟩ := hp hl0
      clear hp
      have HK := hid hk; clear hk
      go_enter Try.func26, Try.ntmps26
      go_wp2_with fail
      go_loopw [3] (fun iv wr => ∃ i : Nat, i ≤ len ∧ iv = .int .i64 i ∧ Hid (l.all fmd = (l.drop i).all fmd) ∧
        Hid (Below (w.heap.size + 1) (w.alloc (.cells #[.int .i64 3, .int .i64 n, .string s, .slice (some ⟨b, off, none⟩) len cap] 24)) wr)) (fun iv _ => len - (intOf iv).toNat)
      case atStart => exact ⟨0, by omega, rfl, rfl, Below.refl _ _⟩
      case round =>
        obtain ⟨i, hi, rfl, HR, HB⟩ := hrel
        have hsz := HB.out.size
        simp at hsz
        have hc0 : ∀ o v, (w.alloc (.cells #[.int .i64 3, .int .i64 n, .string s, .slice (some ⟨b, off, none⟩) len cap] 24)).cell? ⟨w.heap.size, o, none⟩ = some v → wr.cell? ⟨w.heap.size, o, none⟩ = some v := fun o v h => by rw [HB.out.cell (by simp)]; exact h
        have q1 := hc0 1 (.int .i64 n) (by simp [go_sem])
        have q2 := hc0 2 (.string s) (by simp [go_sem])
        have q3 := hc0 3 (.slice (some ⟨b, off, none⟩) len cap) (by simp [go_sem])
        have hbw : Below w.heap.size w wr := (below_al' _ _).trans (HB.out.mono (by omega))
        clear hc0
        by_cases hlt : i < len
        · obtain ⟨t, ka, na, sa, pa, lena, capa, ⟨hmem, hdrop⟩, hat, e0, e1, e2, e3⟩ := HK.out i hlt
          have hih := ih t hmem
          have hed : (l.drop i).all fmd = (fmd t && (l.drop (i + 1)).all fmd) := by rw [hdrop]; rfl
          have HI := hid hih; have HA := hid hat; have HS := hid hed; clear hih hat hed hdrop hmem
          rw [← hbw.cell (p := ⟨b, _, none⟩) (by simp; omega)] at e0 e1 e2 e3
          have HBW := hid hbw; clear hbw
          cases hft : fmd t with
          | false =>
            have HT := hid hft; clear hft
            go_wp2_with (go_at_call 26; refine (HI.out _ B _ (At.below HBW.out hB HA.out) (by omega)).mono ?_; rintro e w2 ⟨rfl, hb2⟩; rw [HT.out])
            go_ret
            refine ⟨?_, HBW.out.trans (hb2.mono (by omega))⟩
            rw [HF3.out, HR.out, HS.out, HT.out]
            simp
          | true =>
            have HT := hid hft; clear hft
            go_wp2_with (go_at_call 26; refine (HI.out _ B _ (At.below HBW.out hB HA.out) (by omega)).mono ?_; rintro e w2 ⟨rfl, hb2⟩; rw [HT.out])
            go_roundw
            case rel =>
              refine ⟨i + 1, by omega, by go_num, ?_, HB.out.trans (hb2.mono (by omega))⟩
              show _ = _
              rw [HR.out, HS.out, HT.out]; rfl
            case measure => simp [intOf]; omega
        · obtain rfl : i = len := by omega
          have HBW := hid hbw; clear hbw
          have HA : Hid (l.all fmd = true) := by show _ = _; rw [HR.out, ← HL.out, List.drop_length]; rfl
          by_cases hs : n = 0
          all_goals
            go_wp2
            go_ret
            refine ⟨?_, HBW.out⟩
            rw [HF3.out, HA.out]
            simp [cln, hs]
            try (rw [Bool.eq_iff_iff]; simp)
    · obtain rfl : len = 0 := by omega
      have hnil : l = [] := List.eq_nil_of_length_eq_zero HL.out
      subst hnil
      by_cases hs : n = 0
      all_goals
        go_enter Try.func26, Try.ntmps26
        go_wp2_with fail
        go_loopw [3] (fun iv wr => iv = .int .i64 0 ∧ wr = w.alloc (.cells #[.int .i64 3, .int .i64 n, .string s, .slice p 0 cap] 24)) (fun iv _ => 0 - (intOf iv).toNat)
        case atStart => exact ⟨rfl, by simp [hs]⟩
        case round =>
          obtain ⟨rfl, rfl⟩ := hrel
          go_wp2
          go_ret
          refine ⟨?_, hbel _⟩
          rw [HF.out]
          simp [cln, hs]
          try (rw [Bool.eq_iff_iff]; simp)
  have e1 : (k == 1) = false := by simp [h1]
  have e2 : (k == 2) = false := by simp [h2]
  have e3 : (k == 3) = false := by simp [h3]
  go_enter Try.func26, Try.ntmps26
  go_wp2
  go_ret
  exact ⟨by rw [HF.out]; simp [cln, h1, h2, h3], hbel _⟩
theorem formed_any (t : T) : SaidFormed t := by
  induction t using T.all with
  | step k n s l ih => exact formed_step k n s l ih


def SaidDpth (t : T) : Prop := ∀ (w : World) (B : Nat) (v : Value), At w B t v → B ≤ w.heap.size → hgt t ≤ 1000 →
  Calls Try.prog 27 #[v] w fun e w' => e = .returned (.int .i64 (dpth t)) ∧ Below w.heap.size w w'

set_option maxRecDepth 100000 in
set_option maxHeartbeats 2000000 in
theorem dpth_step (k n : Int) (s : ByteArray) (l : List T) (ih : ∀ t ∈ l, SaidDpth t) : SaidDpth (.mk k n s l) := by
  intro w B v hat hB hg
  have hf := dpth_mk k n s l
  have hle := dpth_le (.mk k n s l)
  rw [hgt_mk] at hg hle
  obtain ⟨_, p, len, cap, HL, rfl, hlc, hm, b, off, hp, hk⟩ := at_kid hat
  clear hat
  have hbel := fun o => below_al' w o
  by_cases h3 : k = 3
  · subst h3
    rw [if_pos rfl] at hf
    have hdl : dpths l ≤ 1000 := by omega
    have HF := hid hf; clear hf hle
    by_cases hl0 : 0 < len
    · obtain ⟨rfl, hbB⟩ := hp hl0
      clear hp
      have HK := hid hk; clear hk
      go_enter Try.func27, Try.ntmps27
      go_wp2_with fail
      go_loopw [3, 4] (fun mv iv wr => ∃ i m : Nat, i ≤ len ∧ m ≤ dpths l ∧ mv = .int .i64 m ∧ iv = .int .i64 i ∧ Hid (dpths l = max m (dpths (l.drop i))) ∧
        Hid (Below (w.heap.size + 1) (w.alloc (.cells #[.int .i64 3, .int .i64 n, .string s, .slice (some ⟨b, off, none⟩) len cap] 24)) wr)) (fun _ iv _ => len - (intOf iv).toNat)
      case atStart => exact ⟨0, 0, by omega, by omega, rfl, rfl, by show _ = _; simp, Below.refl _ _⟩
      case round =>
        obtain ⟨i, m, hi, hmd, rfl, rfl, HR, HB⟩ := hrel
        have hsz := HB.out.size
        simp at hsz
        have q3 : wr.cell? ⟨w.heap.size, 3, none⟩ = some (.slice (some ⟨b, off, none⟩) len cap) := by rw [HB.out.cell (by simp)]; simp [go_sem]
        have hbw : Below w.heap.size w wr := (below_al' _ _).trans (HB.out.mono (by omega))
        by_cases hlt : i < len
        · obtain ⟨t, ka, na, sa, pa, lena, capa, ⟨hmem, hdrop⟩, hat, e0, e1, e2, e3⟩ := HK.out i hlt
          have hih := ih t hmem
          have hht := hgts_mem hmem
          have hed : dpths (l.drop i) = max (dpth t) (dpths (l.drop (i + 1))) := by rw [hdrop, dpths_cons]
          have hd1 : dpth t ≤ dpths l := by have := HR.out; omega
          have HI := hid hih; have HA := hid hat; have HS := hid hed; clear hih hat hed hdrop hmem
          rw [← hbw.cell (p := ⟨b, _, none⟩) (by simp; omega)] at e0 e1 e2 e3
          have HBW := hid hbw; clear hbw
          go_wp2_with (go_at_call 27; refine (HI.out _ B _ (At.below HBW.out hB HA.out) (by omega) (by omega)).mono ?_; rintro e w2 ⟨rfl, hb2⟩)
          go_roundw
          case rel =>
            refine ⟨i + 1, max m (dpth t), by omega, by omega, by simp; omega, by go_num, ?_, HB.out.trans (hb2.mono (by omega))⟩
            show _ = _
            rw [HR.out, HS.out]; omega
          case measure => simp [intOf]; omega
        · obtain rfl : i = len := by omega
          have HBW := hid hbw; clear hbw
          have HA : Hid (dpths l = m) := by show _ = _; rw [HR.out, ← HL.out, List.drop_length, dpths]; omega
          go_wp2
          go_ret
          exact ⟨by rw [HF.out, HA.out]; simp, HBW.out⟩
    · obtain rfl : len = 0 := by omega
      have hnil : l = [] := List.eq_nil_of_length_eq_zero HL.out
      subst hnil
      go_enter Try.func27, Try.ntmps27
      go_wp2_with fail
      go_loopw [3, 4] (fun mv iv wr => mv = .int .i64 0 ∧ iv = .int .i64 0 ∧ wr = w.alloc (.cells #[.int .i64 3, .int .i64 n, .string s, .slice p 0 cap] 24)) (fun _ iv _ => 0 - (intOf iv).toNat)
      case atStart => exact ⟨rfl, rfl, rfl⟩
      case round =>
        obtain ⟨rfl, rfl, rfl⟩ := hrel
        go_wp2
        go_ret
        exact ⟨by rw [HF.out, dpths]; simp, hbel _⟩
  · rw [if_neg h3] at hf
    have HF := hid hf; clear hf
    have e3 : (k != 3) = true := by simp [h3]
    go_enter Try.func27, Try.ntmps27
    go_wp2
    go_ret
    exact ⟨by rw [HF.out]; simp, hbel _⟩
theorem dpth_any (t : T) : SaidDpth t := by
  induction t using T.all with
  | step k n s l ih => exact dpth_step k n s l ih

theorem refCheck_any (t : T) (w : World) (B : Nat) (v : Value) (hat : At w B t v) (hB : B ≤ w.heap.size) (hg : hgt t ≤ 1000) :
    Calls Try.prog 13 #[v] w fun e w' => e = .returned (.int .i64 (SzErr (dp t))) ∧ Below w.heap.size w w' := by
  obtain ⟨k, n, s, p, len, cap, rfl⟩ := at_agg hat
  have HF := hid (formed_any t)
  have HD := hid (dpth_any t)
  have HA := hid hat; clear hat
  have hle := dpth_le t
  cases hdp : dp t with
  | none =>
    have hb : fmd t = false := by simp [fmd, hdp]
    have HN := hid hdp; clear hdp hle
    have HB := hid hb; clear hb
    go_enter Try.func13, Try.ntmps13
    go_wp2_with (go_at_call 26; refine (HF.out _ B _ (At.below (below_al' _ _) hB HA.out) (by simp; omega)).mono ?_; rintro e w1 ⟨rfl, hb1⟩; rw [HB.out]; obtain ⟨hc1, hf1⟩ := bcell hb1)
    go_ret
    exact ⟨rfl, (below_al' _ _).trans (hb1.mono (by simp))⟩
  | some d =>
    have hb : fmd t = true := by simp [fmd, hdp]
    have hd := dp_dpth t d hdp
    have HN := hid hdp; have HB := hid hb; clear hdp hb
    subst hd
    by_cases h16 : 16 < dpth t
    all_goals
      go_enter Try.func13, Try.ntmps13
      go_wp2_with fail
      refine (HF.out _ B _ (At.below (below_al' _ _) hB HA.out) (by simp; omega)).mono ?_
      rintro e w1 ⟨rfl, hb1⟩
      rw [HB.out]
      obtain ⟨hc1, hf1⟩ := bcell hb1
      go_wp2_with fail
      refine (HD.out _ B _ (At.below ((below_al' _ _).trans (hb1.mono (by simp))) hB HA.out) (by have := hb1.size; simp at this; omega) (by omega)).mono ?_
      rintro e w2 ⟨rfl, hb2⟩
      go_wp2
      go_ret
      exact ⟨by simp [SzErr, h16], ((below_al' _ _).trans (hb1.mono (by simp))).trans (hb2.mono (by have := hb1.size; simp at this; omega))⟩

theorem refEncode_err (t : T) (w : World) (B : Nat) (v : Value) (hat : At w B t v) (hB : B ≤ w.heap.size) (hg : hgt t ≤ 1000) (hok : SzErr (dp t) ≠ 0) :
    Calls Try.prog 9 #[v] w fun e w' => e = .returned (.tuple #[.slice none 0 0, .int .i64 (SzErr (dp t))]) ∧ Below w.heap.size w w' := by
  obtain ⟨k, n, s, p, len, cap, rfl⟩ := at_agg hat
  have HA := hid hat; clear hat
  obtain ⟨x, hx⟩ : ∃ x, x = SzErr (dp t) := ⟨_, rfl⟩
  rw [← hx] at hok ⊢
  have HX := hid hx.symm; clear hx
  have hne : (x != 0) = true := by simp [hok]
  clear hok
  go_enter Try.func9, Try.ntmps9
  go_wp2_with (go_at_call 13; refine (refCheck_any t _ B _ (At.below (below_al' _ _) hB HA.out) (by simp; omega) hg).mono ?_; rintro e w1 ⟨rfl, hb1⟩; rw [HX.out]; obtain ⟨hc1, hf1⟩ := bcell hb1)
  go_ret2
  exact ⟨rfl, (below_al' _ _).trans (hb1.mono (by simp))⟩
theorem refEncode_ok (t : T) (w : World) (B : Nat) (v : Value) (hat : At w B t v) (hB : B ≤ w.heap.size) (hg : hgt t ≤ 1000) (hen : (enc t).length ≤ 1000000) (hok : SzErr (dp t) = 0) :
    Calls Try.prog 9 #[v] w fun e w' => ∃ g c, e = .returned (.tuple #[.slice (some ⟨g, 0, none⟩) (enc t).length c, .int .i64 0]) ∧ Row w' g (enc t).length c (enc t) ∧ Below w.heap.size w w' := by
  obtain ⟨k, n, s, p, len, cap, rfl⟩ := at_agg hat
  have HA := hid hat; have HD := hid (szErr_ok hok); have HK := hid hok; clear hat hok
  go_enter Try.func9, Try.ntmps9
  go_wp2_with fail
  refine (refCheck_any t _ B _ (At.below (below_al' _ _) hB HA.out) (by simp; omega) hg).mono ?_
  rintro e w1 ⟨rfl, hb1⟩
  rw [HK.out]
  obtain ⟨hc1, hf1⟩ := bcell hb1
  have hz := hb1.size
  simp at hz
  go_wp2_with fail
  refine (refEnc_any t _ B _ (At.below ((below_al' _ _).trans (hb1.mono (by simp))) hB HA.out) (by omega) HD.out hen).mono ?_
  rintro e w2 ⟨v, rfl, ⟨g, c, rfl, ho⟩, hb2⟩
  have HO : Hid (Row w2 g (enc t).length c (enc t)) := by
    have h1 := row_lt' ho
    refine ⟨ho.1, ?_⟩
    rcases ho.2 with ⟨h, _⟩ | ⟨g', cap', cur, hv, r1, r⟩
    · simp at h
    · simp only [Value.slice.injEq, Option.some.injEq, Addr.mk.injEq, and_true, true_and] at hv
      obtain ⟨rfl, rfl⟩ := hv
      exact .inr ⟨g, c, cur, rfl, Nat.le_refl _, r⟩
  clear ho
  go_wp2
  go_ret2
  exact ⟨g, c, rfl, HO.out, ((below_al' _ _).trans (hb1.mono (by simp))).trans (hb2.mono (by omega))⟩
theorem refSize_err (t : T) (w : World) (B : Nat) (v : Value) (hat : At w B t v) (hB : B ≤ w.heap.size) (hg : hgt t ≤ 1000) (hok : SzErr (dp t) ≠ 0) :
    Calls Try.prog 11 #[v] w fun e w' => e = .returned (.tuple #[.int .i64 0, .int .i64 (SzErr (dp t))]) ∧ Below w.heap.size w w' := by
  obtain ⟨k, n, s, p, len, cap, rfl⟩ := at_agg hat
  have HA := hid hat; have HK := hid hok; clear hat hok
  go_enter Try.func11, Try.ntmps11
  go_wp2_with (go_at_call 9; refine (refEncode_err t _ B _ (At.below (below_al' _ _) hB HA.out) (by simp; omega) hg HK.out).mono ?_; rintro e w1 ⟨rfl, hb1⟩)
  go_ret2
  exact ⟨rfl, (below_al' _ _).trans (hb1.mono (by simp))⟩
theorem refSize_ok (t : T) (w : World) (B : Nat) (v : Value) (hat : At w B t v) (hB : B ≤ w.heap.size) (hg : hgt t ≤ 1000) (hen : (enc t).length ≤ 1000000) (hok : SzErr (dp t) = 0) :
    Calls Try.prog 11 #[v] w fun e w' => e = .returned (.tuple #[.int .i64 (enc t).length, .int .i64 0]) ∧ Below w.heap.size w w' := by
  obtain ⟨k, n, s, p, len, cap, rfl⟩ := at_agg hat
  have HA := hid hat; have HK := hid hok; clear hat hok
  go_enter Try.func11, Try.ntmps11
  go_wp2_with (go_at_call 9; refine (refEncode_ok t _ B _ (At.below (below_al' _ _) hB HA.out) (by simp; omega) hg hen HK.out).mono ?_; rintro e w1 ⟨g, c, rfl, hr, hb1⟩; have HR := hid hr; clear hr)
  go_ret2
  exact ⟨rfl, (below_al' _ _).trans (hb1.mono (by simp))⟩

end Go.Proofs.Ytiklpimnmbjenaa

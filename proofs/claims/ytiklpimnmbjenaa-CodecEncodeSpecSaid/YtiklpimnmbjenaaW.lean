/- Contracts of the guards few, Few, count. -/
import Derived.Test.YtiklpimnmbjenaaV
namespace Go.Proofs.Ytiklpimnmbjenaa
open Go.RowKit Go
set_option linter.unusedVariables false
set_option linter.unusedSimpArgs false

def cntL (f : T → Nat) : List T → Nat → Nat
  | [], n => n
  | t :: r, n => if n ≤ 1000 then cntL f r (n + f t) else n
def cnt : Nat → T → Nat
  | 0, _ => 1000
  | d + 1, .mk _ _ s l => if 150 < l.length then 1000 else cntL (cnt d) l (1 + s.size / 200)
theorem cnt_mk (d : Nat) (k n : Int) (s : ByteArray) (l : List T) : cnt (d + 1) (.mk k n s l) = if 150 < l.length then 1000 else cntL (cnt d) l (1 + s.size / 200) := by rw [cnt]
theorem cntL_cons (f : T → Nat) (t : T) (r : List T) (n : Nat) : cntL f (t :: r) n = if n ≤ 1000 then cntL f r (n + f t) else n := by rw [cntL]
theorem cntL_ge (f : T → Nat) : ∀ (l : List T) (n : Nat), n ≤ cntL f l n := by
  intro l
  induction l with
  | nil => intro n; rw [cntL]; omega
  | cons t r ih => intro n; rw [cntL_cons]; split; have := ih (n + f t); omega; omega
theorem cntL_le {f : T → Nat} {M : Nat} {l : List T} (h : ∀ t ∈ l, f t ≤ M) : ∀ n, cntL f l n ≤ max n (1000 + M) := by
  induction l with
  | nil => intro n; rw [cntL]; omega
  | cons t r ih =>
    intro n
    rw [cntL_cons]
    have h1 := h t (by simp)
    have h2 := ih (fun t ht => h t (by simp [ht])) (n + f t)
    split <;> omega

/-- strings that take no more than the form's reach -/
def Fit : T → Prop := fun t => ∀ d, cnt d t ≤ 50000000000000000 + 1000 * d
theorem at_fit {w : World} {P : Nat → Prop} (t : T) : ∀ v, AtP w P t v → Fit t := by
  induction t using T.all with
  | step k n s l ih =>
    intro v h
    rw [AtP] at h
    obtain ⟨_, hs, p, cap, _, _, _, b, off, _, hk⟩ := h
    have hf : ∀ t ∈ l, Fit t := by
      intro t ht
      obtain ⟨i, hi, rfl⟩ := List.mem_iff_getElem.1 ht
      obtain ⟨c0, c1, c2, c3, ha, _⟩ := hk i hi
      exact ih _ ht _ ha
    intro d
    cases d with
    | zero => rw [cnt]; omega
    | succ d =>
      rw [cnt_mk]
      split
      · omega
      · have := cntL_le (f := cnt d) (fun t ht => hf t ht d) (1 + s.size / 200)
        unfold maxLen at hs
        omega

def SaidCnt (d : Nat) : Prop := ∀ (t : T) (w : World) (B : Nat) (v : Value), At w B t v → B ≤ w.heap.size →
  Calls Try.prog 31 #[v, .int .i64 ((d : Int) - 1)] w fun e w' => e = .returned (.int .i64 (cnt d t)) ∧ Below w.heap.size w w'

theorem cnt_zero : SaidCnt 0 := by
  intro t w B v hat hB
  obtain ⟨k, n, s, l⟩ := t
  obtain ⟨hs, p, len, cap, HL, rfl, _⟩ := at_kid hat
  clear hat
  unfold maxLen at hs
  go_enter Try.func31, Try.ntmps31
  go_wp2
  go_ret
  exact ⟨by rw [cnt]; simp, below_al' _ _⟩

set_option maxRecDepth 100000 in
set_option maxHeartbeats 2000000 in
theorem cnt_succ (d : Nat) (hd : d ≤ 100) (ih : SaidCnt d) : SaidCnt (d + 1) := by
  intro t w B v hat hB
  have hfit := at_fit t _ hat
  obtain ⟨k, n, s, l⟩ := t
  have hfit' := hfit (d + 1)
  have hc := cnt_mk d k n s l
  obtain ⟨hs, p, len, cap, HL, rfl, hlc, hm, b, off, hp, hk⟩ := at_kid hat
  clear hat
  rw [HL.out] at hc
  unfold maxLen at hs
  have harg : (((d + 1 : Nat) : Int) - 1) = (d : Int) := by omega
  rw [harg]
  have HF : Hid (cnt (d + 1) (.mk k n s l) = _) := hc
  have HB2 := hid hfit'
  clear hc hfit harg hfit'
  have HI := hid ih; clear ih
  by_cases h150 : 150 < len
  · go_enter Try.func31, Try.ntmps31
    go_wp2
    go_ret
    exact ⟨by rw [HF.out, if_pos h150]; simp, below_al' _ _⟩
  · have HC : Hid (cnt (d + 1) (.mk k n s l) = cntL (cnt d) l (1 + s.size / 200)) := by show _ = _; rw [HF.out, if_neg h150]
    by_cases hl0 : 0 < len
    · obtain ⟨rfl, hbB⟩ := hp hl0
      clear hp
      have HK := hid hk; clear hk
      go_enter Try.func31, Try.ntmps31
      go_wp2_with fail
      go_loopw [5, 6] (fun mv iv wr => ∃ i m : Nat, i ≤ len ∧ m ≤ 60000000000000000 ∧ mv = .int .i64 m ∧ iv = .int .i64 i ∧ Hid (cntL (cnt d) l (1 + s.size / 200) = cntL (cnt d) (l.drop i) m) ∧
        Hid (Below (w.heap.size + 1) (w.alloc (.cells #[.int .i64 k, .int .i64 n, .string s, .slice (some ⟨b, off, none⟩) len cap] 24)) wr)) (fun _ iv _ => len - (intOf iv).toNat)
      case atStart => exact ⟨0, 1 + s.size / 200, by omega, by omega, by simp, rfl, rfl, Below.refl _ _⟩
      case round =>
        obtain ⟨i, m, hi, hmd, rfl, rfl, HR, HB⟩ := hrel
        have hsz := HB.out.size
        simp at hsz
        have q3 : wr.cell? ⟨w.heap.size, 3, none⟩ = some (.slice (some ⟨b, off, none⟩) len cap) := by rw [HB.out.cell (by simp)]; simp [go_sem]
        have hbw : Below w.heap.size w wr := (below_al' _ _).trans (HB.out.mono (by omega))
        by_cases hlt : i < len
        · obtain ⟨t, ka, na, sa, pa, lena, capa, ⟨hmem, hdrop⟩, hat, e0, e1, e2, e3⟩ := HK.out i hlt
          have hed : cntL (cnt d) (l.drop i) m = if m ≤ 1000 then cntL (cnt d) (l.drop (i + 1)) (m + cnt d t) else m := by rw [hdrop, cntL_cons]
          have hfit := at_fit t _ hat d
          have HA := hid hat; have HS := hid hed; clear hat hed hdrop hmem
          rw [← hbw.cell (p := ⟨b, _, none⟩) (by simp; omega)] at e0 e1 e2 e3
          have HBW := hid hbw; clear hbw
          by_cases hm1 : m ≤ 1000
          · go_wp2_with (go_at_call 31; refine (HI.out t _ B _ (At.below HBW.out hB HA.out) (by omega)).mono ?_; rintro e w2 ⟨rfl, hb2⟩)
            go_roundw
            case rel =>
              refine ⟨i + 1, m + cnt d t, by omega, by omega, by go_num, by go_num, ?_, HB.out.trans (hb2.mono (by omega))⟩
              show _ = _
              rw [HR.out, HS.out, if_pos hm1]
            case measure => simp [intOf]; omega
          · go_wp2
            go_ret
            refine ⟨?_, HBW.out⟩
            rw [HC.out, HR.out, HS.out, if_neg hm1]
            simp
        · obtain rfl : i = len := by omega
          have HBW := hid hbw; clear hbw
          have HA : Hid (cnt (d + 1) (.mk k n s l) = m) := by show _ = _; rw [HC.out, HR.out, ← HL.out, List.drop_length, cntL]
          go_wp2
          go_ret
          exact ⟨by rw [HA.out]; simp, HBW.out⟩
    · obtain rfl : len = 0 := by omega
      have hnil : l = [] := List.eq_nil_of_length_eq_zero HL.out
      subst hnil
      go_enter Try.func31, Try.ntmps31
      go_wp2_with fail
      go_loopw [5, 6] (fun mv iv wr => mv = .int .i64 (1 + (s.size : Int) / 200) ∧ iv = .int .i64 0 ∧ wr = w.alloc (.cells #[.int .i64 k, .int .i64 n, .string s, .slice p 0 cap] 24)) (fun _ iv _ => 0 - (intOf iv).toNat)
      case atStart => exact ⟨rfl, rfl, rfl⟩
      case round =>
        obtain ⟨rfl, rfl, rfl⟩ := hrel
        go_wp2
        go_ret
        exact ⟨by rw [HC.out, cntL]; simp, below_al' _ _⟩

theorem cnt_any : ∀ d, d ≤ 100 → SaidCnt d := by
  intro d
  induction d with
  | zero => intro _; exact cnt_zero
  | succ d ih => intro h; exact cnt_succ d (by omega) (ih (by omega))

/-! What few values are. -/
theorem cnt_pos (d : Nat) (t : T) : 1 ≤ cnt d t := by
  cases d with
  | zero => rw [cnt]; omega
  | succ d =>
    obtain ⟨k, n, s, l⟩ := t
    rw [cnt_mk]; split
    · omega
    · have := cntL_ge (cnt d) l (1 + s.size / 200); omega
theorem cntL_few {f : T → Nat} : ∀ (l : List T) (n : Nat), cntL f l n ≤ 200 → cntL f l n = n + (l.map f).sum := by
  intro l
  induction l with
  | nil => intro n h; rw [cntL]; simp
  | cons t r ih =>
    intro n h
    rw [cntL_cons] at h ⊢
    split at h
    · rename_i h1; rw [if_pos h1, ih _ h]; simp; omega
    · omega
/-- a tree that some value reads as -/
def Real (t : T) : Prop := ∃ (w : World) (P : Nat → Prop) (v : Value), AtP w P t v
theorem Real.kid {k n : Int} {s : ByteArray} {l : List T} (h : Real (.mk k n s l)) : (wfI k ∧ wfI n) ∧ ∀ t ∈ l, Real t := by
  obtain ⟨w, P, v, h⟩ := h
  rw [AtP] at h
  obtain ⟨hw, hs, p, cap, _, _, _, b, off, _, hk⟩ := h
  refine ⟨hw, fun t ht => ?_⟩
  obtain ⟨i, hi, rfl⟩ := List.mem_iff_getElem.1 ht
  obtain ⟨c0, c1, c2, c3, ha, _⟩ := hk i hi
  exact ⟨w, P, _, ha⟩

theorem few_enc (d : Nat) : ∀ t, Real t → cnt d t ≤ 200 → (enc t).length ≤ 211 * cnt d t ∧ hgt t ≤ d := by
  induction d with
  | zero => intro t _ h; rw [cnt] at h; omega
  | succ d ih =>
    intro t hr h
    obtain ⟨k, n, s, l⟩ := t
    obtain ⟨⟨_, wn⟩, hkid⟩ := hr.kid
    rw [cnt_mk] at h ⊢
    split at h
    · omega
    · rename_i hl
      rw [if_neg hl]
      have hsum := cntL_few l _ h
      rw [hsum] at h ⊢
      have key : ∀ r : List T, (∀ t ∈ r, Real t) → ((r.map (cnt d)).sum ≤ 200) → (encs r).length ≤ 211 * (r.map (cnt d)).sum ∧ hgts r ≤ d := by
        intro r
        induction r with
        | nil => intro _ _; rw [encs, hgts]; simp
        | cons t r ihr =>
          intro hre hr
          simp at hr
          have h1 := ih t (hre t (by simp)) (by omega)
          have h2 := ihr (fun t ht => hre t (by simp [ht])) (by omega)
          rw [encs_cons, hgts]
          simp; omega
      have hk := key l hkid (by omega)
      rw [enc_mk, hgt_mk]
      refine ⟨?_, by omega⟩
      have n1 := num_ten (u := s.size) (by omega)
      have n2 := num_ten (u := l.length) (by omega)
      have n3 := num_ten (uns_lt wn.1 wn.2)
      split
      · simp; omega
      · split
        · simp; omega
        · simp; omega

theorem Few_any (t : T) (w : World) (B : Nat) (v : Value) (hat : At w B t v) (hB : B ≤ w.heap.size) :
    Calls Try.prog 21 #[v, .int .i64 20] w fun e w' => e = .returned (.bool (decide (cnt 21 t ≤ 200))) ∧ Below w.heap.size w w' := by
  obtain ⟨k, n, s, p, len, cap, rfl⟩ := at_agg hat
  have hc : ∀ (w : World) (B : Nat) (v : Value), At w B t v → B ≤ w.heap.size → Calls Try.prog 31 #[v, .int .i64 20] w fun e w' => e = .returned (.int .i64 (cnt 21 t)) ∧ Below w.heap.size w w' := fun w B v h1 h2 => cnt_any 21 (by omega) t w B v h1 h2
  have HC := hid hc; have HA := hid hat; clear hc hat
  by_cases h : cnt 21 t ≤ 200
  all_goals
    go_enter Try.func21, Try.ntmps21
    go_wp2_with (go_at_call 31; refine (HC.out _ B _ (At.below (below_al' _ _) hB HA.out) (by simp; omega)).mono ?_; rintro e w1 ⟨rfl, hb1⟩)
    go_ret
    exact ⟨by simp [h]; try omega, (below_al' _ _).trans (hb1.mono (by simp))⟩

set_option maxHeartbeats 1000000 in
theorem few_any (t : T) (w : World) (b : Nat) (k n : Int) (s : ByteArray) (p : Option Addr) (len cap : Nat) (hat : At w w.heap.size t (.agg #[.int .i64 k, .int .i64 n, .string s, .slice p len cap])) (hb : b < w.heap.size)
    (c0 : w.cell? ⟨b, 0, none⟩ = some (.int .i64 k)) (c1 : w.cell? ⟨b, 1, none⟩ = some (.int .i64 n)) (c2 : w.cell? ⟨b, 2, none⟩ = some (.string s)) (c3 : w.cell? ⟨b, 3, none⟩ = some (.slice p len cap)) :
    Calls Try.prog 7 #[.slice (some ⟨b, 0, none⟩) 1 1] w fun e w' => e = .returned (.bool (decide (cnt 21 t ≤ 200))) ∧ Below w.heap.size w w' := by
  have HA := hid hat; clear hat
  go_enter Try.func7, Try.ntmps7
  go_wp2_with fail
  go_loopw [7] (fun iv wr => ∃ i : Nat, i ≤ 1 ∧ iv = .int .i64 i ∧ Below w.heap.size w wr ∧ Hid (i = 1 → cnt 21 t ≤ 200)) (fun iv _ => 1 - (intOf iv).toNat)
  case atStart => exact ⟨0, by omega, rfl, Below.refl _ _, fun h => by omega⟩
  case round =>
    obtain ⟨i, hi, rfl, hbw, HI⟩ := hrel
    have hsz := hbw.size
    rw [← hbw.cell (p := ⟨b, _, none⟩) hb] at c0 c1 c2 c3
    by_cases h0 : i = 0
    · subst h0
      by_cases h : cnt 21 t ≤ 200
      · have HH := hid h
        have hd : decide (cnt 21 t ≤ 200) = true := by simp [h]
        have HD := hid hd; clear h hd
        go_wp2_with (go_at_call 21; refine (Few_any t _ w.heap.size _ (At.below (hbw.trans ((below_al' _ _).mono hsz)) (Nat.le_refl _) HA.out) (by simp; omega)).mono ?_; rintro e w1 ⟨rfl, hb1⟩; rw [HD.out])
        go_roundw
        case rel => exact ⟨1, by omega, by go_num, (hbw.trans ((below_al' _ _).mono hsz)).trans (hb1.mono (by simp; omega)), fun _ => HH.out⟩
        case measure => simp [intOf]
      · have hd : decide (cnt 21 t ≤ 200) = false := by simp [h]
        have HD := hid hd; clear h hd
        go_wp2_with (go_at_call 21; refine (Few_any t _ w.heap.size _ (At.below (hbw.trans ((below_al' _ _).mono hsz)) (Nat.le_refl _) HA.out) (by simp; omega)).mono ?_; rintro e w1 ⟨rfl, hb1⟩; rw [HD.out])
        go_ret
        exact ⟨by rw [HD.out]; rfl, (hbw.trans ((below_al' _ _).mono hsz)).trans (hb1.mono (by simp; omega))⟩
    · obtain rfl : i = 1 := by omega
      have hd : decide (cnt 21 t ≤ 200) = true := by simp [HI.out rfl]
      have HD := hid hd; clear hd
      go_wp2
      go_ret
      exact ⟨by rw [HD.out]; rfl, hbw⟩

end Go.Proofs.Ytiklpimnmbjenaa

/- Contracts of the functions of package codec and lemmas for them: what each call returns and what becomes of memory, for every input within the bounds that each theorem states. -/
import Derived.Test.YtiklpimnmbjenaaE
import Derived.Deep.QuietTactic
import Derived.BigQuiet
import Derived.WalkSmall
import Derived.Laws.EntriesVeiled
import Derived.Deep.RegionWith
import Derived.Deep.RegionHeld3
import Derived.StillTactics
import Derived.Laws.Pointers
namespace Go.Proofs.Ytiklpimnmbjenaa
open Go.RowKit Go
set_option linter.unusedVariables false
set_option linter.unusedSimpArgs false

theorem uns_any (a : Int) (w : World) (h : wfI a) : Calls Try.prog 49 #[.int .i64 a] w fun e w' => e = .returned (.int .u64 (uns a : Nat)) ∧ w = w' :=
  (unsigned_any a w).mono fun e w' ⟨h1, h2⟩ => ⟨by rw [h1, uns_bits a h.1 h.2], h2⟩

theorem sizeInt_any (k n : Int) (s : ByteArray) (p : Option Addr) (len cap : Nat) (w : World) (h : wfI n) :
    Calls Try.prog 42 #[.agg #[.int .i64 k, .int .i64 n, .string s, .slice p len cap]] w fun e w' => e = .returned (.int .i64 (num (uns n)).length) ∧ Below w.heap.size w w' := by
  go_enter Try.func42, Try.ntmps42
  go_wp2_with (first | (go_at_call 49; refine (uns_any _ _ h).mono ?_; rintro e w1 ⟨rfl, rfl⟩) | (go_at_call 48; refine (sizeNumeral_any _ _ (uns_lt h.1 h.2)).mono ?_; rintro e w1 ⟨rfl, rfl⟩))
  go_ret
  exact ⟨rfl, (Below.refl _ _).alloc (Nat.le_refl _) _⟩

theorem sizeText_any (k n : Int) (s : ByteArray) (p : Option Addr) (len cap : Nat) (w : World) (h : s.size ≤ 1000000) :
    Calls Try.prog 44 #[.agg #[.int .i64 k, .int .i64 n, .string s, .slice p len cap]] w fun e w' => e = .returned (.int .i64 ((num s.size).length + s.size : Nat)) ∧ Below w.heap.size w w' := by
  have hn := num_ten (u := s.size) (by omega)
  go_enter Try.func44, Try.ntmps44
  go_wp2_with (fail)
  go_quiet ((go_at_call 48; exact Calls.quiet_of_same ((sizeNumeral_any _ _ (by show _ < _; omega)).mono fun e w' h => ⟨h.1, h.2.symm⟩)))
  go_wp2
  go_ret
  exact ⟨by simp, below_drewN ((Below.refl _ _).alloc (Nat.le_refl _) _) _⟩

def SaidSize (t : T) : Prop := ∀ (w : World) (B : Nat) (v : Value), At w B t v → B ≤ w.heap.size → (dp t).isSome = true → (enc t).length ≤ 1000000 →
  Calls Try.prog 24 #[v] w fun e w' => e = .returned (.int .i64 (enc t).length) ∧ Below w.heap.size w w'

set_option maxRecDepth 100000 in
set_option maxHeartbeats 400000 in
theorem sizeList_step (n : Int) (s : ByteArray) (l : List T) (ih : ∀ t ∈ l, SaidSize t) (w : World) (B : Nat) (v : Value) (hat : At w B (.mk 3 n s l) v) (hB : B ≤ w.heap.size)
    (hgood : ∀ t ∈ l, (dp t).isSome = true) (hen : (num l.length).length + (encs l).length ≤ 1000000) (hlen : l.length ≤ 1000000) :
    Calls Try.prog 46 #[v] w fun e w' => e = .returned (.int .i64 ((num l.length).length + (encs l).length : Nat)) ∧ Below w.heap.size w w' := by
  obtain ⟨_, p, len, cap, HL, rfl, hlc, hm, b, off, hp, hk⟩ := at_kid hat
  clear hat
  rw [HL.out] at hen hlen ⊢
  have HG := hid hgood; clear hgood
  have hn := num_ten (u := len) (by omega)
  by_cases hl0 : 0 < len
  · obtain ⟨rfl, hbB⟩ := hp hl0
    clear hp
    have HK := hid hk; clear hk
    go_enter Try.func46, Try.ntmps46
    go_wp2_with (go_at_call 48; refine (sizeNumeral_any _ _ (by show _ < _; omega)).mono ?_; rintro e w1 ⟨rfl, rfl⟩)
    go_loopw [3, 14] (fun mv iv wr => ∃ i m : Nat, i ≤ len ∧ m + (encs (l.drop i)).length = (num len).length + (encs l).length ∧ mv = .int .i64 m ∧ iv = .int .i64 i ∧ Below w.heap.size w wr) (fun _ iv _ => len - (intOf iv).toNat)
    case atStart => exact ⟨0, _, by omega, rfl, rfl, rfl, (Below.refl _ _).alloc (Nat.le_refl _) _⟩
    case round =>
      obtain ⟨i, m, hi, hm1, rfl, rfl, hbr⟩ := hrel
      have hsz := hbr.size
      have hm2 : m ≤ 1000000 := by omega
      have HM1 := hid hm1; clear hm1
      by_cases hlt : i < len
      · obtain ⟨t, k', n', s', p', len', cap', ⟨hmem, hdrop⟩, hatk, e0, e1, e2, e3⟩ := HK.out i hlt
        have hih := ih t hmem
        have hg' := HG.out t hmem
        have hl1 := enc_len_mem hmem
        have hl2 : (enc t).length ≤ 1000000 := by omega
        have hed := encs_drop hdrop
        have HM := hid hed; clear hdrop hmem hl1 hed
        have HA := hid hatk; clear hatk
        rw [← hbr.cell (p := ⟨b, _, none⟩) (by simp; omega)] at e0 e1 e2 e3
        have HI := hid hih; have HG' := hid hg'; clear hih hg'
        go_wp2_with (go_at_call 24; refine (HI.out _ B _ (At.below (hbr.alloc (by omega) _) hB HA.out) (by simp; omega) HG'.out (by omega)).mono ?_; rintro e w2 ⟨rfl, hb2⟩)
        go_roundw
        case rel =>
          refine ⟨i + 1, m + (enc t).length, by omega, ?_, by go_num, by go_num, (hbr.alloc (by omega) _).trans (hb2.mono (by simp; omega))⟩
          have h := HM1.out
          rw [HM.out] at h
          simp at h; omega
        case measure => simp [intOf]; omega
      · obtain rfl : i = len := by omega
        go_wp2
        go_ret
        refine ⟨?_, hbr⟩
        have h := HM1.out
        rw [← HL.out, List.drop_length, encs] at h
        simp at h
        simp [h, ← HL.out]
  · obtain rfl : len = 0 := by omega
    have hnil : l = [] := List.eq_nil_of_length_eq_zero HL.out
    subst hnil
    go_enter Try.func46, Try.ntmps46
    go_wp2_with (go_at_call 48; refine (sizeNumeral_any 0 _ (by show _ < _; omega)).mono ?_; rintro e w1 ⟨rfl, rfl⟩)
    go_loopw [3, 14] (fun mv iv wr => mv = .int .i64 (num 0).length ∧ iv = .int .i64 0 ∧ Below w.heap.size w wr) (fun _ iv _ => 0 - (intOf iv).toNat)
    case atStart => exact ⟨rfl, rfl, (Below.refl _ _).alloc (Nat.le_refl _) _⟩
    case round =>
      obtain ⟨rfl, rfl, hbr⟩ := hrel
      go_wp2
      go_ret
      exact ⟨by simp [encs], hbr⟩


abbrev Wr : Value := .agg #[Value.nilFunc, Value.nilFunc, Value.func (Fn.func 42) #[] #[], Value.func (Fn.func 43) #[] #[], Value.func (Fn.func 44) #[] #[], Value.func (Fn.func 45) #[] #[], Value.func (Fn.func 46) #[] #[], Value.func (Fn.func 47) #[] #[]]
theorem writings_any (w : World) : Calls Try.prog 32 #[] w fun e w' => e = .returned Wr ∧ Below w.heap.size w w' := by
  go_enter Try.func32, Try.ntmps32
  go_wp2
  exact bodyPost_ret (v := Wr) (by simp [results, Try.results32, go_sem]) rfl ⟨rfl, by repeat (first | exact Below.refl _ _ | apply Below.alloc | apply Below.setCell | simp)⟩

theorem wr_1 (w : World) : (Instr.index 59 Wr (.int .i64 1)).run Try.prog w = .ok (.agg #[Value.func (Fn.func 42) #[] #[], Value.func (Fn.func 43) #[] #[]]) w := by kernel_rfl
theorem wr_2 (w : World) : (Instr.index 59 Wr (.int .i64 2)).run Try.prog w = .ok (.agg #[Value.func (Fn.func 44) #[] #[], Value.func (Fn.func 45) #[] #[]]) w := by kernel_rfl
theorem wr_3 (w : World) : (Instr.index 59 Wr (.int .i64 3)).run Try.prog w = .ok (.agg #[Value.func (Fn.func 46) #[] #[], Value.func (Fn.func 47) #[] #[]]) w := by kernel_rfl

theorem fd_10 (w : World) : (Instr.field 58 (.agg #[Value.func (Fn.func 42) #[] #[], Value.func (Fn.func 43) #[] #[]]) 0).run Try.prog w = .ok (Value.func (Fn.func 42) #[] #[]) w := by kernel_rfl
theorem fd_11 (w : World) : (Instr.field 58 (.agg #[Value.func (Fn.func 42) #[] #[], Value.func (Fn.func 43) #[] #[]]) 1).run Try.prog w = .ok (Value.func (Fn.func 43) #[] #[]) w := by kernel_rfl
theorem fd_20 (w : World) : (Instr.field 58 (.agg #[Value.func (Fn.func 44) #[] #[], Value.func (Fn.func 45) #[] #[]]) 0).run Try.prog w = .ok (Value.func (Fn.func 44) #[] #[]) w := by kernel_rfl
theorem fd_21 (w : World) : (Instr.field 58 (.agg #[Value.func (Fn.func 44) #[] #[], Value.func (Fn.func 45) #[] #[]]) 1).run Try.prog w = .ok (Value.func (Fn.func 45) #[] #[]) w := by kernel_rfl
theorem fd_30 (w : World) : (Instr.field 58 (.agg #[Value.func (Fn.func 46) #[] #[], Value.func (Fn.func 47) #[] #[]]) 0).run Try.prog w = .ok (Value.func (Fn.func 46) #[] #[]) w := by kernel_rfl
theorem fd_31 (w : World) : (Instr.field 58 (.agg #[Value.func (Fn.func 46) #[] #[], Value.func (Fn.func 47) #[] #[]]) 1).run Try.prog w = .ok (Value.func (Fn.func 47) #[] #[]) w := by kernel_rfl

set_option maxHeartbeats 1000000 in
theorem size_i (n : Int) (s : ByteArray) (p : Option Addr) (len cap : Nat) (w : World) (wn : wfI n) :
    Calls Try.prog 24 #[.agg #[.int .i64 1, .int .i64 n, .string s, .slice p len cap]] w fun e w' => e = .returned (.int .i64 (1 + (num (uns n)).length : Nat)) ∧ Below w.heap.size w w' := by
  have hw := wr_1
  have hw' := fd_10
  have hn := num_ten (uns_lt wn.1 wn.2)
  have hwr : IntKind.i64.wrap (1 + (((num (uns n)).length : Nat) : Int)) = 1 + (((num (uns n)).length : Nat) : Int) := IntWalk.i64_in _ (by omega)
  have HWR := hid hwr; clear hwr
  go_enter Try.func24, Try.ntmps24
  go_wp2_with fail
  go_region_held3 (fun w' => w'.cell? ⟨w.heap.size, 0, none⟩ = some (.int .i64 1) ∧ w'.cell? ⟨w.heap.size, 1, none⟩ = some (.int .i64 n) ∧ w'.cell? ⟨w.heap.size, 2, none⟩ = some (.string s) ∧ w'.cell? ⟨w.heap.size, 3, none⟩ = some (.slice p len cap) ∧ w.heap.size < w'.heap.size)
     ((refine ⟨?_, ?_, ?_, ?_, ?_⟩ <;> first | (go_keep; done) | (have h1 := Below.size (by assumption); omega)))
     (first | (go_at_call 42; refine (sizeInt_any _ _ _ _ _ _ _ wn).mono ?_; rintro e w1 ⟨rfl, hb1⟩; obtain ⟨hc1, hf1⟩ := bcell hb1) | (go_at_call 32; refine (writings_any _).mono ?_; rintro e w0 ⟨rfl, hb0⟩; obtain ⟨hc0, hf0⟩ := bcell hb0))
  go_wp2
  go_ret
  refine ⟨?_, (((Below.refl _ _).alloc (Nat.le_refl _) _).drew.trans (hb0.mono (by simp))).trans (hb1.mono (by have := hb0.size; simp at this; omega))⟩
  have := HWR.out
  simp at this ⊢
  exact this

set_option maxHeartbeats 1000000 in
theorem size_t (n : Int) (s : ByteArray) (p : Option Addr) (len cap : Nat) (w : World) (hs : s.size ≤ 1000000) :
    Calls Try.prog 24 #[.agg #[.int .i64 2, .int .i64 n, .string s, .slice p len cap]] w fun e w' => e = .returned (.int .i64 (1 + ((num s.size).length + s.size) : Nat)) ∧ Below w.heap.size w w' := by
  have hw := wr_2
  have hw' := fd_20
  have hn := num_ten (u := s.size) (by omega)
  have hwr : IntKind.i64.wrap (1 + ((((num s.size).length + s.size) : Nat) : Int)) = 1 + ((((num s.size).length + s.size) : Nat) : Int) := IntWalk.i64_in _ (by omega)
  have HWR := hid hwr; clear hwr
  go_enter Try.func24, Try.ntmps24
  go_wp2_with fail
  go_region_held3 (fun w' => w'.cell? ⟨w.heap.size, 0, none⟩ = some (.int .i64 2) ∧ w'.cell? ⟨w.heap.size, 1, none⟩ = some (.int .i64 n) ∧ w'.cell? ⟨w.heap.size, 2, none⟩ = some (.string s) ∧ w'.cell? ⟨w.heap.size, 3, none⟩ = some (.slice p len cap) ∧ w.heap.size < w'.heap.size)
     ((refine ⟨?_, ?_, ?_, ?_, ?_⟩ <;> first | (go_keep; done) | (have h1 := Below.size (by assumption); omega)))
     (first | (go_at_call 44; refine (sizeText_any _ _ _ _ _ _ _ hs).mono ?_; rintro e w1 ⟨rfl, hb1⟩; obtain ⟨hc1, hf1⟩ := bcell hb1) | (go_at_call 32; refine (writings_any _).mono ?_; rintro e w0 ⟨rfl, hb0⟩; obtain ⟨hc0, hf0⟩ := bcell hb0))
  go_wp2
  go_ret
  refine ⟨?_, (((Below.refl _ _).alloc (Nat.le_refl _) _).drew.trans (hb0.mono (by simp))).trans (hb1.mono (by have := hb0.size; simp at this; omega))⟩
  have := HWR.out
  simp at this ⊢
  exact this

set_option maxHeartbeats 1000000 in
theorem size_l (n : Int) (s : ByteArray) (p : Option Addr) (len cap : Nat) (l : List T) (w : World) (ih : ∀ t ∈ l, SaidSize t) (B : Nat) (hat : Hid (At w B (.mk 3 n s l) (.agg #[.int .i64 3, .int .i64 n, .string s, .slice p len cap]))) (hB : B ≤ w.heap.size)
    (hgood : Hid (∀ t ∈ l, (dp t).isSome = true)) (hen : (num l.length).length + (encs l).length ≤ 1000000) (hlen : l.length ≤ 1000000) :
    Calls Try.prog 24 #[.agg #[.int .i64 3, .int .i64 n, .string s, .slice p len cap]] w fun e w' => e = .returned (.int .i64 (1 + ((num l.length).length + (encs l).length) : Nat)) ∧ Below w.heap.size w w' := by
  have hw := wr_3
  have hw' := fd_30
  have ih := hid ih
  have hwr : IntKind.i64.wrap (1 + ((((num l.length).length + (encs l).length) : Nat) : Int)) = 1 + ((((num l.length).length + (encs l).length) : Nat) : Int) := IntWalk.i64_in _ (by omega)
  have HWR := hid hwr; clear hwr
  go_enter Try.func24, Try.ntmps24
  go_wp2_with fail
  go_region_held3 (fun w' => w'.cell? ⟨w.heap.size, 0, none⟩ = some (.int .i64 3) ∧ w'.cell? ⟨w.heap.size, 1, none⟩ = some (.int .i64 n) ∧ w'.cell? ⟨w.heap.size, 2, none⟩ = some (.string s) ∧ w'.cell? ⟨w.heap.size, 3, none⟩ = some (.slice p len cap) ∧ w.heap.size < w'.heap.size)
     ((refine ⟨?_, ?_, ?_, ?_, ?_⟩ <;> first | (go_keep; done) | (have h1 := Below.size (by assumption); omega)))
     (first | (go_at_call 46; refine (sizeList_step n s l ih.out _ B _ (At.below (((Below.refl _ _).alloc (Nat.le_refl _) _).drew.trans (hb0.mono (by simp))) hB hat.out) (by have := hb0.size; simp at this; omega) hgood.out hen hlen).mono ?_; rintro e w1 ⟨rfl, hb1⟩; obtain ⟨hc1, hf1⟩ := bcell hb1) | (go_at_call 32; refine (writings_any _).mono ?_; rintro e w0 ⟨rfl, hb0⟩; obtain ⟨hc0, hf0⟩ := bcell hb0))
  go_wp2
  go_ret
  refine ⟨?_, (((Below.refl _ _).alloc (Nat.le_refl _) _).drew.trans (hb0.mono (by simp))).trans (hb1.mono (by have := hb0.size; simp at this; omega))⟩
  have := HWR.out
  simp at this ⊢
  exact this

theorem size_any (t : T) : SaidSize t := by
  induction t using T.all with
  | step k n s l ih =>
    intro w B v hat hB hd hen
    obtain ⟨hc, hk, hgood⟩ := dp_good hd
    obtain ⟨wk, wn⟩ := at_wf hat
    rw [enc_mk] at hen ⊢
    have hat' := hat
    obtain ⟨hs, p, len, cap, HL, rfl, hlc, hm, b, off, hp, hkk⟩ := at_kid hat
    rcases hk with rfl | rfl | rfl
    · refine (size_i n s p len cap w wn).mono fun e w' h => ⟨?_, h.2⟩
      rw [h.1]; simp; omega
    · simp at hen
      refine (size_t n s p len cap w (by omega)).mono fun e w' h => ⟨?_, h.2⟩
      rw [h.1]; simp; omega
    · simp at hen
      refine (size_l n s p len cap l w ih B hat' hB hgood (by omega) ?_).mono fun e w' h => ⟨?_, h.2⟩
      · have := encs_ge l; omega
      · rw [h.1]; simp; omega
end Go.Proofs.Ytiklpimnmbjenaa

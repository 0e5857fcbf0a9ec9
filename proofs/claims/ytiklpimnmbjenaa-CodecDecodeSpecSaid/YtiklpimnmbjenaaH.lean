/- Contracts of the functions of package codec and lemmas for them: what each call returns and what becomes of memory, for every input within the bounds that each theorem states. -/
import Derived.Test.YtiklpimnmbjenaaG
namespace Go.Proofs.Ytiklpimnmbjenaa
open Go.RowKit Go
set_option linter.unusedVariables false
set_option linter.unusedSimpArgs false

theorem one_cell' (w : World) (v : Value) (t : TypeId) (n : Nat) (hn : n = w.heap.size) : ∀ j u, [v][j]? = some u → (w.alloc (.cells #[v] t)).drew.cell? ((⟨n, 0, none⟩ : Addr).add j) = some u := by
  subst hn; exact one_cell w v t
set_option maxHeartbeats 1000000 in
theorem write_i (n : Int) (s : ByteArray) (p : Option Addr) (len cap' : Nat) (g k cap : Nat) (xs : List Int) (w : World) (wn : wfI n) (hcap : k + (1 + (num (uns n)).length) ≤ cap) (hm : cap ≤ 1000000)
    (hown : Row w g k cap xs) :
    Calls Try.prog 22 #[.slice (some ⟨g, 0, none⟩) k cap, .agg #[.int .i64 1, .int .i64 n, .string s, .slice p len cap']] w fun e w' => e = .returned (.slice (some ⟨g, 0, none⟩) (k + (1 + (num (uns n)).length)) cap) ∧ Row w' g (k + (1 + (num (uns n)).length)) cap (xs ++ 1 :: num (uns n)) ∧ w.grownBy w' (some g) := by
  obtain ⟨i0, hi, hz0, hz1, hz2⟩ := info_parts Try.info5
  have hgl : g < w.heap.size := row_lt hown
  have HO : Hid (Row (w.alloc (.cells #[.int .i64 1, .int .i64 n, .string s, .slice p len cap'] 24)).drew g k cap xs) := (World.ownsRow.alloc hown _).drew
  have HO2 : Hid (Row ((w.alloc (.cells #[.int .i64 1, .int .i64 n, .string s, .slice p len cap'] 24)).alloc (.cells #[.int .u8 1] 5)).drew g k cap xs) := (World.ownsRow.alloc (World.ownsRow.alloc hown _) _).drew
  clear hown
  have hne : g ≠ w.heap.size := by omega
  have hw := wr_1
  have hw' := fd_11
  have h8 : IntKind.u8.wrap 1 = 1 := by decide
  have hn := num_pos (uns n)
  go_enter Try.func22, Try.ntmps22
  go_wp2_with fail
  go_region_held3 (fun w' => w'.cell? ⟨w.heap.size, 0, none⟩ = some (.int .i64 1) ∧ w'.cell? ⟨w.heap.size, 1, none⟩ = some (.int .i64 n) ∧ w'.cell? ⟨w.heap.size, 2, none⟩ = some (.string s) ∧ w'.cell? ⟨w.heap.size, 3, none⟩ = some (.slice p len cap') ∧ w.heap.size < w'.heap.size)
     (((repeat' apply And.intro) <;> first | (go_keep; done) | (simp; omega) | (rw [hc0 _ _ (by simp; omega)]; go_keep; done) | (have h1 := hb0.size; simp at h1 ⊢; omega) | (refine hg1.cell ?_ ?_; go_keep; (simp; omega)) | (have h1 := hg1.size; have h2 := hb0.size; simp at h1 h2; omega) | (refine hg2.cell ?_ ?_; go_keep; (simp; omega)) | (have h0 := hg2.size; have h1 := hg1.size; have h2 := hb0.size; simp at h1 h2; omega)))
     (first | (go_at_call 43; refine (writeInt_any _ _ _ _ _ _ _ _ _ _ wn (by omega) hm hr1).mono ?_; rintro e w2 ⟨rfl, hr2, hg2⟩)  | (go_at_call 32; refine (writings_any _).mono ?_; rintro e w0 ⟨rfl, hb0⟩; obtain ⟨hc0, hf0⟩ := bcell hb0)  | (refine step_append_fits rfl (.tmp 10) (.tmp 14) 27 rfl g 5 i0 1 Try.underlying27 hi hz1 g k cap _ rfl ((row_below HO.out hb0 (by simp; omega)).alloc _) _ 1 1 [.int .u8 1] rfl rfl (one_cell _ _ _) (one_one _ _) (by omega) ?_; intro w1 hr0 hg1; have hr1 : Row w1 g (k + 1) cap (xs ++ [1]) := by (unfold Row; simpa using hr0))  | (refine step_append_fits rfl (.tmp 10) (.tmp 14) 27 rfl g 5 i0 1 Try.underlying27 hi hz1 g k cap _ rfl (row_below HO2.out hb0 (by simp; omega)) _ 1 1 [.int .u8 1] rfl rfl (cell_below (one_cell' _ _ _ _ (by simp)) hb0 (by simp)) (one_one _ _) (by omega) ?_; intro w1 hr0 hg1; have hr1 : Row w1 g (k + 1) cap (xs ++ [1]) := by (unfold Row; simpa using hr0)))
  all_goals go_wp2
  all_goals go_ret
  all_goals
    refine ⟨by simp [Nat.add_assoc], by simpa [Nat.add_assoc] using hr2, ?_⟩
    first
      | exact grown_trans (grown_trans (grown_trans (grown_trans (grown_drew (grown_alloc _ _ _)) (grown_of_below hb0)) (grown_alloc _ _ _)) hg1) hg2
      | exact grown_trans (grown_trans (grown_trans (grown_drew (grown_trans (grown_alloc _ _ _) (grown_alloc _ _ _))) (grown_of_below hb0)) hg1) hg2

set_option maxHeartbeats 1000000 in
theorem write_t (n : Int) (s : ByteArray) (p : Option Addr) (len cap' : Nat) (g k cap : Nat) (xs : List Int) (w : World) (hcap : k + (1 + ((num s.size).length + s.size)) ≤ cap) (hm : cap ≤ 1000000)
    (hown : Row w g k cap xs) :
    Calls Try.prog 22 #[.slice (some ⟨g, 0, none⟩) k cap, .agg #[.int .i64 2, .int .i64 n, .string s, .slice p len cap']] w fun e w' => e = .returned (.slice (some ⟨g, 0, none⟩) (k + (1 + ((num s.size).length + s.size))) cap) ∧ Row w' g (k + (1 + ((num s.size).length + s.size))) cap (xs ++ 2 :: (num s.size ++ strBytes s)) ∧ w.grownBy w' (some g) := by
  obtain ⟨i0, hi, hz0, hz1, hz2⟩ := info_parts Try.info5
  have hgl : g < w.heap.size := row_lt hown
  have HO : Hid (Row (w.alloc (.cells #[.int .i64 2, .int .i64 n, .string s, .slice p len cap'] 24)).drew g k cap xs) := (World.ownsRow.alloc hown _).drew
  have HO2 : Hid (Row ((w.alloc (.cells #[.int .i64 2, .int .i64 n, .string s, .slice p len cap'] 24)).alloc (.cells #[.int .u8 2] 5)).drew g k cap xs) := (World.ownsRow.alloc (World.ownsRow.alloc hown _) _).drew
  clear hown
  have hne : g ≠ w.heap.size := by omega
  have hw := wr_2
  have hw' := fd_21
  have h8 : IntKind.u8.wrap 2 = 2 := by decide
  have hn := num_pos s.size
  go_enter Try.func22, Try.ntmps22
  go_wp2_with fail
  go_region_held3 (fun w' => w'.cell? ⟨w.heap.size, 0, none⟩ = some (.int .i64 2) ∧ w'.cell? ⟨w.heap.size, 1, none⟩ = some (.int .i64 n) ∧ w'.cell? ⟨w.heap.size, 2, none⟩ = some (.string s) ∧ w'.cell? ⟨w.heap.size, 3, none⟩ = some (.slice p len cap') ∧ w.heap.size < w'.heap.size)
     (((repeat' apply And.intro) <;> first | (go_keep; done) | (simp; omega) | (rw [hc0 _ _ (by simp; omega)]; go_keep; done) | (have h1 := hb0.size; simp at h1 ⊢; omega) | (refine hg1.cell ?_ ?_; go_keep; (simp; omega)) | (have h1 := hg1.size; have h2 := hb0.size; simp at h1 h2; omega) | (refine hg2.cell ?_ ?_; go_keep; (simp; omega)) | (have h0 := hg2.size; have h1 := hg1.size; have h2 := hb0.size; simp at h1 h2; omega)))
     (first | (go_at_call 45; refine (writeText_any _ _ _ _ _ _ _ _ _ _ (by omega) hm hr1).mono ?_; rintro e w2 ⟨rfl, hr2, hg2⟩)  | (go_at_call 32; refine (writings_any _).mono ?_; rintro e w0 ⟨rfl, hb0⟩; obtain ⟨hc0, hf0⟩ := bcell hb0)  | (refine step_append_fits rfl (.tmp 10) (.tmp 14) 27 rfl g 5 i0 1 Try.underlying27 hi hz1 g k cap _ rfl ((row_below HO.out hb0 (by simp; omega)).alloc _) _ 1 1 [.int .u8 2] rfl rfl (one_cell _ _ _) (one_one _ _) (by omega) ?_; intro w1 hr0 hg1; have hr1 : Row w1 g (k + 1) cap (xs ++ [2]) := by (unfold Row; simpa using hr0))  | (refine step_append_fits rfl (.tmp 10) (.tmp 14) 27 rfl g 5 i0 1 Try.underlying27 hi hz1 g k cap _ rfl (row_below HO2.out hb0 (by simp; omega)) _ 1 1 [.int .u8 2] rfl rfl (cell_below (one_cell' _ _ _ _ (by simp)) hb0 (by simp)) (one_one _ _) (by omega) ?_; intro w1 hr0 hg1; have hr1 : Row w1 g (k + 1) cap (xs ++ [2]) := by (unfold Row; simpa using hr0)))
  all_goals go_wp2
  all_goals go_ret
  all_goals
    refine ⟨by simp [Nat.add_assoc], by simpa [Nat.add_assoc] using hr2, ?_⟩
    first
      | exact grown_trans (grown_trans (grown_trans (grown_trans (grown_drew (grown_alloc _ _ _)) (grown_of_below hb0)) (grown_alloc _ _ _)) hg1) hg2
      | exact grown_trans (grown_trans (grown_trans (grown_drew (grown_trans (grown_alloc _ _ _) (grown_alloc _ _ _))) (grown_of_below hb0)) hg1) hg2

def SaidWrite (t : T) : Prop := ∀ (w : World) (B : Nat) (v : Value) (g k cap : Nat) (xs : List Int), At w B t v → B ≤ w.heap.size → B ≤ g → (dp t).isSome = true → k + (enc t).length ≤ cap → cap ≤ 1000000 → Row w g k cap xs →
  Calls Try.prog 22 #[.slice (some ⟨g, 0, none⟩) k cap, v] w fun e w' => e = .returned (.slice (some ⟨g, 0, none⟩) (k + (enc t).length) cap) ∧ Row w' g (k + (enc t).length) cap (xs ++ enc t) ∧ w.grownBy w' (some g)

set_option maxRecDepth 100000 in
set_option maxHeartbeats 1000000 in
theorem writeList_step (n : Int) (s : ByteArray) (l : List T) (ih : ∀ t ∈ l, SaidWrite t) (w : World) (B : Nat) (v : Value) (g k cap : Nat) (xs : List Int) (hat : At w B (.mk 3 n s l) v) (hB : B ≤ w.heap.size) (hBg : B ≤ g)
    (hgood : ∀ t ∈ l, (dp t).isSome = true) (hcap : k + ((num l.length).length + (encs l).length) ≤ cap) (hm' : cap ≤ 1000000) (hown : Row w g k cap xs) :
    Calls Try.prog 47 #[.slice (some ⟨g, 0, none⟩) k cap, v] w fun e w' => e = .returned (.slice (some ⟨g, 0, none⟩) (k + ((num l.length).length + (encs l).length)) cap) ∧ Row w' g (k + ((num l.length).length + (encs l).length)) cap (xs ++ (num l.length ++ encs l)) ∧ w.grownBy w' (some g) := by
  obtain ⟨_, p, len, cap', HL, rfl, hlc, hm, b, off, hp, hk⟩ := at_kid hat
  clear hat
  have hlen := encs_ge l
  rw [HL.out] at hcap hlen ⊢
  have hgl : g < w.heap.size := row_lt hown
  have HO := hid (hown.alloc (.cells #[.int .i64 3, .int .i64 n, .string s, .slice p len cap'] 24))
  clear hown
  have HG := hid hgood; clear hgood
  by_cases hl0 : 0 < len
  · obtain ⟨rfl, hbB⟩ := hp hl0
    clear hp
    have HK := hid hk; clear hk
    go_enter Try.func47, Try.ntmps47
    go_wp2_with (go_at_call 50; refine (writeNumeral_any _ _ _ xs len _ (by show _ < _; omega) (by omega) hm' HO.out).mono ?_; rintro e w1 ⟨rfl, hr1, hg1⟩; have hc1 : w1.cell? ⟨w.heap.size, 3, none⟩ = some (.slice (some ⟨b, off, none⟩) len cap') := hg1.cell (by simp) (by simp; omega))
    go_loopw [0, 16] (fun bv iv wr => ∃ (i : Nat) (pre : List Int), i ≤ len ∧ Hid (num len ++ encs l = pre ++ encs (l.drop i)) ∧ bv = .slice (some ⟨g, 0, none⟩) (k + pre.length) cap ∧ iv = .int .i64 i ∧ Row wr g (k + pre.length) cap (xs ++ pre) ∧ w.grownBy wr (some g)) (fun _ iv _ => len - (intOf iv).toNat)
    case atStart => exact ⟨0, num len, by omega, rfl, rfl, rfl, hr1, grown_trans (grown_alloc _ _ _) hg1⟩
    case round =>
      obtain ⟨i, pre, hi, HE, rfl, rfl, hr, hg⟩ := hrel
      have hsz := hg.size
      have hbr := below_of_grown hg hBg hB
      have hne : g ≠ wr.heap.size := by have := row_lt hr; omega
      by_cases hlt : i < len
      · obtain ⟨t, k', n', s', p', len', cap', ⟨hmem, hdrop⟩, hatk, e0, e1, e2, e3⟩ := HK.out i hlt
        have hih := ih t hmem
        have hg' := HG.out t hmem
        have hed := encs_drop hdrop
        have hle : k + pre.length + (enc t).length ≤ cap := by
          have h1 := congrArg List.length HE.out
          rw [hed] at h1
          simp at h1; omega
        have HM := hid hed; clear hdrop hmem hed
        have HA := hid hatk; clear hatk
        have HR := hid (hr.alloc (.cells #[.int .i64 k', .int .i64 n', .string s', .slice p' len' cap'] 24)); clear hr
        rw [← hbr.cell (p := ⟨b, _, none⟩) hbB] at e0 e1 e2 e3
        have HI := hid hih; have HG' := hid hg'; clear hih hg'
        go_wp2_with (go_at_call 22; refine (HI.out _ B _ g _ cap _ (At.below (hbr.alloc (by omega) _) (Nat.le_refl _) HA.out) (by simp; omega) hBg HG'.out (by omega) hm' HR.out).mono ?_; rintro e w2 ⟨rfl, hr2, hg2⟩)
        go_roundw
        case rel =>
          refine ⟨i + 1, pre ++ enc t, by omega, ?_, by simp [Nat.add_assoc], by go_num, by simpa [Nat.add_assoc] using hr2, grown_trans (grown_trans hg (grown_alloc _ _ _)) hg2⟩
          have h := HE.out
          rw [HM.out] at h
          show _ = _
          rw [h]; simp
        case measure => simp [intOf]; omega
      · obtain rfl : i = len := by omega
        go_wp2
        go_ret
        have h := HE.out
        rw [← HL.out, List.drop_length, encs] at h
        simp at h
        rw [← HL.out]
        refine ⟨?_, ?_, hg⟩
        · have h1 := congrArg List.length h
          simp at h1
          simp [h1]
        · rw [h]
          have h1 := congrArg List.length h
          simp at h1
          rw [h1]; exact hr
  · obtain rfl : len = 0 := by omega
    have hnil : l = [] := List.eq_nil_of_length_eq_zero HL.out
    subst hnil
    go_enter Try.func47, Try.ntmps47
    go_wp2_with (go_at_call 50; refine (writeNumeral_any _ _ _ xs 0 _ (by show _ < _; omega) (by omega) hm' HO.out).mono ?_; rintro e w1 ⟨rfl, hr1, hg1⟩; have hc1 : w1.cell? ⟨w.heap.size, 3, none⟩ = some (.slice p 0 cap') := hg1.cell (by simp) (by simp; omega))
    go_loopw [0, 16] (fun bv iv wr => bv = .slice (some ⟨g, 0, none⟩) (k + (num 0).length) cap ∧ iv = .int .i64 0 ∧ Row wr g (k + (num 0).length) cap (xs ++ num 0) ∧ w.grownBy wr (some g)) (fun _ iv _ => 0 - (intOf iv).toNat)
    case atStart => exact ⟨rfl, rfl, hr1, grown_trans (grown_alloc _ _ _) hg1⟩
    case round =>
      obtain ⟨rfl, rfl, hr, hg⟩ := hrel
      go_wp2
      go_ret
      exact ⟨by simp [encs], by simpa [encs] using hr, hg⟩

set_option maxHeartbeats 1000000 in
theorem write_l (n : Int) (s : ByteArray) (p : Option Addr) (len cap' : Nat) (g k cap : Nat) (xs : List Int) (w : World) (l : List T) (ih : ∀ t ∈ l, SaidWrite t) (B : Nat) (hat : At w B (.mk 3 n s l) (.agg #[.int .i64 3, .int .i64 n, .string s, .slice p len cap'])) (hB : B ≤ w.heap.size) (hBg : B ≤ g)
    (hgood : ∀ t ∈ l, (dp t).isSome = true) (hcap : k + (1 + ((num l.length).length + (encs l).length)) ≤ cap) (hm : cap ≤ 1000000)
    (hown : Row w g k cap xs) :
    Calls Try.prog 22 #[.slice (some ⟨g, 0, none⟩) k cap, .agg #[.int .i64 3, .int .i64 n, .string s, .slice p len cap']] w fun e w' => e = .returned (.slice (some ⟨g, 0, none⟩) (k + (1 + ((num l.length).length + (encs l).length))) cap) ∧ Row w' g (k + (1 + ((num l.length).length + (encs l).length))) cap (xs ++ 3 :: (num l.length ++ encs l)) ∧ w.grownBy w' (some g) := by
  obtain ⟨i0, hi, hz0, hz1, hz2⟩ := info_parts Try.info5
  have IH := hid ih; have HA := hid hat; have HG := hid hgood; clear ih hat hgood
  have hgl : g < w.heap.size := row_lt hown
  have HO : Hid (Row (w.alloc (.cells #[.int .i64 3, .int .i64 n, .string s, .slice p len cap'] 24)).drew g k cap xs) := (World.ownsRow.alloc hown _).drew
  have HO2 : Hid (Row ((w.alloc (.cells #[.int .i64 3, .int .i64 n, .string s, .slice p len cap'] 24)).alloc (.cells #[.int .u8 3] 5)).drew g k cap xs) := (World.ownsRow.alloc (World.ownsRow.alloc hown _) _).drew
  clear hown
  have hne : g ≠ w.heap.size := by omega
  have hw := wr_3
  have hw' := fd_31
  have h8 : IntKind.u8.wrap 3 = 3 := by decide
  have hn := num_pos l.length
  go_enter Try.func22, Try.ntmps22
  go_wp2_with fail
  go_region_held3 (fun w' => w'.cell? ⟨w.heap.size, 0, none⟩ = some (.int .i64 3) ∧ w'.cell? ⟨w.heap.size, 1, none⟩ = some (.int .i64 n) ∧ w'.cell? ⟨w.heap.size, 2, none⟩ = some (.string s) ∧ w'.cell? ⟨w.heap.size, 3, none⟩ = some (.slice p len cap') ∧ w.heap.size < w'.heap.size)
     (((repeat' apply And.intro) <;> first | (go_keep; done) | (simp; omega) | (rw [hc0 _ _ (by simp; omega)]; go_keep; done) | (have h1 := hb0.size; simp at h1 ⊢; omega) | (refine hg1.cell ?_ ?_; go_keep; (simp; omega)) | (have h1 := hg1.size; have h2 := hb0.size; simp at h1 h2; omega) | (refine hg2.cell ?_ ?_; go_keep; (simp; omega)) | (have h0 := hg2.size; have h1 := hg1.size; have h2 := hb0.size; simp at h1 h2; omega)))
     (first | (go_at_call 47; refine (writeList_step n s l IH.out _ B _ _ _ _ _ (At.below (by first | exact below_of_grown (grown_trans (grown_trans (grown_trans (grown_drew (grown_alloc _ _ _)) (grown_of_below hb0)) (grown_alloc _ _ _)) hg1) hBg hB | exact below_of_grown (grown_trans (grown_trans (grown_drew (grown_trans (grown_alloc _ _ _) (grown_alloc _ _ _))) (grown_of_below hb0)) hg1) hBg hB) (Nat.le_refl _) HA.out) (by have h0 := hb0.size; have h1 := hg1.size; simp at h0 h1; omega) hBg HG.out (by omega) hm hr1).mono ?_; rintro e w2 ⟨rfl, hr2, hg2⟩)  | (go_at_call 32; refine (writings_any _).mono ?_; rintro e w0 ⟨rfl, hb0⟩; obtain ⟨hc0, hf0⟩ := bcell hb0)  | (refine step_append_fits rfl (.tmp 10) (.tmp 14) 27 rfl g 5 i0 1 Try.underlying27 hi hz1 g k cap _ rfl ((row_below HO.out hb0 (by simp; omega)).alloc _) _ 1 1 [.int .u8 3] rfl rfl (one_cell _ _ _) (one_one _ _) (by omega) ?_; intro w1 hr0 hg1; have hr1 : Row w1 g (k + 1) cap (xs ++ [3]) := by (unfold Row; simpa using hr0))  | (refine step_append_fits rfl (.tmp 10) (.tmp 14) 27 rfl g 5 i0 1 Try.underlying27 hi hz1 g k cap _ rfl (row_below HO2.out hb0 (by simp; omega)) _ 1 1 [.int .u8 3] rfl rfl (cell_below (one_cell' _ _ _ _ (by simp)) hb0 (by simp)) (one_one _ _) (by omega) ?_; intro w1 hr0 hg1; have hr1 : Row w1 g (k + 1) cap (xs ++ [3]) := by (unfold Row; simpa using hr0)))
  all_goals go_wp2
  all_goals go_ret
  all_goals
    refine ⟨by simp [Nat.add_assoc], by simpa [Nat.add_assoc] using hr2, ?_⟩
    first
      | exact grown_trans (grown_trans (grown_trans (grown_trans (grown_drew (grown_alloc _ _ _)) (grown_of_below hb0)) (grown_alloc _ _ _)) hg1) hg2
      | exact grown_trans (grown_trans (grown_trans (grown_drew (grown_trans (grown_alloc _ _ _) (grown_alloc _ _ _))) (grown_of_below hb0)) hg1) hg2

theorem write_any (t : T) : SaidWrite t := by
  induction t using T.all with
  | step k n s l ih =>
    intro w B v g o cap xs hat hB hBg hd hcap hm hown
    obtain ⟨hc, hk, hgood⟩ := dp_good hd
    obtain ⟨wk, wn⟩ := at_wf hat
    rw [enc_mk] at hcap ⊢
    have hat' := hat
    obtain ⟨hs, p, len, cap', HL, rfl, hlc, hm', b, off, hp, hkk⟩ := at_kid hat
    rcases hk with rfl | rfl | rfl
    · simp only [if_true, List.length_cons] at hcap ⊢
      rw [Nat.add_comm (num (uns n)).length 1] at hcap ⊢
      exact write_i n s p len cap' g o cap xs w wn hcap hm hown
    · have e : (num s.size ++ strBytes s).length = (num s.size).length + s.size := by simp [strBytes_len]
      simp only [show ((2 : Int) = 1) = False from by simp, if_true, if_false, List.length_cons] at hcap ⊢
      change _ + ((num s.size ++ strBytes s).length + 1) ≤ _ at hcap
      rw [e, Nat.add_comm _ 1] at hcap
      have := write_t n s p len cap' g o cap xs w hcap hm hown
      rw [← e, Nat.add_comm 1] at this
      exact this
    · have e : (num l.length ++ encs l).length = (num l.length).length + (encs l).length := by simp
      simp only [show ((3 : Int) = 1) = False from by simp, show ((3 : Int) = 2) = False from by simp, if_false, List.length_cons] at hcap ⊢
      rw [e, Nat.add_comm _ 1] at hcap
      have := write_l n s p len cap' g o cap xs w l ih B hat' hB hBg hgood hcap hm hown
      rw [← e, Nat.add_comm 1] at this
      exact this

end Go.Proofs.Ytiklpimnmbjenaa

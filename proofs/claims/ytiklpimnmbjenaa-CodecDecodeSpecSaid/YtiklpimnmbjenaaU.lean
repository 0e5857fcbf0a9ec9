/- Contracts of the specification's encode. -/
import Derived.Test.YtiklpimnmbjenaaS
namespace Go.Proofs.Ytiklpimnmbjenaa
open Go.RowKit Go
set_option linter.unusedVariables false
set_option linter.unusedSimpArgs false

def OutE (w w' : World) (e : Ending) (l : List Int) : Prop := ∃ v, e = .returned v ∧ Own w' w.heap.size v l ∧ Below w.heap.size w w'

theorem refNum (u : Nat) (w : World) (hu : Hid (u < 18446744073709551616)) : Calls Try.prog 33 #[.int .u64 u] w fun e w' => ∃ v, e = .returned v ∧ Own w' w.heap.size v (num u) ∧ Below w.heap.size w w' :=
  refNum_any 9 u w (by have := hu.out; omega) hu.out (by omega)

set_option maxHeartbeats 1000000 in
theorem refEnc_int (n : Int) (s : ByteArray) (p : Option Addr) (len cap : Nat) (w : World) (wn : wfI n) :
    Calls Try.prog 23 #[.agg #[.int .i64 1, .int .i64 n, .string s, .slice p len cap]] w fun e w' => OutE w w' e (1 :: num (uns n)) := by
  obtain ⟨i0, hi, hz0, hz1, hz2⟩ := info_parts Try.info5
  have hl := num_ten (uns_lt wn.1 wn.2)
  have hp := num_pos (uns n)
  go_enter Try.func23, Try.ntmps23
  go_wp2_with fail
  refine (refUns_any _ _ wn).mono ?_
  rintro e w1 ⟨rfl, rfl⟩
  go_wp2_with fail
  refine (refNum (uns n) _ (uns_lt wn.1 wn.2)).mono ?_
  rintro e w1 ⟨v, rfl, ⟨g, c, rfl, ho⟩, hb⟩
  have h1 := row_below (Own.lit (w.alloc (.cells #[.int .i64 1, .int .i64 n, .string s, .slice p len cap] 24)) 1 w.heap.size (by simp)) hb (by simp)
  have hs := hb.size
  simp at hs h1
  have H1 := hid h1; have HO := hid ho; have HB := hid hb; clear h1 ho hb
  go_wp2_with (at_builtin; refine wpList_append_lies _ rfl (.tmp 9) (.tmp 13) 27 rfl w.heap.size 5 i0 (.int .u8 0) 1 1 Try.underlying27 hi hz0 hz1 hz2 rfl (by decide) _ 1 _ rfl H1.out ⟨g, 0, none⟩ (num (uns n)).length c ((num (uns n)).map (Value.int .u8)) rfl (by simp) (Own.cells HO.out) (one_each _) (by omega) (by unfold maxLen; omega) (by omega) (by omega) _ rfl ?_; intro g2 cap2 w2 h2 hg2 hor hlt)
  go_ret
  refine ⟨.slice (some ⟨g2, 0, none⟩) (1 + (num (uns n)).length) cap2, rfl, ⟨g2, cap2, by simp [Nat.add_comm], ?_⟩, ?_⟩
  · simpa [Nat.add_comm] using h2
  · refine (((below_al' _ _).trans ((below_al' _ _).mono (by simp))).trans (HB.out.mono (by simp; omega))).trans ?_
    exact below_of_grown hg2 (by simp) (by omega)

set_option maxHeartbeats 2000000 in
theorem refEnc_text (n : Int) (s : ByteArray) (p : Option Addr) (len cap : Nat) (w : World) (hs : s.size ≤ 1000000) :
    Calls Try.prog 23 #[.agg #[.int .i64 2, .int .i64 n, .string s, .slice p len cap]] w fun e w' => OutE w w' e (2 :: (num s.size ++ strBytes s)) := by
  obtain ⟨i0, hi, hz0, hz1, hz2⟩ := info_parts Try.info5
  have hl := num_ten (u := s.size) (by omega)
  have hp := num_pos s.size
  have hwr : IntKind.u64.wrap (s.size : Int) = (s.size : Int) := IntWalk.u64_in _ (by omega)
  go_enter Try.func23, Try.ntmps23
  go_wp2_with fail
  go_region_held3 (fun w' => w'.cell? ⟨w.heap.size, 2, none⟩ = some (.string s) ∧ w.heap.size < w'.heap.size)
    (((repeat' apply And.intro) <;> first | (go_keep; done) | (simp; omega) | (exact (hb.cell (p := ⟨w.heap.size, 2, none⟩) (by first | (simp; done) | (simp; omega))).trans (by simp [go_sem])) | (have h1 := hb.size; simp at h1; omega) | (refine hg2.cell ?_ ?_; go_keep; (first | (simp [Value.ownBlock]; done) | (simp [Value.ownBlock]; have := hb.size; simp at this; omega))) | (have h1 := hg2.size; have h2 := hb.size; simp at h1 h2; omega) | (refine hg3.cell ?_ ?_; go_keep; (have h9 := row_lt' h2; simp; omega)) | (have h0 := hg3.size; have h1 := hg2.size; have h2 := hb.size; simp at h1 h2; omega)))
    (first | (go_at_call 33; refine (refNum s.size _ (by show _ < _; omega)).mono ?_; rintro e w1 ⟨v, rfl, ⟨g, c, rfl, ho⟩, hb⟩) | (refine step_append_lies _ rfl (.tmp 17) (.tmp 22) 27 rfl (w.heap.size + 1) 5 i0 (.int .u8 0) 1 1 Try.underlying27 hi hz0 hz1 hz2 rfl (by decide) _ 1 ([(2 : Int)].map (Value.int .u8)) rfl (by first | exact row_below (Own.lit' _ 2 _ _ (by simp) (by first | (simp; done) | (simp; omega))) hb (by first | (simp; done) | (simp; omega)) | exact Own.lit _ 2 _ (by have := hb.size; simp at this; omega)) _ (num s.size).length c ((num s.size).map (Value.int .u8)) rfl (by simp) (by first | exact Own.cells ho | exact Own.cells (World.ownsRow.alloc ho _)) (one_each _) (by omega) (by unfold maxLen; omega) (by omega) (by have := hb.size; simp at this ⊢; omega) _ rfl ?_; intro g2 cap2 w2 h2 hg2 hor hlt2; simp [Act.eval, Value.ownBlock] at hg2) | (refine step_append_string_any rfl (.tmp 23) (.tmp 25) 27 9 rfl (w.heap.size + 1) 5 i0 (.int .u8 0) Try.underlying27 Try.underlying9 hi hz0 hz1 hz2 rfl _ _ _ _ rfl h2 s rfl (by omega) (by have h5 := hg2.size; have := hb.size; simp at this h5; omega) ?_; intro g3 cap3 w3 h3 hg3))
  all_goals go_wp2
  all_goals go_ret
  all_goals
    have hz1 := hb.size
    have hz2' := hg2.size
    have hgb := row_lt' h2
    simp at hz1 hz2'
    rw [strCells_map] at h3
    refine ⟨.slice (some ⟨g3, 0, none⟩) (1 + (num s.size).length + s.size) cap3, rfl, ⟨g3, cap3, ?_, ?_⟩, ?_⟩
    · simp [strBytes_len]; omega
    · have e : (2 :: (num s.size ++ strBytes s)).length = 1 + (num s.size).length + s.size := by simp [strBytes_len]; omega
      rw [e]
      refine own_mono (base := w.heap.size + 1) ?_ (by omega)
      simpa using h3
    · first
        | exact (((((below_al' w _).trans ((below_al' _ _).mono (by simp))).drew).trans (hb.mono (by simp; omega))).trans (below_of_grown hg2 (by omega) (by omega))).trans (below_of_grown hg3 (by omega) (by omega))
        | exact (((((below_al' w _).drew).trans (hb.mono (by simp))).trans ((below_al' _ _).mono (by omega))).trans (below_of_grown hg2 (by omega) (by simp; omega))).trans (below_of_grown hg3 (by omega) (by omega))

def SaidRef (t : T) : Prop := ∀ (w : World) (B : Nat) (v : Value), At w B t v → B ≤ w.heap.size → (dp t).isSome = true → (enc t).length ≤ 1000000 →
  Calls Try.prog 23 #[v] w fun e w' => OutE w w' e (enc t)

set_option maxRecDepth 100000 in
set_option maxHeartbeats 2000000 in
theorem refEnc_list (n : Int) (s : ByteArray) (l : List T) (ih : ∀ t ∈ l, SaidRef t) (w : World) (B : Nat) (v : Value) (hat : At w B (.mk 3 n s l) v) (hB : B ≤ w.heap.size)
    (hgood : ∀ t ∈ l, (dp t).isSome = true) (hen : 1 + (num l.length).length + (encs l).length ≤ 1000000) :
    Calls Try.prog 23 #[v] w fun e w' => OutE w w' e (3 :: (num l.length ++ encs l)) := by
  obtain ⟨i0, hi, hz0, hz1, hz2⟩ := info_parts Try.info5
  obtain ⟨_, p, len, cap, HL, rfl, hlc, hm, b, off, hp, hk⟩ := at_kid hat
  clear hat
  have hge := encs_ge l
  rw [HL.out] at hen hge ⊢
  have HG := hid hgood; clear hgood
  have hl10 := num_ten (u := len) (by omega)
  have hpos := num_pos len
  by_cases hl0 : 0 < len
  · obtain ⟨rfl, hbB⟩ := hp hl0
    clear hp
    have HK := hid hk; clear hk
    go_enter Try.func23, Try.ntmps23
    go_wp2_with fail
    refine (refNum len _ (by show _ < _; omega)).mono ?_
    rintro e w1 ⟨v, rfl, ⟨g, c, rfl, ho⟩, hb⟩
    have h1 := row_below (Own.lit (w.alloc (.cells #[.int .i64 3, .int .i64 n, .string s, .slice (some ⟨b, off, none⟩) len cap] 24)) 3 (w.heap.size + 1) (by simp)) hb (by simp)
    have hs := hb.size
    simp at hs h1
    have H1 := hid h1; have HO := hid ho; have HB := hid hb; clear h1 ho hb
    go_wp2_with (at_builtin; refine wpList_append_lies _ rfl (.tmp 27) (.tmp 32) 27 rfl (w.heap.size + 1) 5 i0 (.int .u8 0) 1 1 Try.underlying27 hi hz0 hz1 hz2 rfl (by decide) _ 1 _ rfl H1.out ⟨g, 0, none⟩ (num len).length c ((num len).map (Value.int .u8)) rfl (by simp) (Own.cells HO.out) (one_each _) (by omega) (by unfold maxLen; omega) (by omega) (by omega) _ rfl ?_; intro g2 cap2 w2 h2 hg2 hor hlt)
    have hbel : Hid (Below (w.heap.size + 1) (w.alloc (.cells #[.int .i64 3, .int .i64 n, .string s, .slice (some ⟨b, off, none⟩) len cap] 24)) w2) :=
      (((below_al' _ _).mono (by simp)).trans (HB.out.mono (by simp))).trans (below_of_grown hg2 (Nat.le_refl _) (by omega))
    have H2 := hid h2; clear h2 hg2 hor
    go_loopw [3, 4] (fun ov iv wr => ∃ (i : Nat) (pre : List Int) (go co : Nat), i ≤ len ∧ ov = .slice (some ⟨go, 0, none⟩) pre.length co ∧ iv = .int .i64 i ∧ Hid (3 :: (num len ++ encs l) = pre ++ encs (l.drop i)) ∧ Hid (wr.ownsRow (w.heap.size + 1) 5 1 (.slice (some ⟨go, 0, none⟩) pre.length co) pre.length (pre.map (Value.int .u8))) ∧
        Hid (Below (w.heap.size + 1) (w.alloc (.cells #[.int .i64 3, .int .i64 n, .string s, .slice (some ⟨b, off, none⟩) len cap] 24)) wr)) (fun _ iv _ => len - (intOf iv).toNat)
    case atStart =>
      refine ⟨0, 3 :: num len, g2, cap2, by omega, by simp [Nat.add_comm], rfl, rfl, ?_, hbel⟩
      have e : (3 :: num len).length = 1 + (num len).length := by simp; omega
      have h := H2.out
      rw [← e] at h
      show World.ownsRow _ _ _ _ _ _ _
      simpa using h
    case round =>
      obtain ⟨i, pre, go, co, hi', rfl, rfl, HE, HR, HB⟩ := hrel
      have hsz := HB.out.size
      simp at hsz
      have q3 : wr.cell? ⟨w.heap.size, 3, none⟩ = some (.slice (some ⟨b, off, none⟩) len cap) := by rw [HB.out.cell (by simp)]; simp [go_sem]
      have hbw : Below w.heap.size w wr := (below_al' _ _).trans (HB.out.mono (by omega))
      have hpl : pre.length ≤ 1000000 := by have h := congrArg List.length HE.out; simp at h; omega
      by_cases hlt : i < len
      · obtain ⟨t, ka, na, sa, pa, lena, capa, ⟨hmem, hdrop⟩, hat, e0, e1, e2, e3⟩ := HK.out i hlt
        have hih := ih t hmem
        have hg' := HG.out t hmem
        have hed := encs_drop hdrop
        have hel := enc_len_mem hmem
        have hcap : pre.length + (enc t).length ≤ 1000000 := by have h := congrArg List.length HE.out; rw [hed] at h; simp at h; omega
        have hep : 1 ≤ (enc t).length := by obtain ⟨a1, a2, a3, a4⟩ := t; rw [enc_mk]; simp
        have HI := hid hih; have HA := hid hat; have HS := hid hed; have HG' := hid hg'; clear hih hat hed hdrop hmem hg' hel
        rw [← hbw.cell (p := ⟨b, _, none⟩) (by simp; omega)] at e0 e1 e2 e3
        have HBW := hid hbw; clear hbw
        go_wp2_with fail
        refine (HI.out _ B _ (At.below HBW.out hB HA.out) (by omega) HG'.out (by omega)).mono ?_
        rintro e w3 ⟨v3, rfl, ⟨g3, c3, rfl, ho3⟩, hb3⟩
        have hr3 := row_below HR.out hb3 (row_lt HR.out)
        have hs3 := hb3.size
        have hgo := row_lt' HR.out
        have HR3 := hid hr3; have HO3 := hid ho3; have HB3 := hid hb3; clear hr3 ho3 hb3
        go_wp2_with (at_builtin; refine wpList_append_lies _ rfl (.tmp 41) (.tmp 47) 27 rfl (w.heap.size + 1) 5 i0 (.int .u8 0) 1 1 Try.underlying27 hi hz0 hz1 hz2 rfl (by decide) _ pre.length _ rfl HR3.out ⟨g3, 0, none⟩ (enc t).length c3 ((enc t).map (Value.int .u8)) rfl (by simp) (Own.cells HO3.out) (one_each _) (by omega) (by unfold maxLen; omega) (by omega) (by omega) _ rfl ?_; intro g4 cap4 w4 h4 hg4 hor4 hlt4)
        have hb4 : Hid (Below (w.heap.size + 1) (w.alloc (.cells #[.int .i64 3, .int .i64 n, .string s, .slice (some ⟨b, off, none⟩) len cap] 24)) w4) :=
          (HB.out.trans (HB3.out.mono (by omega))).trans (below_of_grown hg4 (by omega) (by omega))
        have H4 := hid h4; clear h4 hg4 hor4
        go_roundw
        case rel =>
          refine ⟨i + 1, pre ++ enc t, g4, cap4, by omega, by simp, by go_num, ?_, ?_, hb4⟩
          · have h := HE.out
            rw [HS.out] at h
            show _ = _
            rw [h]; simp
          · have h := H4.out
            show World.ownsRow _ _ _ _ _ _ _
            simpa using h
        case measure => simp [intOf]; omega
      · obtain rfl : i = len := by omega
        have HBW := hid hbw; clear hbw
        go_wp2
        go_ret
        have h := HE.out
        rw [← HL.out, List.drop_length, encs, List.append_nil] at h
        rw [← HL.out, h]
        exact ⟨_, rfl, ⟨go, co, rfl, own_mono HR.out (by omega)⟩, HBW.out⟩
  · obtain rfl : len = 0 := by omega
    have hnil : l = [] := List.eq_nil_of_length_eq_zero HL.out
    subst hnil
    clear hp hk
    go_enter Try.func23, Try.ntmps23
    go_wp2_with fail
    refine (refNum 0 _ (by show _ < _; omega)).mono ?_
    rintro e w1 ⟨v, rfl, ⟨g, c, rfl, ho⟩, hb⟩
    have h1 := row_below (Own.lit (w.alloc (.cells #[.int .i64 3, .int .i64 n, .string s, .slice p 0 cap] 24)) 3 (w.heap.size + 1) (by simp)) hb (by simp)
    have hs := hb.size
    simp at hs h1
    have H1 := hid h1; have HO := hid ho; have HB := hid hb; clear h1 ho hb
    go_wp2_with (at_builtin; refine wpList_append_lies _ rfl (.tmp 27) (.tmp 32) 27 rfl (w.heap.size + 1) 5 i0 (.int .u8 0) 1 1 Try.underlying27 hi hz0 hz1 hz2 rfl (by decide) _ 1 _ rfl H1.out ⟨g, 0, none⟩ (num 0).length c ((num 0).map (Value.int .u8)) rfl (by simp) (Own.cells HO.out) (one_each _) (by omega) (by unfold maxLen; omega) (by omega) (by omega) _ rfl ?_; intro g2 cap2 w2 h2 hg2 hor hlt)
    have hbel : Hid (Below (w.heap.size + 1) (w.alloc (.cells #[.int .i64 3, .int .i64 n, .string s, .slice p 0 cap] 24)) w2) :=
      (((below_al' _ _).mono (by simp)).trans (HB.out.mono (by simp))).trans (below_of_grown hg2 (Nat.le_refl _) (by omega))
    have H2 := hid h2; clear h2 hg2 hor
    go_loopw [3, 4] (fun ov iv wr => ov = .slice (some ⟨g2, 0, none⟩) (1 + (num 0).length) cap2 ∧ iv = .int .i64 0 ∧ wr = w2) (fun _ iv _ => 0 - (intOf iv).toNat)
    case atStart => exact ⟨rfl, rfl, rfl⟩
    case round =>
      obtain ⟨rfl, rfl, rfl⟩ := hrel
      have q3 : wr.cell? ⟨w.heap.size, 3, none⟩ = some (.slice p 0 cap) := by rw [hbel.out.cell (by simp)]; simp [go_sem]
      go_wp2
      go_ret
      refine ⟨.slice (some ⟨g2, 0, none⟩) (1 + (num 0).length) cap2, rfl, ⟨g2, cap2, by simp [encs, Nat.add_comm], ?_⟩, (below_al' _ _).trans (hbel.out.mono (by omega))⟩
      refine own_mono (base := w.heap.size + 1) ?_ (by omega)
      simpa [encs, Nat.add_comm] using H2.out

theorem refEnc_any (t : T) : SaidRef t := by
  induction t using T.all with
  | step k n s l ih =>
    intro w B v hat hB hd hen
    obtain ⟨hc, hk, hgood⟩ := dp_good hd
    obtain ⟨wk, wn⟩ := at_wf hat
    rw [enc_mk] at hen ⊢
    have hat' := hat
    obtain ⟨hs, p, len, cap, HL, rfl, hlc, hm, b, off, hp, hkk⟩ := at_kid hat
    rcases hk with rfl | rfl | rfl
    · exact refEnc_int n s p len cap w wn
    · simp at hen
      exact refEnc_text n s p len cap w (by omega)
    · simp at hen
      exact refEnc_list n s l ih w B _ hat' hB hgood (by omega)

end Go.Proofs.Ytiklpimnmbjenaa

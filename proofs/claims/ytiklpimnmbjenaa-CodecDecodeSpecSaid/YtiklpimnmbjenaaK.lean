/- Contracts of the functions of package codec and lemmas for them: what each call returns and what becomes of memory, for every input within the bounds that each theorem states. -/
import Derived.Test.YtiklpimnmbjenaaJ
namespace Go.Proofs.Ytiklpimnmbjenaa
open Go.RowKit Go
set_option linter.unusedVariables false
set_option linter.unusedSimpArgs false

theorem numeral_none (b : Nat) (l : List Int) (owed : Nat) (w : World) (hr : Rdr w b l owed) (hl : l.length ≤ 100000000) (hn : rn 0 0 l = none) :
    Calls Try.prog 38 #[.pointer (some ⟨b, 0, none⟩)] w fun e w' => e = .panicked Bad ∧ w.grownBy w' (some b) :=
  (numeral_any b l owed w hr hl).mono fun e w' h => by unfold OutN at h; rw [hn] at h; exact ⟨h.2, h.1⟩
theorem numeral_some (b : Nat) (l : List Int) (owed : Nat) (w : World) (u : Nat) (r : List Int) (hr : Rdr w b l owed) (hl : l.length ≤ 100000000) (hn : rn 0 0 l = some (u, r)) :
    Calls Try.prog 38 #[.pointer (some ⟨b, 0, none⟩)] w fun e w' => e = .returned (.int .u64 u) ∧ Rdr w' b r owed ∧ w.grownBy w' (some b) :=
  (numeral_any b l owed w hr hl).mono fun e w' h => by unfold OutN at h; rw [hn] at h; exact ⟨h.2.1, h.2.2, h.1⟩
theorem sig_any (u : Nat) (w : World) (h : Hid (u < 18446744073709551616)) :
    Calls Try.prog 37 #[.int .u64 u] w fun e w' => e = .returned (.int .i64 (sig u)) ∧ w = w' :=
  (signed_any u w).mono fun e w' ⟨h1, h2⟩ => ⟨by rw [h1, sig_bits u h.out], h2⟩

def OutV (w w' : World) (b owed : Nat) (o : Option (T × List Int)) (e : Ending) : Prop :=
  w.grownBy w' (some b) ∧ ((∃ t r v, o = some (t, r) ∧ e = .returned v ∧ Rdr w' b r owed ∧ AtP w' (fun k => w.heap.size ≤ k ∧ k < w'.heap.size) t v) ∨ (e = .panicked Bad ∧ ∀ t r, o = some (t, r) → r.length < 2 * owed))

theorem OutV.bad {w w' : World} {b owed : Nat} {o : Option (T × List Int)} (hg : w.grownBy w' (some b)) (h : ∀ t r, o = some (t, r) → r.length < 2 * owed) : OutV w w' b owed o (.panicked Bad) := ⟨hg, .inr ⟨rfl, h⟩⟩

def SaidValue (d : Nat) : Prop := ∀ (w : World) (b : Nat) (l : List Int) (owed lev : Nat), lev + d = 16 → Rdr w b l owed → l.length ≤ 100000000 → owed ≤ 50000000 →
  Calls Try.prog 29 #[.pointer (some ⟨b, 0, none⟩), .int .i64 lev] w fun e w' => OutV w w' b owed (pv d l) e

theorem rdr_kept {w w' : World} {b owed : Nat} {l : List Int} (h : Rdr w b l owed) (hb : Below (b + 1) w w') : Rdr w' b l owed := by
  obtain ⟨h1, h2, p, cap, h3, h4, h5, h6, h7, h8, h9⟩ := h
  have hs := hb.size
  refine ⟨h1, by omega, p, cap, by rw [hb.cell (by simp)]; exact h3, h4, h5, by rw [hb.cell (by simp)]; exact h6, by rw [hb.frozen (by simp)]; exact h7, by rw [hb.frozen (by simp)]; exact h8, fun hl => ?_⟩
  obtain ⟨c, o, hp, hc, hby⟩ := h9 hl
  exact ⟨c, o, hp, hc, hby.kept fun o => hb.cell (by simp; omega)⟩

theorem rdr_lt {w : World} {b owed : Nat} {l : List Int} (h : Rdr w b l owed) : b < w.heap.size := h.2.1

theorem conv_zero {P : Program} (w : World) (src e : TypeId) (hs : P.underlying src = some (.slice e)) (he : P.underlying e = some (.int .u8)) (p : Option Addr) (c : Nat) :
    ∀ dst, P.underlying dst = some .string → (convert src dst (.slice p 0 c)).run P w = .ok (.string ⟨#[]⟩) w := by
  intro dst hd
  rw [run_convert_bytes_string w src dst e _ 0 c hs he hd]
  cases p <;> simp [Conv.bytesToString, loadCells]
  all_goals rfl

theorem strOfNums_size (l : List Int) : (strOfNums l).size = l.length := by simp [strOfNums, ByteArray.size]

set_option maxHeartbeats 1000000 in
theorem take_zero (b : Nat) (l : List Int) (owed : Nat) (w : World) (hr : Rdr w b l owed) :
    Calls Try.prog 36 #[.pointer (some ⟨b, 0, none⟩), .int .u64 (0 : Nat)] w fun e w' => ∃ p, e = .returned (.slice p 0 0) ∧ Rdr w' b l owed ∧ w.grownBy w' (some b) := by
  obtain ⟨hby, hbl, p, cap, h0, hlc, hm, h1, hf0, hf1, hc⟩ := hr
  obtain ⟨len, hlen⟩ : ∃ len, len = l.length := ⟨_, rfl⟩
  have HE : Hid (Rdr (w.setCell ⟨b, 0, none⟩ (.slice p len len)).drew b l owed ∧ w.grownBy (w.setCell ⟨b, 0, none⟩ (.slice p len len)).drew (some b)) := by
    refine ⟨⟨hby, by simpa using hbl, p, l.length, ?_, Nat.le_refl _, by omega, ?_, ?_, ?_, fun hl => ?_⟩, grown_drew (grown_setCell _ _ _ _)⟩
    · rw [hlen]; exact World.cell?_setCell_same _ _ _ h0
    · show (w.setCell _ _).cell? _ = _
      rw [World.cell?_setCell_other _ _ _ _ (by simp)]; exact h1
    · show (w.setCell _ _).frozen? _ = _
      rw [World.frozen?_setCell]; exact hf0
    · show (w.setCell _ _).frozen? _ = _
      rw [World.frozen?_setCell]; exact hf1
    · obtain ⟨c, o, hp, hcb, hby⟩ := hc hl
      exact ⟨c, o, hp, hcb, hby.kept fun o' => World.cell?_setCell_far _ _ _ _ (by show b ≠ c; omega)⟩
  rw [← hlen] at h0 hlc hm
  clear hlen hc hby
  cases p with
  | none =>
    go_enter Try.func36, Try.ntmps36
    go_wp2
    go_region
    all_goals go_wp2
    go_ret
    exact ⟨none, rfl, HE.out.1, HE.out.2⟩
  | some a =>
    go_enter Try.func36, Try.ntmps36
    go_wp2
    go_region
    all_goals go_wp2
    go_ret
    exact ⟨some a, rfl, HE.out.1, HE.out.2⟩

/-- a variable of type api.Value that holds its zero value -/
def Zed (w : World) (k : Nat) : Prop := w.heap[k]? = some (.cells #[.int .i64 0, .int .i64 0, .string ⟨#[]⟩, .slice none 0 0] 24)
theorem Zed.new (w : World) : Zed (w.alloc (.cells #[.int .i64 0, .int .i64 0, .string ⟨#[]⟩, .slice none 0 0] 24)) w.heap.size := by
  unfold Zed; exact heap_alloc_new w _
theorem Zed.grown {w w' : World} {k b : Nat} (h : Zed w k) (hg : w.grownBy w' (some b)) (hk : k ≠ b) : Zed w' k := by
  have hlt : k < w.heap.size := by
    unfold Zed at h
    exact (Array.getElem?_eq_some_iff.1 h).1
  unfold Zed
  rw [hg.block k hlt (by simpa using hk)]
  exact h
theorem Zed.cells {w : World} {k : Nat} (h : Zed w k) : (w.cell? ⟨k, 0, none⟩ = some (.int .i64 0) ∧ w.cell? ⟨k, 1, none⟩ = some (.int .i64 0) ∧ w.cell? ⟨k, 2, none⟩ = some (.string ⟨#[]⟩) ∧ w.cell? ⟨k, 3, none⟩ = some (.slice none 0 0)) ∧
    w.frozen? ⟨k, 0, none⟩ = false ∧ w.frozen? ⟨k, 1, none⟩ = false ∧ w.frozen? ⟨k, 2, none⟩ = false ∧ w.frozen? ⟨k, 3, none⟩ = false := by
  unfold Zed at h
  refine ⟨⟨?_, ?_, ?_, ?_⟩, ?_, ?_, ?_, ?_⟩ <;> simp [World.cell?, World.frozen?, h]

abbrev put4 (w : World) (k : Nat) (c0 c1 c2 c3 : Value) : World :=
  (((w.setCell ⟨k, 0, none⟩ c0).setCell ⟨k, 1, none⟩ c1).setCell ⟨k, 2, none⟩ c2).setCell ⟨k, 3, none⟩ c3
theorem put4_below (w : World) (k : Nat) (c0 c1 c2 c3 : Value) : Below k w (put4 w k c0 c1 c2 c3) :=
  ((((Below.refl k w).setCell (p := ⟨k, 0, none⟩) (Nat.le_refl k) c0).setCell (p := ⟨k, 1, none⟩) (Nat.le_refl k) c1).setCell (p := ⟨k, 2, none⟩) (Nat.le_refl k) c2).setCell (p := ⟨k, 3, none⟩) (Nat.le_refl k) c3
theorem put4_grown {w w2 : World} {k b : Nat} (h : w.grownBy w2 (some b)) (hk : w.heap.size ≤ k) (c0 c1 c2 c3 : Value) : w.grownBy (put4 w2 k c0 c1 c2 c3) (some b) := by
  have hb := put4_below w2 k c0 c1 c2 c3
  exact ⟨hb.os.trans h.os, hb.tape.trans h.tape, hb.output.trans h.output, Nat.le_trans h.size hb.size, fun i hi hr => (hb.block i (by omega)).trans (h.block i hi hr)⟩
theorem sig_wf (u : Nat) (h : u < 18446744073709551616) : wfI (sig u) := by unfold wfI sig; split <;> omega

/-- value's end: what it has found -/
theorem OutV.good {w w2 : World} {b owed k : Nat} {o : Option (T × List Int)} {t : T} {r : List Int} {c0 c1 c2 c3 : Value} (ho : o = some (t, r)) (hg : w.grownBy w2 (some b)) (hr : Rdr w2 b r owed) (hk : w.heap.size ≤ k) (hb : b < k)
    (ha : AtP (put4 w2 k c0 c1 c2 c3) (fun j => w.heap.size ≤ j ∧ j < (put4 w2 k c0 c1 c2 c3).heap.size) t (.agg #[c0, c1, c2, c3])) :
    OutV w (put4 w2 k c0 c1 c2 c3) b owed o (.returned (.agg #[c0, c1, c2, c3])) :=
  ⟨put4_grown hg hk _ _ _ _, .inl ⟨t, r, _, ho, rfl, rdr_kept hr ((put4_below w2 k c0 c1 c2 c3).mono hb), ha⟩⟩

set_option maxRecDepth 100000 in
set_option maxHeartbeats 1000000 in
theorem value_nil (d : Nat) (w : World) (b owed lev : Nat) (hr : Rdr w b [] owed) :
    Calls Try.prog 29 #[.pointer (some ⟨b, 0, none⟩), .int .i64 lev] w fun e w' => OutV w w' b owed (pv d []) e := by
  have HR : Hid (∀ o, Rdr (w.alloc o) b [] owed) := fun o => rdr_kept hr ((Below.refl _ _).alloc (rdr_lt hr) _)
  have hb := rdr_lt hr
  clear hr
  go_enter Try.func29, Try.ntmps29
  go_wp2_with (go_at_call 36; refine (take_short b 1 [] owed _ (HR.out _) (by simp)).mono ?_; rintro e w1 ⟨rfl, rfl⟩)
  exact ⟨rfl, OutV.bad (grown_alloc _ _ _) (by intro t r h; rw [pv] at h; cases h)⟩

set_option maxRecDepth 100000 in
set_option maxHeartbeats 1000000 in
theorem value_int (d : Nat) (w : World) (b owed lev : Nat) (l : List Int) (hr : Rdr w b (1 :: l) owed) (hl : l.length ≤ 100000000) :
    Calls Try.prog 29 #[.pointer (some ⟨b, 0, none⟩), .int .i64 lev] w fun e w' => OutV w w' b owed (pv d (1 :: l)) e := by
  have HR : Hid (∀ o, Rdr (w.alloc o) b (1 :: l) owed) := fun o => rdr_kept hr ((Below.refl _ _).alloc (rdr_lt hr) _)
  have hb := rdr_lt hr
  clear hr
  have HP : Hid (pv d (1 :: l) = (rn 0 0 l).map fun x => (T.mk 1 (sig x.1) ⟨#[]⟩ [], x.2)) := pv_one d l
  cases hn : rn 0 0 l with
  | none =>
    have HN := hid hn; clear hn
    go_enter Try.func29, Try.ntmps29
    go_wp2_with (first | (go_at_call 36; refine (take_one b 1 l owed _ (HR.out _)).mono ?_; rintro e w1 ⟨cc, oo, rfl, hb0, hr1, hg1⟩; have HR1 := hid hr1; clear hr1) | (go_at_call 38; refine (numeral_none b l owed _ HR1.out hl HN.out).mono ?_; rintro e w2 ⟨rfl, hg2⟩))
    exact ⟨rfl, OutV.bad (grown_trans (grown_trans (grown_alloc _ _ _) hg1) hg2) (by intro t r h; rw [HP.out, HN.out] at h; cases h)⟩
  | some x =>
    obtain ⟨u, r⟩ := x
    have hu := rn_lt _ _ _ _ _ (by decide) (by decide) hn
    have HN := hid hn; have HU := hid hu; clear hn hu
    go_enter Try.func29, Try.ntmps29
    go_wp2_with (first | (go_at_call 36; refine (take_one b 1 l owed _ (HR.out _)).mono ?_; rintro e w1 ⟨cc, oo, rfl, hb0, hr1, hg1⟩; have HR1 := hid hr1; clear hr1) | (go_at_call 38; refine (numeral_some b l owed _ u r HR1.out hl HN.out).mono ?_; rintro e w2 ⟨rfl, hr2, hg2⟩; have HR2 := hid hr2; clear hr2; obtain ⟨⟨z0, z1, z2, z3⟩, f0, f1, f2, f3⟩ := (((Zed.new w).grown hg1 (by omega)).grown hg2 (by omega)).cells) | (go_at_call 37; refine (sig_any u _ HU).mono ?_; rintro e w3 ⟨rfl, rfl⟩))
    refine bodyPost_ret (v := .agg #[.int .i64 1, .int .i64 (sig u), .string ⟨#[]⟩, .slice none 0 0]) (by simp [results, Try.results29, go_sem, z0, z1, z2, z3]) rfl ?_
    refine OutV.good (t := T.mk 1 (sig u) ⟨#[]⟩ []) (r := r) ?_ (grown_trans (grown_trans (grown_alloc _ _ _) hg1) hg2) HR2.out (Nat.le_refl _) hb ?_
    · rw [HP.out, HN.out]; rfl
    · rw [AtP]
      exact ⟨⟨by unfold wfI; omega, sig_wf u HU.out⟩, Nat.zero_le _, none, 0, rfl, by simp, by simp, 0, 0, by simp, by simp⟩
set_option maxRecDepth 100000 in
set_option maxHeartbeats 1000000 in
theorem value_text (d : Nat) (w : World) (b owed lev : Nat) (l : List Int) (hr : Rdr w b (2 :: l) owed) (hl : l.length ≤ 100000000) :
    Calls Try.prog 29 #[.pointer (some ⟨b, 0, none⟩), .int .i64 lev] w fun e w' => OutV w w' b owed (pv d (2 :: l)) e := by
  have HR : Hid (∀ o, Rdr (w.alloc o) b (2 :: l) owed) := fun o => rdr_kept hr ((Below.refl _ _).alloc (rdr_lt hr) _)
  have hb := rdr_lt hr
  clear hr
  have HP : Hid (pv d (2 :: l) = (rn 0 0 l).bind fun x => if x.2.length < x.1 then none else some (T.mk 2 0 (strOfNums (x.2.take x.1)) [], x.2.drop x.1)) := pv_two d l
  cases hn : rn 0 0 l with
  | none =>
    have HN := hid hn; clear hn
    go_enter Try.func29, Try.ntmps29
    go_wp2_with (first | (go_at_call 36; refine (take_one b 2 l owed _ (HR.out _)).mono ?_; rintro e w1 ⟨cc, oo, rfl, hb0, hr1, hg1⟩; have HR1 := hid hr1; clear hr1) | (go_at_call 38; refine (numeral_none b l owed _ HR1.out hl HN.out).mono ?_; rintro e w2 ⟨rfl, hg2⟩))
    exact ⟨rfl, OutV.bad (grown_trans (grown_trans (grown_alloc _ _ _) hg1) hg2) (by intro t r h; rw [HP.out, HN.out] at h; cases h)⟩
  | some x =>
    obtain ⟨u, r⟩ := x
    have hrl := rn_len _ _ _ _ _ hn
    have HN := hid hn; clear hn
    by_cases hu : r.length < u
    · have hbad : Hid (∀ t r', pv d (2 :: l) = some (t, r') → r'.length < 2 * owed) := by
        intro t r' h; rw [HP.out, HN.out] at h; simp [hu] at h
      go_enter Try.func29, Try.ntmps29
      go_wp2_with fail
      refine (take_one b 2 l owed _ (HR.out _)).mono ?_
      rintro e w1 ⟨cc, oo, rfl, hb0, hr1, hg1⟩
      have HR1 := hid hr1; clear hr1
      go_wp2_with fail
      refine (numeral_some b l owed _ u r HR1.out hl HN.out).mono ?_
      rintro e w2 ⟨rfl, hr2, hg2⟩
      have HR2 := hid hr2; clear hr2
      go_wp2_with fail
      refine (take_short b u r owed _ HR2.out hu).mono ?_
      rintro e w3 ⟨rfl, rfl⟩
      go_wp2
      exact ⟨rfl, OutV.bad (grown_trans (grown_trans (grown_alloc _ _ _) hg1) hg2) hbad.out⟩
    · have hu' : u ≤ r.length := by omega
      obtain ⟨x, y, hxy, hx⟩ : ∃ x y, r = x ++ y ∧ x.length = u := ⟨r.take u, r.drop u, by simp, by simp; omega⟩
      have HX : Hid (r.take u = x ∧ r.drop u = y) := by subst hxy; subst hx; exact ⟨by simp, by simp⟩
      have HXY := hid hxy; have HXL := hid hx; clear hxy hx
      by_cases hx0 : x = []
      · subst hx0
        have hu0 : u = 0 := by have := HXL.out; simpa using this.symm
        subst hu0
        go_enter Try.func29, Try.ntmps29
        go_wp2_with fail
        refine (take_one b 2 l owed _ (HR.out _)).mono ?_
        rintro e w1 ⟨cc, oo, rfl, hb0, hr1, hg1⟩
        have HR1 := hid hr1; clear hr1
        go_wp2_with fail
        refine (numeral_some b l owed _ 0 r HR1.out hl HN.out).mono ?_
        rintro e w2 ⟨rfl, hr2, hg2⟩
        have HR2 := hid hr2; clear hr2
        go_wp2_with fail
        refine (take_zero b r owed _ HR2.out).mono ?_
        rintro e w3 ⟨p3, rfl, hr3, hg3⟩
        have HR3 := hid hr3; clear hr3
        obtain ⟨⟨z0, z1, z2, z3⟩, f0, f1, f2, f3⟩ := ((((Zed.new w).grown hg1 (by omega)).grown hg2 (by omega)).grown hg3 (by omega)).cells
        have hcv := conv_zero (P := Try.prog) w3 27 5 Try.underlying27 (by kernel_rfl) p3 0 9 Try.underlying9
        go_wp2
        refine bodyPost_ret (v := .agg #[.int .i64 2, .int .i64 0, .string ⟨#[]⟩, .slice none 0 0]) (by simp [results, Try.results29, go_sem, z0, z1, z2, z3]) rfl ?_
        refine OutV.good (t := T.mk 2 0 ⟨#[]⟩ []) (r := r) ?_ (grown_trans (grown_trans (grown_trans (grown_alloc _ _ _) hg1) hg2) hg3) HR3.out (Nat.le_refl _) hb ?_
        · rw [HP.out, HN.out]; simp [strOfNums]
        · rw [AtP]
          exact ⟨⟨by unfold wfI; omega, by unfold wfI; omega⟩, Nat.zero_le _, none, 0, rfl, by simp, by simp, 0, 0, by simp, by simp⟩
      · go_enter Try.func29, Try.ntmps29
        go_wp2_with fail
        refine (take_one b 2 l owed _ (HR.out _)).mono ?_
        rintro e w1 ⟨cc, oo, rfl, hb0, hr1, hg1⟩
        have HR1 := hid hr1; clear hr1
        go_wp2_with fail
        refine (numeral_some b l owed _ u r HR1.out hl HN.out).mono ?_
        rintro e w2 ⟨rfl, hr2, hg2⟩
        have HR2 := hid hr2; clear hr2
        go_wp2_with fail
        rw [← HXL.out]
        refine (take_ok b x y owed _ (by rw [← HXY.out]; exact HR2.out) hx0).mono ?_
        rintro e w3 ⟨c3, o3, rfl, hr3, hg3, hcb, hby⟩
        have HR3 := hid hr3; have HB3 := hid hby; clear hr3 hby
        obtain ⟨⟨z0, z1, z2, z3⟩, f0, f1, f2, f3⟩ := ((((Zed.new w).grown hg1 (by omega)).grown hg2 (by omega)).grown hg3 (by omega)).cells
        have hcv := run_convert_bytes_arg (P := Try.prog) w3 27 5 Try.underlying27 (by kernel_rfl) c3 o3 x.length x.length x rfl (fun i hi => by have := HB3.out i (x.getD i 0); rw [List.getElem?_eq_getElem hi] at this; exact this (by simp [List.getD, List.getElem?_eq_getElem hi])) 9 Try.underlying9
        go_wp2
        refine bodyPost_ret (v := .agg #[.int .i64 2, .int .i64 0, .string (strOfNums x), .slice none 0 0]) (by simp [results, Try.results29, go_sem, z0, z1, z2, z3]) rfl ?_
        have hxl : x.length ≤ 100000000 := by have h1 := HXL.out; omega
        refine OutV.good (t := T.mk 2 0 (strOfNums x) []) (r := y) ?_ (grown_trans (grown_trans (grown_trans (grown_alloc _ _ _) hg1) hg2) hg3) HR3.out (Nat.le_refl _) hb ?_
        · rw [HP.out, HN.out]; simp [hu, HX.out.1, HX.out.2]
        · rw [AtP]
          exact ⟨⟨by unfold wfI; omega, by unfold wfI; omega⟩, by rw [strOfNums_size]; unfold maxLen; omega, none, 0, rfl, by simp, by simp, 0, 0, by simp, by simp⟩
end Go.Proofs.Ytiklpimnmbjenaa

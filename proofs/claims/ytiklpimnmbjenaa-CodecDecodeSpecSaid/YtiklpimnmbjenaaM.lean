/- Contracts of the functions of package codec and lemmas for them: what each call returns and what becomes of memory, for every input within the bounds that each theorem states. -/
import Derived.Test.YtiklpimnmbjenaaL
import Derived.Defers
import Derived.Recover
namespace Go.Proofs.Ytiklpimnmbjenaa
open Go.RowKit Go
set_option linter.unusedVariables false
set_option linter.unusedSimpArgs false

set_option maxRecDepth 100000 in
set_option maxHeartbeats 1000000 in
theorem value_else (d : Nat) (w : World) (b owed lev : Nat) (c : Int) (l : List Int) (hr : Rdr w b (c :: l) owed) (h1 : c ≠ 1) (h2 : c ≠ 2) (h3 : c ≠ 3) :
    Calls Try.prog 29 #[.pointer (some ⟨b, 0, none⟩), .int .i64 lev] w fun e w' => OutV w w' b owed (pv d (c :: l)) e := by
  have HP : Hid (∀ t r, pv d (c :: l) = some (t, r) → r.length < 2 * owed) := by intro t r h; rw [pv_else d c l h1 h2 h3] at h; cases h
  obtain ⟨hc0, hc1⟩ := hr.1 c (by simp)
  have HR : Hid (∀ o, Rdr (w.alloc o) b (c :: l) owed) := fun o => rdr_kept hr ((Below.refl _ _).alloc (rdr_lt hr) _)
  have hb := rdr_lt hr
  have e1 : (c == 1) = false := by simp [h1]
  have e2 : (c == 2) = false := by simp [h2]
  have e3 : (c == 3) = false := by simp [h3]
  clear hr h1 h2 h3
  go_enter Try.func29, Try.ntmps29
  go_wp2_with fail
  refine (take_one b c l owed _ (HR.out _)).mono ?_
  rintro e w1 ⟨cc, oo, rfl, hb0, hr1, hg1⟩
  have HR1 := hid hr1; clear hr1
  go_wp2
  exact ⟨rfl, OutV.bad (grown_trans (grown_alloc _ _ _) hg1) HP.out⟩

set_option maxRecDepth 100000 in
set_option maxHeartbeats 2000000 in
theorem list_deep (w : World) (b : Nat) (l : List Int) (owed lev n : Nat) (r : List Int) (hd : 16 < lev) (hlev : lev ≤ 100) (hr : Rdr w b l owed) (hl : l.length ≤ 100000000) (hn : rn 0 0 l = some (n, r)) :
    Calls Try.prog 39 #[.pointer (some ⟨b, 0, none⟩), .int .i64 lev] w fun e w' => e = .panicked Bad ∧ w.grownBy w' (some b) := by
  have hrl := rn_len _ _ _ _ _ hn
  have HN := hid hn; clear hn
  have HR : Hid (Rdr w.drew b l owed) := hr
  obtain ⟨_, hbl, p, cap, h0, hlc, hm, h1, hf0, hf1, _⟩ := hr
  obtain ⟨len, hlen⟩ : ∃ len, len = l.length := ⟨_, rfl⟩
  rw [← hlen] at h0 hlc hl hrl
  have HLen := hid hlen; clear hlen
  obtain ⟨rl, hrl'⟩ : ∃ rl, rl = r.length := ⟨_, rfl⟩
  rw [← hrl'] at hrl
  have HRL := hid hrl'; clear hrl'
  have q1 : IntKind.u64.wrap (len : Int) = (len : Int) := IntWalk.u64_in _ (by omega)
  have q2 : IntKind.u64.wrap (rl : Int) = (rl : Int) := IntWalk.u64_in _ (by omega)
  have q3 : (len : Int).tdiv 2 = ((len / 2 : Nat) : Int) := by rw [Int.tdiv_eq_ediv_of_nonneg (by omega)]; omega
  have q4 : (rl : Int).tdiv 2 = ((rl / 2 : Nat) : Int) := by rw [Int.tdiv_eq_ediv_of_nonneg (by omega)]; omega
  go_enter Try.func39, Try.ntmps39
  go_wp2_with fail
  go_region_with (go_at_call 38; refine (numeral_some b l owed _ n r HR.out (by rw [← HLen.out]; omega) HN.out).mono ?_; rintro e w2 ⟨rfl, hr2, hg2⟩; obtain ⟨_, hbl2, p2, cap2, h02, hlc2, hm2, h12, hf02, hf12, _⟩ := id hr2; rw [← HRL.out] at h02 hlc2; have HR2 := hid hr2; clear hr2)
  all_goals go_wp2
  all_goals exact ⟨rfl, rfl, grown_undrew hg2⟩

set_option maxRecDepth 100000 in
set_option maxHeartbeats 1000000 in
theorem value_list0 (w : World) (b owed lev : Nat) (l : List Int) (hd : lev = 16) (hr : Rdr w b (3 :: l) owed) (hl : l.length ≤ 100000000) :
    Calls Try.prog 29 #[.pointer (some ⟨b, 0, none⟩), .int .i64 lev] w fun e w' => OutV w w' b owed (pv 0 (3 :: l)) e := by
  have HP : Hid (∀ t r, pv 0 (3 :: l) = some (t, r) → r.length < 2 * owed) := by intro t r h; rw [pv_three0] at h; cases h
  have hlist : ∀ w, Rdr w b l owed → Calls Try.prog 39 #[.pointer (some ⟨b, 0, none⟩), .int .i64 ((lev + 1 : Nat) : Int)] w fun e w' => e = .panicked Bad ∧ w.grownBy w' (some b) := by
    intro w hr
    cases hn : rn 0 0 l with
    | none =>
      refine (list_none (fun _ => none) w b l owed _ hr hl hn).mono fun e w' h => ?_
      rcases h.2 with ⟨ts, r, v, h', _⟩ | ⟨h', _⟩
      · unfold lv at h'; rw [hn] at h'; cases h'
      · exact ⟨h', h.1⟩
    | some x => exact list_deep w b l owed _ x.1 x.2 (by omega) (by omega) hr hl hn
  have HL := hid hlist; clear hlist
  have HR : Hid (∀ o, Rdr (w.alloc o) b (3 :: l) owed) := fun o => rdr_kept hr ((Below.refl _ _).alloc (rdr_lt hr) _)
  have hb := rdr_lt hr
  clear hr
  have hlv : lev ≤ 100 := by omega
  clear hd
  go_enter Try.func29, Try.ntmps29
  go_wp2_with fail
  refine (take_one b 3 l owed _ (HR.out _)).mono ?_
  rintro e w1 ⟨cc, oo, rfl, hb0, hr1, hg1⟩
  have HR1 := hid hr1; clear hr1
  go_wp2_with fail
  refine (HL.out _ HR1.out).mono ?_
  rintro e w2 ⟨rfl, hg2⟩
  go_wp2
  exact ⟨rfl, OutV.bad (grown_trans (grown_trans (grown_alloc _ _ _) hg1) hg2) HP.out⟩

set_option maxRecDepth 100000 in
set_option maxHeartbeats 1000000 in
theorem value_list (d : Nat) (hv : SaidValue d) (w : World) (b owed lev : Nat) (l : List Int) (hd : lev + (d + 1) = 16) (hr : Rdr w b (3 :: l) owed) (hl : l.length ≤ 100000000) (ho : owed ≤ 50000000) :
    Calls Try.prog 29 #[.pointer (some ⟨b, 0, none⟩), .int .i64 lev] w fun e w' => OutV w w' b owed (pv (d + 1) (3 :: l)) e := by
  have hp : pv (d + 1) (3 :: l) = (lv (pv d) l).map fun y => (T.mk 3 0 ⟨#[]⟩ y.1, y.2) := by
    rw [pv_three]; unfold lv; cases rn 0 0 l <;> rfl
  have hlist : ∀ w, Rdr w b l owed → Calls Try.prog 39 #[.pointer (some ⟨b, 0, none⟩), .int .i64 ((lev + 1 : Nat) : Int)] w fun e w' => OutL w w' b owed (lv (pv d) l) e := by
    intro w hr
    cases hn : rn 0 0 l with
    | none => exact list_none _ w b l owed _ hr hl hn
    | some x => exact list_some d hv w b l owed _ x.1 x.2 (by omega) hr hl ho hn
  have HL := hid hlist; have HP := hid hp; clear hlist hp hv
  have HR : Hid (∀ o, Rdr (w.alloc o) b (3 :: l) owed) := fun o => rdr_kept hr ((Below.refl _ _).alloc (rdr_lt hr) _)
  have hb := rdr_lt hr
  clear hr
  go_enter Try.func29, Try.ntmps29
  go_wp2_with fail
  refine (take_one b 3 l owed _ (HR.out _)).mono ?_
  rintro e w1 ⟨cc, oo, rfl, hb0, hr1, hg1⟩
  have HR1 := hid hr1; clear hr1
  go_wp2_with fail
  refine (HL.out _ HR1.out).mono ?_
  rintro e w2 ⟨hg2, h⟩
  rcases h with ⟨ts, r, v, hq, rfl, hr2, ha⟩ | ⟨rfl, hs⟩
  · have HQ := hid hq; have HR2 := hid hr2
    obtain ⟨k', n', s', p', len', cap', hv⟩ := atp_agg ha
    simp at hv
    obtain ⟨rfl, rfl, rfl, rfl⟩ := hv
    have HA := hid ha; clear hq hr2 ha
    obtain ⟨⟨z0, z1, z2, z3⟩, f0, f1, f2, f3⟩ := (((Zed.new w).grown hg1 (by omega)).grown hg2 (by omega)).cells
    go_wp2
    refine bodyPost_ret (v := .agg #[.int .i64 3, .int .i64 0, .string ⟨#[]⟩, .slice p' len' cap']) (by simp [results, Try.results29, go_sem, z0, z1, z2, z3]) rfl ?_
    refine OutV.good (t := T.mk 3 0 ⟨#[]⟩ ts) (r := r) (by rw [HP.out, HQ.out]; rfl) (grown_trans (grown_trans (grown_alloc _ _ _) hg1) hg2) HR2.out (Nat.le_refl _) hb ?_
    have hs1 := hg1.size
    simp at hs1
    refine AtP.kept (fun k hk => And.intro (And.intro (by omega) ?_) ?_) HA.out
    · exact Nat.lt_of_lt_of_le hk.2 (put4_below w2 w.heap.size (.int .i64 3) (.int .i64 0) (.string ⟨#[]⟩) (.slice p' len' cap')).size
    · exact put4at_block w2 w.heap.size 0 _ _ _ _ k (by have := hk.1; omega)
  · have HS := hid hs; clear hs
    go_wp2
    refine ⟨rfl, OutV.bad (grown_trans (grown_trans (grown_alloc _ _ _) hg1) hg2) ?_⟩
    intro t r h
    rw [HP.out] at h
    cases hq : lv (pv d) l with
    | none => rw [hq] at h; cases h
    | some y => rw [hq] at h; simp at h; have := HS.out y.1 y.2 hq; rw [← h.2]; exact this
theorem value_any (d : Nat) : SaidValue d := by
  induction d with
  | zero =>
    intro w b l owed lev hd hr hl ho
    cases l with
    | nil => exact value_nil 0 w b owed lev hr
    | cons c l =>
      simp at hl
      by_cases h1 : c = 1
      · subst h1; exact value_int 0 w b owed lev l hr (by omega)
      by_cases h2 : c = 2
      · subst h2; exact value_text 0 w b owed lev l hr (by omega)
      by_cases h3 : c = 3
      · subst h3; exact value_list0 w b owed lev l (by omega) hr (by omega)
      exact value_else 0 w b owed lev c l hr h1 h2 h3
  | succ d ih =>
    intro w b l owed lev hd hr hl ho
    cases l with
    | nil => exact value_nil _ w b owed lev hr
    | cons c l =>
      simp at hl
      by_cases h1 : c = 1
      · subst h1; exact value_int _ w b owed lev l hr (by omega)
      by_cases h2 : c = 2
      · subst h2; exact value_text _ w b owed lev l hr (by omega)
      by_cases h3 : c = 3
      · subst h3; exact value_list d ih w b owed lev l hd hr (by omega) ho
      exact value_else _ w b owed lev c l hr h1 h2 h3

end Go.Proofs.Ytiklpimnmbjenaa

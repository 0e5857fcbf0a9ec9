/- The reader of the reference: a value that is no list. -/
import Derived.Test.YtiklpimnmbjenaaRdC
import Derived.Test.YtiklpimnmbjenaaM
namespace Go.Proofs.Ytiklpimnmbjenaa
open Go.RowKit Go
set_option linter.unusedVariables false
set_option linter.unusedSimpArgs false
/-- the form of a value -/
def Shp (v : Value) : Prop := ∃ (k n : Int) (s : ByteArray) (p : Option Addr) (len cap : Nat), v = .agg #[.int .i64 k, .int .i64 n, .string s, .slice p len cap]
/-- what the reference's Value answers and leaves -/
def OutW (w w' : World) (b : Nat) (L : List Int) (o : Option (T × List Int)) (e : Ending) : Prop :=
  w.grownBy w' (some b) ∧ ∃ v, e = .returned v ∧ Shp v ∧ match o with
  | none => ∃ n, RR w' b L n true
  | some (t, r) => ∃ n, L.drop n = r ∧ RR w' b L n false ∧ AtP w' (fun k => w.heap.size ≤ k ∧ k < w'.heap.size) t v
def SaidRv (d : Nat) : Prop := ∀ (w : World) (b : Nat) (L : List Int) (at_ lev : Nat), lev + d = 16 → RR w b L at_ false →
  Calls Try.prog 30 #[.pointer (some ⟨b, 0, none⟩), .int .i64 lev] w fun e w' => OutW w w' b L (pv d (L.drop at_)) e
theorem OutW.bad {w w2 : World} {b k n : Nat} {L : List Int} {o : Option (T × List Int)} {k' n' : Int} {s : ByteArray} {p : Option Addr} {len cap : Nat} (ho : o = none) (hg : w.grownBy w2 (some b)) (hr : RR w2 b L n true) (hk : w.heap.size ≤ k) (hb : b < k) :
    OutW w (put4 w2 k (.int .i64 k') (.int .i64 n') (.string s) (.slice p len cap)) b L o (.returned (.agg #[.int .i64 k', .int .i64 n', .string s, .slice p len cap])) := by
  subst ho
  exact ⟨put4_grown hg hk _ _ _ _, _, rfl, ⟨_, _, _, _, _, _, rfl⟩, n, hr.kept ((put4_below w2 k _ _ _ _).mono hb)⟩
theorem OutW.good {w w2 : World} {b k n : Nat} {L : List Int} {o : Option (T × List Int)} {t : T} {r : List Int} {k' n' : Int} {s : ByteArray} {p : Option Addr} {len cap : Nat} (ho : o = some (t, r)) (hg : w.grownBy w2 (some b)) (hr : RR w2 b L n false) (hn : L.drop n = r) (hk : w.heap.size ≤ k) (hb : b < k)
    (ha : AtP (put4 w2 k (.int .i64 k') (.int .i64 n') (.string s) (.slice p len cap)) (fun j => w.heap.size ≤ j ∧ j < (put4 w2 k (.int .i64 k') (.int .i64 n') (.string s) (.slice p len cap)).heap.size) t (.agg #[.int .i64 k', .int .i64 n', .string s, .slice p len cap])) :
    OutW w (put4 w2 k (.int .i64 k') (.int .i64 n') (.string s) (.slice p len cap)) b L o (.returned (.agg #[.int .i64 k', .int .i64 n', .string s, .slice p len cap])) := by
  subst ho
  exact ⟨put4_grown hg hk _ _ _ _, _, rfl, ⟨_, _, _, _, _, _, rfl⟩, n, hn, hr.kept ((put4_below w2 k _ _ _ _).mono hb), ha⟩
theorem RR.lt {w : World} {b : Nat} {L : List Int} {at_ : Nat} {bad : Bool} (h : RR w b L at_ bad) : b < w.heap.size := h.2.1
theorem RR.al {w : World} {b : Nat} {L : List Int} {at_ : Nat} {bad : Bool} (h : RR w b L at_ bad) (o : Obj) : RR (w.alloc o) b L at_ bad := h.kept ((Below.refl _ _).alloc h.lt o)
theorem number_none (b : Nat) (L : List Int) (at_ : Nat) (w : World) (hr : RR w b L at_ false) (hn : rn 0 0 (L.drop at_) = none) :
    Calls Try.prog 41 #[.pointer (some ⟨b, 0, none⟩)] w fun e w' => e = .returned (.int .u64 0) ∧ (∃ n, RR w' b L n true) ∧ w.grownBy w' (some b) :=
  (number_any b L at_ w hr).mono fun e w' h => by unfold OutU at h; rw [hn] at h; exact ⟨h.2.1, h.2.2, h.1⟩
theorem number_some (b : Nat) (L : List Int) (at_ : Nat) (w : World) (u : Nat) (r : List Int) (hr : RR w b L at_ false) (hn : rn 0 0 (L.drop at_) = some (u, r)) :
    Calls Try.prog 41 #[.pointer (some ⟨b, 0, none⟩)] w fun e w' => e = .returned (.int .u64 u) ∧ (∃ n, n ≤ L.length ∧ L.drop n = r ∧ RR w' b L n false) ∧ w.grownBy w' (some b) :=
  (number_any b L at_ w hr).mono fun e w' h => by unfold OutU at h; rw [hn] at h; obtain ⟨h1, h2, _, n, _, h3, h4, h5⟩ := h; exact ⟨h2, ⟨n, h3, h4, h5⟩, h1⟩
theorem drop_get {L : List Int} {n : Nat} {c : Int} {l : List Int} (h : L.drop n = c :: l) : L[n]? = some c ∧ L.drop (n + 1) = l := by
  constructor
  · have := congrArg (·[0]?) h
    simpa using this
  · have := congrArg List.tail h
    simpa using this
set_option maxRecDepth 100000 in
set_option maxHeartbeats 1000000 in
theorem rval_nil (d : Nat) (w : World) (b : Nat) (L : List Int) (at_ lev : Nat) (hr : RR w b L at_ false) (hL : L.drop at_ = []) :
    Calls Try.prog 30 #[.pointer (some ⟨b, 0, none⟩), .int .i64 lev] w fun e w' => OutW w w' b L (pv d (L.drop at_)) e := by
  have HP : Hid (pv d (L.drop at_) = none) := by show _ = _; rw [hL, pv]
  have he : at_ = L.length := by have := hr.2.2.1; have := congrArg List.length hL; simp at this; omega
  have HR : Hid (∀ o, RR (w.alloc o) b L at_ false) := fun o => hr.al o
  have hb := hr.lt
  have HE := hid he
  clear hr hL he
  go_enter Try.func30, Try.ntmps30
  go_wp2_with (go_at_call 40; refine (next_end b L at_ false _ (HR.out _) HE.out).mono ?_; rintro e w1 ⟨rfl, hr1, hg1⟩; have h19 := hr1.2.2.2.2.2.2.1; have h111 := hr1.2.2.2.2.2.2.2.2; have HR1 := hid hr1; clear hr1; obtain ⟨⟨z0, z1, z2, z3⟩, f0, f1, f2, f3⟩ := ((Zed.new w).grown hg1 (by omega)).cells)
  refine bodyPost_ret (v := .agg #[.int .i64 0, .int .i64 0, .string ⟨#[]⟩, .slice none 0 0]) (by simp [results, Try.results30, go_sem, z0, z1, z2, z3]) rfl ?_
  exact OutW.bad HP.out (grown_trans (grown_trans (grown_alloc _ _ _) hg1) (grown_setCell _ _ _ _)) (HR1.out.bad true) (Nat.le_refl _) hb
set_option maxRecDepth 100000 in
set_option maxHeartbeats 1000000 in
theorem rval_else (d : Nat) (w : World) (b : Nat) (L : List Int) (at_ lev : Nat) (c : Int) (l : List Int) (hr : RR w b L at_ false) (hL : L.drop at_ = c :: l) (h1 : c ≠ 1) (h2 : c ≠ 2) (h3 : c ≠ 3) :
    Calls Try.prog 30 #[.pointer (some ⟨b, 0, none⟩), .int .i64 lev] w fun e w' => OutW w w' b L (pv d (L.drop at_)) e := by
  have HP : Hid (pv d (L.drop at_) = none) := by show _ = _; rw [hL, pv_else d c l h1 h2 h3]
  obtain ⟨hc, hl⟩ := drop_get hL
  have hc0 := hr.1 c (List.mem_of_getElem? hc)
  have HR : Hid (∀ o, RR (w.alloc o) b L at_ false) := fun o => hr.al o
  have hb := hr.lt
  have HC := hid hc
  have e1 : (c == 1) = false := by simp [h1]
  have e2 : (c == 2) = false := by simp [h2]
  have e3 : (c == 3) = false := by simp [h3]
  clear hr hL hc hl h1 h2 h3
  go_enter Try.func30, Try.ntmps30
  go_wp2_with (go_at_call 40; refine (next_byte b L at_ false _ _ (HR.out _) HC.out).mono ?_; rintro e w1 ⟨rfl, hr1, hg1⟩; have h19 := hr1.2.2.2.2.2.2.1; have h111 := hr1.2.2.2.2.2.2.2.2; have HR1 := hid hr1; clear hr1; obtain ⟨⟨z0, z1, z2, z3⟩, f0, f1, f2, f3⟩ := ((Zed.new w).grown hg1 (by omega)).cells)
  refine bodyPost_ret (v := .agg #[.int .i64 0, .int .i64 0, .string ⟨#[]⟩, .slice none 0 0]) (by simp [results, Try.results30, go_sem, z0, z1, z2, z3]) rfl ?_
  exact OutW.bad HP.out (grown_trans (grown_trans (grown_alloc _ _ _) hg1) (grown_setCell _ _ _ _)) (HR1.out.bad true) (Nat.le_refl _) hb
set_option maxRecDepth 100000 in
set_option maxHeartbeats 1000000 in
theorem rval_int (d : Nat) (w : World) (b : Nat) (L : List Int) (at_ lev : Nat) (l : List Int) (hr : RR w b L at_ false) (hL : L.drop at_ = 1 :: l) :
    Calls Try.prog 30 #[.pointer (some ⟨b, 0, none⟩), .int .i64 lev] w fun e w' => OutW w w' b L (pv d (L.drop at_)) e := by
  have HP : Hid (pv d (L.drop at_) = (rn 0 0 l).map fun x => (T.mk 1 (sig x.1) ⟨#[]⟩ [], x.2)) := by show _ = _; rw [hL, pv_one]
  obtain ⟨hc, hl⟩ := drop_get hL
  have HR : Hid (∀ o, RR (w.alloc o) b L at_ false) := fun o => hr.al o
  have hb := hr.lt
  have HC := hid hc
  clear hr hL hc
  cases hn : rn 0 0 l with
  | none =>
    have HN : Hid (rn 0 0 (L.drop (at_ + 1)) = none) := by show _ = _; rw [hl, hn]
    have HO : Hid (pv d (L.drop at_) = none) := by show _ = _; rw [HP.out, hn]; rfl
    clear hn hl
    go_enter Try.func30, Try.ntmps30
    go_wp2_with (first | (go_at_call 40; refine (next_byte b L at_ false _ _ (HR.out _) HC.out).mono ?_; rintro e w1 ⟨rfl, hr1, hg1⟩; have HR1 := hid hr1; clear hr1) | (go_at_call 41; refine (number_none b L _ _ HR1.out HN.out).mono ?_; rintro e w2 ⟨rfl, ⟨n2, hr2⟩, hg2⟩; have h19 := hr2.2.2.2.2.2.2.1; have h111 := hr2.2.2.2.2.2.2.2.2; have HR2 := hid hr2; clear hr2; obtain ⟨⟨z0, z1, z2, z3⟩, f0, f1, f2, f3⟩ := (((Zed.new w).grown hg1 (by omega)).grown hg2 (by omega)).cells))
    refine bodyPost_ret (v := .agg #[.int .i64 1, .int .i64 0, .string ⟨#[]⟩, .slice none 0 0]) (by simp [results, Try.results30, go_sem, z0, z1, z2, z3]) rfl ?_
    exact OutW.bad HO.out (grown_trans (grown_trans (grown_alloc _ _ _) hg1) hg2) HR2.out (Nat.le_refl _) hb
  | some x =>
    obtain ⟨u, r⟩ := x
    have hu := rn_lt _ _ _ _ _ (by decide) (by decide) hn
    have HN : Hid (rn 0 0 (L.drop (at_ + 1)) = some (u, r)) := by show _ = _; rw [hl, hn]
    have HO : Hid (pv d (L.drop at_) = some (T.mk 1 (sig u) ⟨#[]⟩ [], r)) := by show _ = _; rw [HP.out, hn]; rfl
    clear hn hl
    have q1 : (u : Int).tdiv 2 = ((u / 2 : Nat) : Int) := by rw [Int.tdiv_eq_ediv_of_nonneg (by omega)]; omega
    have q2 : (u : Int).tmod 2 = ((u % 2 : Nat) : Int) := by rw [Int.tmod_eq_emod_of_nonneg (by omega)]; omega
    by_cases ho : u % 2 = 1
    · have hs : sig u = -((u : Int) / 2) - 1 := by unfold sig; split <;> omega
      go_enter Try.func30, Try.ntmps30
      go_wp2_with (first | (go_at_call 40; refine (next_byte b L at_ false _ _ (HR.out _) HC.out).mono ?_; rintro e w1 ⟨rfl, hr1, hg1⟩; have HR1 := hid hr1; clear hr1) | (go_at_call 41; refine (number_some b L _ _ u r HR1.out HN.out).mono ?_; rintro e w2 ⟨rfl, ⟨n2, hn2, hd2, hr2⟩, hg2⟩; have HR2 := hid hr2; have HD2 := hid hd2; clear hr2 hd2; obtain ⟨⟨z0, z1, z2, z3⟩, f0, f1, f2, f3⟩ := (((Zed.new w).grown hg1 (by omega)).grown hg2 (by omega)).cells))
      refine bodyPost_ret (v := .agg #[.int .i64 1, .int .i64 (-((u : Int) / 2) - 1), .string ⟨#[]⟩, .slice none 0 0]) (by simp [results, Try.results30, go_sem, z0, z1, z2, z3]) rfl ?_
      refine OutW.good HO.out (grown_trans (grown_trans (grown_alloc _ _ _) hg1) hg2) HR2.out HD2.out (Nat.le_refl _) hb ?_
      rw [← hs, AtP]
      exact ⟨⟨by unfold wfI; omega, sig_wf u hu⟩, Nat.zero_le _, none, 0, rfl, by simp, by simp, 0, 0, by simp, by simp⟩
    · have hs : sig u = (u : Int) / 2 := by unfold sig; split <;> omega
      go_enter Try.func30, Try.ntmps30
      go_wp2_with (first | (go_at_call 40; refine (next_byte b L at_ false _ _ (HR.out _) HC.out).mono ?_; rintro e w1 ⟨rfl, hr1, hg1⟩; have HR1 := hid hr1; clear hr1) | (go_at_call 41; refine (number_some b L _ _ u r HR1.out HN.out).mono ?_; rintro e w2 ⟨rfl, ⟨n2, hn2, hd2, hr2⟩, hg2⟩; have HR2 := hid hr2; have HD2 := hid hd2; clear hr2 hd2; obtain ⟨⟨z0, z1, z2, z3⟩, f0, f1, f2, f3⟩ := (((Zed.new w).grown hg1 (by omega)).grown hg2 (by omega)).cells))
      refine bodyPost_ret (v := .agg #[.int .i64 1, .int .i64 ((u : Int) / 2), .string ⟨#[]⟩, .slice none 0 0]) (by simp [results, Try.results30, go_sem, z0, z1, z2, z3]) rfl ?_
      refine OutW.good HO.out (grown_trans (grown_trans (grown_alloc _ _ _) hg1) hg2) HR2.out HD2.out (Nat.le_refl _) hb ?_
      rw [← hs, AtP]
      exact ⟨⟨by unfold wfI; omega, sig_wf u hu⟩, Nat.zero_le _, none, 0, rfl, by simp, by simp, 0, 0, by simp, by simp⟩
end Go.Proofs.Ytiklpimnmbjenaa

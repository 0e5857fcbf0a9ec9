/- Contracts of the functions of package codec and lemmas for them: what each call returns and what becomes of memory, for every input within the bounds that each theorem states. -/
import Derived.Test.YtiklpimnmbjenaaM
namespace Go.Proofs.Ytiklpimnmbjenaa
open Go.RowKit Go
set_option linter.unusedVariables false
set_option linter.unusedSimpArgs false

theorem catch_panicking (p q : Nat) (x : Value) (u : TypeId) (pv : Value) (older : List PanicEntry) (w : World) (c0 c1 c2 c3 : Value)
    (h0 : w.cell? ⟨p, 0, none⟩ = some c0) (h1 : w.cell? ⟨p, 1, none⟩ = some c1) (h2 : w.cell? ⟨p, 2, none⟩ = some c2) (h3 : w.cell? ⟨p, 3, none⟩ = some c3) (hq : w.cell? ⟨q, 0, none⟩ = some x)
    (f0 : w.frozen? ⟨p, 0, none⟩ = false) (f1 : w.frozen? ⟨p, 1, none⟩ = false) (f2 : w.frozen? ⟨p, 2, none⟩ = false) (f3 : w.frozen? ⟨p, 3, none⟩ = false) (fq : w.frozen? ⟨q, 0, none⟩ = false) (hne : p ≠ q) :
    CallsD Try.prog 28 #[.pointer (some ⟨p, 0, none⟩), .pointer (some ⟨q, 0, none⟩)] (.panicking ({ v := .iface u pv, recovered := false } :: older)) w fun e u' w' =>
      e = .returned (.tuple #[]) ∧ u' = .panicking ({ v := .iface u pv, recovered := true } :: older) ∧ w' = (put4 w p (.int .i64 0) (.int .i64 0) (.string ⟨#[]⟩) (.slice none 0 0)).setCell ⟨q, 0, none⟩ (.int .i64 10) := by
  refine callsD_of_wpS Try.func28 rfl fun c₀ cs hu => ?_
  apply wpS_seq
  apply wpS_region
  simp [wpOpsS, go_sem, recoverD, hu, Try.ntmps28, Exit.thenS]
  refine wpS_cond (t := true) (by simp [Act.eval, Array.replicate]) ?_
  simp only [if_true]
  apply wpS_region
  simp [wpOpsS, go_sem, h0, h1, h2, h3, hq, f0, f1, f2, f3, fq, bodyPostS, results, Try.results28]

theorem catch_idle (p q : Addr) (w : World) :
    CallsD Try.prog 28 #[.pointer (some p), .pointer (some q)] .returning w fun e u' w' => e = .returned (.tuple #[]) ∧ u' = .returning ∧ w' = w := by
  refine callsD_of_wpS Try.func28 rfl fun c₀ cs hu => ?_
  apply wpS_seq
  apply wpS_region
  simp [wpOpsS, go_sem, recoverD, hu, Try.ntmps28, Exit.thenS]
  refine wpS_cond (t := false) (by simp [Act.eval, Array.replicate]) ?_
  simp only [Bool.false_eq_true, if_false]
  refine wpS_of_wp (wp_skip ?_)
  cases c₀
  simp_all [bodyPostS, results, Try.results28]
/-- the bytes l, as a slice that came in -/
def InB (w : World) (v : Value) (l : List Int) : Prop :=
  (∀ x ∈ l, 0 ≤ x ∧ x < 256) ∧ ∃ p cap, v = .slice p l.length cap ∧ l.length ≤ cap ∧ (l ≠ [] → ∃ c o, p = some ⟨c, o, none⟩ ∧ c < w.heap.size ∧ Bytes w c o l)

abbrev ZV : Value := .agg #[.int .i64 0, .int .i64 0, .string ⟨#[]⟩, .slice none 0 0]

/-- what Decode finds -/
def decB (l : List Int) : Option T := match pv 16 l with
  | some (t, []) => some t
  | _ => none

def OutD (w w' : World) (o : Option T) (e : Ending) : Prop :=
  Below w.heap.size w w' ∧ match o with
  | some t => ∃ v, e = .returned (.tuple #[v, .int .i64 0]) ∧ AtP w' (fun k => w.heap.size ≤ k ∧ k < w'.heap.size) t v
  | none => e = .returned (.tuple #[ZV, .int .i64 10])

theorem put4_cells {w : World} {k : Nat} {c0 c1 c2 c3 d0 d1 d2 d3 : Value} (h0 : w.cell? ⟨k, 0, none⟩ = some d0) (h1 : w.cell? ⟨k, 1, none⟩ = some d1) (h2 : w.cell? ⟨k, 2, none⟩ = some d2) (h3 : w.cell? ⟨k, 3, none⟩ = some d3) :
    (put4 w k c0 c1 c2 c3).cell? ⟨k, 0, none⟩ = some c0 ∧ (put4 w k c0 c1 c2 c3).cell? ⟨k, 1, none⟩ = some c1 ∧ (put4 w k c0 c1 c2 c3).cell? ⟨k, 2, none⟩ = some c2 ∧ (put4 w k c0 c1 c2 c3).cell? ⟨k, 3, none⟩ = some c3 := by
  unfold put4
  refine ⟨?_, ?_, ?_, ?_⟩ <;> simp [go_sem, h0, h1, h2, h3]

theorem end_below (w : World) (k : Nat) (c0 c1 c2 c3 d0 d1 d2 d3 v : Value) : Below k w ((put4 (put4 w k c0 c1 c2 c3) k d0 d1 d2 d3).setCell ⟨k + 1, 0, none⟩ v) :=
  ((put4_below w k c0 c1 c2 c3).trans (put4_below (put4 w k c0 c1 c2 c3) k d0 d1 d2 d3)).setCell (p := ⟨k + 1, 0, none⟩) (Nat.le_succ k) v
theorem end_one (w : World) (k : Nat) (d0 d1 d2 d3 v : Value) : Below k w ((put4 w k d0 d1 d2 d3).setCell ⟨k + 1, 0, none⟩ v) :=
  (put4_below w k d0 d1 d2 d3).setCell (p := ⟨k + 1, 0, none⟩) (Nat.le_succ k) v
theorem end_block (w : World) (k : Nat) (c0 c1 c2 c3 d0 d1 d2 d3 v : Value) (j : Nat) (hj : k + 1 < j) : ((put4 (put4 w k c0 c1 c2 c3) k d0 d1 d2 d3).setCell ⟨k + 1, 0, none⟩ v).heap[j]? = w.heap[j]? := by
  rw [Below.heap_setCell _ _ _ _ (by show j ≠ k + 1; omega)]
  exact (put4at_block (put4 w k c0 c1 c2 c3) k 0 d0 d1 d2 d3 j (by omega)).trans (put4at_block w k 0 c0 c1 c2 c3 j (by omega))

/-- the world in which Decode calls value -/
abbrev D0 (w : World) (p : Option Addr) (len cap : Nat) : World :=
  ((w.alloc (.cells #[.int .i64 0, .int .i64 0, .string ⟨#[]⟩, .slice none 0 0] 24)).alloc (.cells #[.int .i64 0] 28)).alloc (.cells #[.slice p len cap, .int .u64 0] 52)

theorem D0_rdr {w : World} {p : Option Addr} {l : List Int} {cap : Nat} (hby : ∀ x ∈ l, 0 ≤ x ∧ x < 256) (hlc : l.length ≤ cap) (hm : l.length ≤ 140737488351232) (hc : l ≠ [] → ∃ c o, p = some ⟨c, o, none⟩ ∧ c < w.heap.size ∧ Bytes w c o l) :
    Rdr (D0 w p l.length cap) (w.heap.size + 1 + 1) l 0 := by
  refine ⟨hby, by unfold D0; simp [go_sem], p, cap, by unfold D0; simp [go_sem], hlc, hm, by unfold D0; simp [go_sem], by unfold D0; simp [go_sem], by unfold D0; simp [go_sem], fun hl => ?_⟩
  obtain ⟨c, o, hp, hlt, hb⟩ := hc hl
  refine ⟨c, o, hp, by omega, hb.kept fun o => ?_⟩
  have hbel : Below w.heap.size w (D0 w p l.length cap) := (((Below.refl _ _).alloc (Nat.le_refl _) _).alloc (by simp) _).alloc (by simp; omega) _
  exact hbel.cell (p := ⟨c, o, none⟩) hlt

theorem D0_after {w w1 : World} {p : Option Addr} {len cap : Nat} (hg : (D0 w p len cap).grownBy w1 (some (w.heap.size + 1 + 1))) :
    Zed w1 w.heap.size ∧ (w1.cell? ⟨w.heap.size + 1, 0, none⟩ = some (.int .i64 0) ∧ w1.frozen? ⟨w.heap.size + 1, 0, none⟩ = false) ∧ Below w.heap.size w w1 := by
  have hbel : Below w.heap.size w (D0 w p len cap) := (((Below.refl _ _).alloc (Nat.le_refl _) _).alloc (by simp) _).alloc (by simp; omega) _
  refine ⟨?_, ⟨?_, ?_⟩, hbel.trans (below_of_grown hg (by omega) hbel.size)⟩
  · exact (((Zed.new w).grown (grown_alloc _ _ (some (w.heap.size + 1 + 1))) (by omega)).grown (grown_alloc _ _ (some (w.heap.size + 1 + 1))) (by omega)).grown hg (by omega)
  · exact hg.cell (by unfold D0; simp [go_sem]) (by simp)
  · rw [World.frozen?_of_block (a := ⟨w.heap.size + 1, 0, none⟩) (hg.block _ (by unfold D0; simp) (by simp))]; unfold D0; simp [go_sem]

set_option maxRecDepth 100000 in
set_option maxHeartbeats 2000000 in
theorem Decode_any (l : List Int) (v : Value) (w : World) (hv : InB w v l) (hl : l.length ≤ 100000000) :
    Calls Try.prog 14 #[v] w fun e w' => OutD w w' (decB l) e := by
  obtain ⟨hby, p, cap, rfl, hlc, hc⟩ := hv
  have hm : l.length ≤ 140737488351232 := by omega
  have hmf : ∀ (fn : Fn) (first cap : Array Value) (w : World), (Instr.makeFunc fn first cap).run Try.prog w = .ok (.func fn first cap) w := fun _ _ _ _ => rfl
  have hval := value_any 16
  have HV := hid hval; clear hval
  have HR := hid (D0_rdr hby hlc hm hc); clear hby hc
  go_enter_defers Try.func14, Try.ntmps14
  go_wp2_with fail
  refine (HV.out _ (w.heap.size + 1 + 1) l 0 0 rfl HR.out hl (by omega)).mono ?_
  rintro e w1 ⟨hg1, h⟩
  obtain ⟨hz, ⟨y0, y1⟩, hbel⟩ := D0_after hg1
  obtain ⟨⟨z0, z1, z2, z3⟩, f0, f1, f2, f3⟩ := hz.cells
  have hsz := hg1.size
  simp at hsz
  have HB := hid hbel; clear hz hbel
  rcases h with ⟨t, r, v, hp, rfl, hr1, ha⟩ | ⟨rfl, hs⟩
  · obtain ⟨k', n', s', p', len', cap', rfl⟩ := atp_agg ha
    have HP := hid hp; have HA := hid ha; clear hp ha
    obtain ⟨_, _, pr, capr, hq, _, _, _, _, _, _⟩ := hr1
    obtain ⟨s0, s1, s2, s3⟩ := put4_cells (c0 := .int .i64 k') (c1 := .int .i64 n') (c2 := .string s') (c3 := .slice p' len' cap') z0 z1 z2 z3
    cases r with
    | nil =>
      simp only [List.length_nil] at hq
      have HD : Hid (decB l = some t) := by show decB l = some t; unfold decB; rw [HP.out]
      go_wp2
      refine leaves_cons (f := 28) (args := #[.pointer (some ⟨w.heap.size, 0, none⟩), .pointer (some ⟨w.heap.size + 1, 0, none⟩)]) (by simp) (by simp [go_sem]) ?_
      refine (catch_idle _ _ _).mono ?_
      rintro e u' w'' ⟨rfl, rfl, rfl⟩
      simp [Leaves, settle, results, Try.results14, go_sem, z0, z1, z2, z3, y0, s0, s1, s2, s3]
      unfold OutD
      rw [HD.out]
      have hend := end_below w1 w.heap.size (.int .i64 k') (.int .i64 n') (.string s') (.slice p' len' cap') (.int .i64 k') (.int .i64 n') (.string s') (.slice p' len' cap') (.int .i64 0)
      refine ⟨HB.out.trans hend, _, rfl, AtP.kept (fun k hk => ?_) HA.out⟩
      have hk1 : w.heap.size + 1 + 1 + 1 ≤ k := by have := hk.1; unfold D0 at this; simpa using this
      exact ⟨⟨by omega, Nat.lt_of_lt_of_le hk.2 hend.size⟩, end_block w1 w.heap.size _ _ _ _ _ _ _ _ _ k (by omega)⟩
    | cons c r =>
      simp only [List.length_cons] at hq
      have HD : Hid (decB l = none) := by show decB l = none; unfold decB; rw [HP.out]
      have hne : w.heap.size ≠ w.heap.size + 1 := by omega
      go_wp2
      refine leaves_cons (f := 28) (args := #[.pointer (some ⟨w.heap.size, 0, none⟩), .pointer (some ⟨w.heap.size + 1, 0, none⟩)]) (by simp) (by simp [go_sem]) ?_
      refine (catch_panicking w.heap.size (w.heap.size + 1) (.int .i64 0) 28 _ [] _ (.int .i64 k') (.int .i64 n') (.string s') (.slice p' len' cap') (by simp [go_sem, z0]) (by simp [go_sem, z1]) (by simp [go_sem, z2]) (by simp [go_sem, z3]) (by simp [go_sem, y0]) (by simp [go_sem, f0]) (by simp [go_sem, f1]) (by simp [go_sem, f2]) (by simp [go_sem, f3]) (by simp [go_sem, y1]) (by omega)).mono ?_
      rintro e u' w'' ⟨rfl, rfl, rfl⟩
      simp [Leaves, settle, results, Try.results14, go_sem, z0, z1, z2, z3, y0, s0, s1, s2, s3]
      unfold OutD
      rw [HD.out]
      exact ⟨HB.out.trans (end_below w1 w.heap.size (.int .i64 k') (.int .i64 n') (.string s') (.slice p' len' cap') (.int .i64 0) (.int .i64 0) (.string ⟨#[]⟩) (.slice none 0 0) (.int .i64 10)), rfl⟩
  · have HD : Hid (decB l = none) := by
      show decB l = none
      unfold decB
      split
      · rename_i t h; have := hs t [] h; simp at this
      · rfl
    clear hs
    go_wp2
    refine leaves_cons (f := 28) (args := #[.pointer (some ⟨w.heap.size, 0, none⟩), .pointer (some ⟨w.heap.size + 1, 0, none⟩)]) (by simp) (by simp [go_sem]) ?_
    refine (catch_panicking w.heap.size (w.heap.size + 1) _ 28 _ [] _ _ _ _ _ z0 z1 z2 z3 y0 f0 f1 f2 f3 y1 (by omega)).mono ?_
    rintro e u' w'' ⟨rfl, rfl, rfl⟩
    simp [Leaves, settle, results, Try.results14, go_sem, z0, z1, z2, z3, y0]
    unfold OutD
    rw [HD.out]
    exact ⟨HB.out.trans (end_one w1 w.heap.size (.int .i64 0) (.int .i64 0) (.string ⟨#[]⟩) (.slice none 0 0) (.int .i64 10)), rfl⟩
end Go.Proofs.Ytiklpimnmbjenaa

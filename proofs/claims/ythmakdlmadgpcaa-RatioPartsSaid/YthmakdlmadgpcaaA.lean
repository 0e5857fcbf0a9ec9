/- Contracts: size, the greatest common divisor, New. -/
import Derived.Test.YthmakdlmadgpcaaProg
import Derived.Test.YthmakdlmadgpcaaPure
import Derived.RangeFuncNested
import Derived.RangeFuncBound
import Derived.RangeFuncCalls
import Derived.RangeFuncLeaves
import Derived.Shelf.Abstract
import Derived.Shelf.RegionOpen
import Derived.OwnWalkIn
import Derived.TacticsInMore
import Derived.LoopNIn
import Derived.LoopIn
import Derived.Laws.EntriesVeiled
import Derived.WalkKit
import Derived.WalkLawsBesides
import Derived.Deep.DeepCutAuto
import Derived.Deep.CutBlock
import Derived.Deep.RegionWith
import Derived.Deep.Quiet
import Derived.Deep.QuietTactic
import Derived.Laws.BitsAllLaws
import Derived.Lib.Hide
namespace Go.Proofs.Ythmakdlmadgpcaa
open Go.RowKit Go
set_option linter.unusedVariables false
set_option linter.unusedSimpArgs false
theorem hid {p : Prop} (h : p) : Hid p := Lib.hid h
theorem ret_int {k : IntKind} {a b : Int} (h : a = b) : Ending.returned (.int k a) = .returned (.int k b) := by rw [h]
theorem wrap_u64 (n : Int) : IntKind.u64.wrap n = n % 18446744073709551616 := by simp [IntKind.wrap, IntKind.bits, IntKind.signed]
theorem wrap_i64 (n : Int) (h0 : -9223372036854775808 ≤ n) (h1 : n ≤ 9223372036854775807) : IntKind.i64.wrap n = n := by simp [IntKind.wrap, IntKind.bits, IntKind.signed]; omega
def I64 (n : Int) : Prop := -9223372036854775808 ≤ n ∧ n ≤ 9223372036854775807
/-- a fraction's value -/
abbrev RV (p q : Int) : Value := .agg #[.int .i64 p, .int .i64 q]
theorem size_any (n : Int) (hn : I64 n) (w : World) :
    Calls Try.prog 26 #[.int .i64 n] w fun e w' => e = .returned (.int .u64 (n.natAbs : Int)) ∧ w = w' := by
  obtain ⟨h0, h1⟩ := hn
  rcases Int.lt_or_le n 0 with hlt | hge
  · have e2 : IntKind.u64.wrap (-IntKind.u64.wrap n) = (n.natAbs : Int) := by simp only [wrap_u64]; omega
    have E := hid e2; clear e2
    go_enter Try.func26, Try.ntmps26
    go_wp2
    go_ret
    exact ⟨ret_int E.out, rfl⟩
  · obtain ⟨k, rfl⟩ : ∃ k : Nat, n = (k : Int) := ⟨n.natAbs, by omega⟩
    go_enter Try.func26, Try.ntmps26
    go_wp2
    go_ret
    exact ⟨ret_int (by simp), rfl⟩
theorem gcd_step (a b : Nat) (h : b ≠ 0) : Nat.gcd b (a % b) = Nat.gcd a b := by
  rw [Nat.gcd_comm a b, Nat.gcd_rec b a, Nat.gcd_comm]

set_option maxRecDepth 100000 in
theorem div_any (g : Nat) : ∀ (b a : Nat) (w : World), a < 18446744073709551616 → b < 18446744073709551616 → w.cell? ⟨g, 0, none⟩ = some (.func (.func 38) #[] #[.pointer (some ⟨g, 0, none⟩)]) →
    Calls Try.prog 38 #[.int .u64 (a : Int), .int .u64 (b : Int), .pointer (some ⟨g, 0, none⟩)] w fun e w' => e = .returned (.int .u64 (Nat.gcd a b : Int)) ∧ ∃ n, w' = w.drewN n := by
  intro b
  induction b using Nat.strongRecOn with
  | ind b ih =>
    intro a w ha hb hc
    by_cases h0 : b = 0
    · subst h0
      go_enter Try.func38, Try.ntmps38
      go_wp2
      go_ret
      exact ⟨by simp, 0, rfl⟩
    · have hm : a % b < b := Nat.mod_lt _ (by omega)
      have hs := gcd_step a b h0
      have IH := hid (ih (a % b) hm b); clear ih
      have HS := hid hs; clear hs
      have hb0 : (b : Int) ≠ 0 := by omega
      have HA := hid ha; have HBb := hid hb; have HM := hid hm; clear ha hb hm
      have hbz : ((b : Int) == 0) = false := by simp; omega
      go_enter Try.func38, Try.ntmps38
      go_wp2_with fail
      go_quiet ((go_at_call 38; exact Calls.quiet_of (IH.out _ HBb.out (Nat.lt_trans HM.out HBb.out) (by simpa using hc))))
      go_wp2
      go_ret
      exact ⟨ret_int (by rw [HS.out]), _, rfl⟩
theorem cell_of_box_l {W : World} {B : Nat} {v : Value} {t : TypeId} (h : W.heap[B]? = some (.cells #[v] t (0, 0))) : W.cell? ⟨B, 0, none⟩ = some v ∧ W.frozen? ⟨B, 0, none⟩ = false := by
  constructor <;> simp [World.cell?, World.frozen?, h]
theorem cell_new_l (W : World) (v : Value) (t : TypeId) : (W.alloc (.cells #[v] t)).cell? ⟨W.heap.size, 0, none⟩ = some v ∧ (W.alloc (.cells #[v] t)).frozen? ⟨W.heap.size, 0, none⟩ = false :=
  cell_of_box_l (World.alloc_heap_new W _)
theorem common_any (a b : Nat) (ha : a < 18446744073709551616) (hb : b < 18446744073709551616) (w : World) :
    Calls Try.prog 25 #[.int .u64 (a : Int), .int .u64 (b : Int)] w fun e w' => e = .returned (.int .u64 (Nat.gcd a b : Int)) ∧ Below w.heap.size w w' := by
  have hB0 : Below w.heap.size w (w.alloc (.cells #[.func (.func 38) #[] #[.pointer (some ⟨w.heap.size, 0, none⟩)]] 47)) := (Below.refl _ w).alloc (Nat.le_refl _) _
  have hs := (cell_new_l w (.func (.func 38) #[] #[.pointer (some ⟨w.heap.size, 0, none⟩)]) 47).1
  have hmf : ∀ (fn : Fn) (first cap : Array Value) (w : World), (Instr.makeFunc fn first cap).run Try.prog w = .ok (.func fn first cap) w := fun _ _ _ _ => rfl
  have HA := hid ha; have HB := hid hb; clear ha hb
  have HB0 := hid hB0; clear hB0
  go_enter Try.func25, Try.ntmps25
  go_wp2_with fail
  refine (div_any _ b a _ HA.out HB.out hs).mono ?_
  rintro e w' ⟨rfl, n, rfl⟩
  go_wp2
  go_ret
  exact ⟨rfl, below_drewN HB0.out n⟩
/-- a division of two numbers that are not negative -/
theorem u64_quo (a b : Nat) (ha : a < 18446744073709551616) : IntKind.u64.wrap ((a : Int) / (b : Int)) = ((a / b : Nat) : Int) := by
  rw [wrap_u64]
  have : a / b ≤ a := Nat.div_le_self a b
  obtain ⟨q, hq⟩ : ∃ q, q = a / b := ⟨_, rfl⟩
  rw [show (a : Int) / (b : Int) = (q : Int) by rw [hq]; simp, ← hq]
  omega
/-- the results of New -/
abbrev RR (x : Int × Int × Int) : Value := .tuple #[RV x.1 x.2.1, .int .i64 x.2.2]
theorem below_t {A B C : World} {n : Nat} (h : Below n A B) (k : Below B.heap.size B C) (hn : n ≤ A.heap.size := by omega) : Below n A C := h.trans (k.mono (Nat.le_trans hn h.size))
theorem nw_eq (n d : Int) (g : Nat) (h : ¬ d = 0) (hg : g = Nat.gcd n.natAbs d.natAbs) : nw n d =
    if 1073741824 < n.natAbs / g ∨ 1073741824 < d.natAbs / g then (0, 0, 2)
    else if decide (n < 0) = decide (d < 0) then (((n.natAbs / g : Nat) : Int), ((d.natAbs / g : Nat) : Int), 0) else (-((n.natAbs / g : Nat) : Int), ((d.natAbs / g : Nat) : Int), 0) := by
  unfold nw; rw [if_neg h, hg]
theorem box2 {W : World} {B : Nat} {u v : Value} {t : TypeId} (h : W.heap[B]? = some (.cells #[u, v] t (0, 0))) : W.cell? ⟨B, 0, none⟩ = some u ∧ W.cell? ⟨B, 1, none⟩ = some v ∧
    W.frozen? ⟨B, 0, none⟩ = false ∧ W.frozen? ⟨B, 1, none⟩ = false := by
  refine ⟨?_, ?_, ?_, ?_⟩ <;> simp [World.cell?, World.frozen?, h]
theorem new2 (W : World) (u v : Value) (t : TypeId) : (W.alloc (.cells #[u, v] t)).cell? ⟨W.heap.size, 0, none⟩ = some u ∧ (W.alloc (.cells #[u, v] t)).cell? ⟨W.heap.size, 1, none⟩ = some v ∧
    (W.alloc (.cells #[u, v] t)).frozen? ⟨W.heap.size, 0, none⟩ = false ∧ (W.alloc (.cells #[u, v] t)).frozen? ⟨W.heap.size, 1, none⟩ = false :=
  box2 (World.alloc_heap_new W _)
theorem cells2 {W : World} {B : Nat} {x0 y0 : Value} (x y : Value) (h0 : W.cell? ⟨B, 0, none⟩ = some x0) (h1 : W.cell? ⟨B, 1, none⟩ = some y0) :
    ((W.setCell ⟨B, 0, none⟩ x).setCell ⟨B, 1, none⟩ y).cell? ⟨B, 0, none⟩ = some x ∧ ((W.setCell ⟨B, 0, none⟩ x).setCell ⟨B, 1, none⟩ y).cell? ⟨B, 1, none⟩ = some y := by
  have n1 : (⟨B, 1, none⟩ : Addr) ≠ ⟨B, 0, none⟩ := by simp
  have n2 : (⟨B, 0, none⟩ : Addr) ≠ ⟨B, 1, none⟩ := by simp
  have e0 : (W.setCell ⟨B, 0, none⟩ x).cell? ⟨B, 0, none⟩ = some x := World.cell?_setCell_same' _ _ _ (by simp [h0])
  have e1 : (W.setCell ⟨B, 0, none⟩ x).cell? ⟨B, 1, none⟩ = some y0 := by rw [World.cell?_setCell_other (h := n2)]; exact h1
  exact ⟨by rw [World.cell?_setCell_other (h := n1)]; exact e0, World.cell?_setCell_same' _ _ _ (by simp [e1])⟩
theorem fin2 {n d p q e : Int} {w w1 : World} {nq : Nat} {x0 y0 : Value} {ts : Array Value} {ds : List Deferred} (hv : nw n d = (p, q, e)) (hb : Below w.heap.size w w1) (h0 : w1.cell? ⟨w.heap.size, 0, none⟩ = some x0) (h1 : w1.cell? ⟨w.heap.size, 1, none⟩ = some y0)
    (h4 : ts[4]? = some (.pointer (some ⟨w.heap.size, 0, none⟩)) := by rfl) (h5 : ts[5]? = some (.int .i64 e) := by rfl) (hd : ds = [] := by rfl) :
    bodyPost Try.prog Try.f12 (fun e w' => e = Ending.returned (RR (nw n d)) ∧ Below w.heap.size w w') Exit.ret { tmps := ts, defers := ds } (((w1.drewN nq).setCell ⟨w.heap.size, 0, none⟩ (.int .i64 p)).setCell ⟨w.heap.size, 1, none⟩ (.int .i64 q)) := by
  subst hd
  rw [hv]
  obtain ⟨c0, c1⟩ := cells2 (W := w1.drewN nq) (.int .i64 p) (.int .i64 q) h0 h1
  refine bodyPost_ret (v := RR (p, q, e)) ?_ rfl ⟨rfl, ((below_drewN hb nq).setCell (p := ⟨w.heap.size, 0, none⟩) (Nat.le_refl _) _).setCell (p := ⟨w.heap.size, 1, none⟩) (Nat.le_refl _) _⟩
  simp [results, Try.results12, go_sem, h4, h5, c0, c1]
set_option maxRecDepth 100000 in
theorem New_any (n d : Int) (hn : I64 n) (hd : I64 d) (w : World) :
    Calls Try.prog 12 #[.int .i64 n, .int .i64 d] w fun e w' => e = .returned (RR (nw n d)) ∧ Below w.heap.size w w' := by
  by_cases h0 : d = 0
  · subst h0
    rw [nw_zero]
    clear hn hd
    go_enter Try.func12, Try.ntmps12
    go_wp2
    exact bodyPost_ret (v := RR (0, 0, 1)) (by simp [results, Try.results12, go_sem]) rfl ⟨rfl, (Below.refl _ w).alloc (Nat.le_refl _) _⟩
  · obtain ⟨g, hg⟩ : ∃ g, g = Nat.gcd n.natAbs d.natAbs := ⟨_, rfl⟩
    have HN := hid hn; have HD := hid hd
    have hln : n.natAbs < 18446744073709551616 := by unfold I64 at hn; omega
    have hld : d.natAbs < 18446744073709551616 := by unfold I64 at hd; omega
    have HLN := hid hln; have HLD := hid hld
    clear hn hd hln hld
    go_enter Try.func12, Try.ntmps12
    go_wp2_with fail
    refine (size_any n HN.out _).mono ?_
    rintro e w1 ⟨rfl, hw⟩
    obtain rfl := hw
    go_wp2_with fail
    refine (size_any d HD.out _).mono ?_
    rintro e w1 ⟨rfl, hw⟩
    obtain rfl := hw
    go_wp2_with fail
    refine (common_any _ _ HLN.out HLD.out _).mono ?_
    rintro e w1 ⟨rfl, hb1⟩
    rw [← hg]
    have hg0 : 0 < g := by rw [hg]; exact Nat.gcd_pos_of_pos_right _ (by omega)
    have hB0 : Below w.heap.size w w1 := below_t ((Below.refl _ w).alloc (Nat.le_refl _) _) hb1
    obtain ⟨x0, x1, f0, f1⟩ := new2 w (.int .i64 0) (.int .i64 0) 23
    have k0 : (⟨w.heap.size, 0, none⟩ : Addr).block < (w.alloc (.cells #[.int .i64 0, .int .i64 0] 23)).heap.size := by simp
    have c0 := (hb1.cell (p := ⟨w.heap.size, 0, none⟩) k0).trans x0
    have c1 := (hb1.cell (p := ⟨w.heap.size, 1, none⟩) k0).trans x1
    have z0 := (hb1.frozen (p := ⟨w.heap.size, 0, none⟩) k0).trans f0
    have z1 := (hb1.frozen (p := ⟨w.heap.size, 1, none⟩) k0).trans f1
    clear x0 x1 f0 f1 hb1 k0
    have hq1 := u64_quo n.natAbs g HLN.out
    have hq2 := u64_quo d.natAbs g HLD.out
    have hnw := nw_eq n d g h0 hg
    obtain ⟨N, hN⟩ : ∃ N, N = n.natAbs / g := ⟨_, rfl⟩
    obtain ⟨D, hD⟩ : ∃ D, D = d.natAbs / g := ⟨_, rfl⟩
    rw [← hN] at hq1 hnw
    rw [← hD] at hq2 hnw
    have hgz : ((g : Int) == 0) = false := by simp; omega
    have hgn : (g : Int) ≠ 0 := by omega
    have hgm : ¬ g = 0 := by omega
    have HG := hid hg; have HB0 := hid hB0; have HNW := hid hnw; have HG0 := hid hg0
    clear hg hB0 hnw hg0 hN hD
    go_wp2_with fail
    go_quiet (first | (go_at_call_of 26 (Value.int .i64 n); exact Calls.quiet_of_same ((size_any n HN.out _).mono fun e w' h => ⟨h.1, h.2.symm⟩)) | (go_at_call_of 26 (Value.int .i64 d); exact Calls.quiet_of_same ((size_any d HD.out _).mono fun e w' h => ⟨h.1, h.2.symm⟩)))
    clear hgz hgn hgm h0
    have HC0 := hid c0; have HC1 := hid c1
    by_cases hl : 1073741824 < N ∨ 1073741824 < D
    · have hv : nw n d = (0, 0, 2) := by rw [HNW.out, if_pos hl]
      have HV := hid hv; clear hv
      rcases Nat.lt_or_ge 1073741824 N with h1 | h1
      · clear hl
        go_wp2
        exact fin2 (p := 0) (q := 0) (e := 2) HV.out HB0.out HC0.out HC1.out
      · have h2 : 1073741824 < D := by omega
        clear hl
        go_wp2
        exact fin2 (p := 0) (q := 0) (e := 2) HV.out HB0.out HC0.out HC1.out
    · have h1 : N ≤ 1073741824 := by omega
      have h2 : D ≤ 1073741824 := by omega
      by_cases hs : decide (n < 0) = decide (d < 0)
      · have hv : nw n d = ((N : Int), (D : Int), 0) := by rw [HNW.out, if_neg hl, if_pos hs]
        have HV := hid hv; clear hv hl
        go_wp2
        exact fin2 HV.out HB0.out HC0.out HC1.out
      · have hv : nw n d = (-(N : Int), (D : Int), 0) := by rw [HNW.out, if_neg hl, if_neg hs]
        have HV := hid hv; clear hv hl
        have hs2 : (decide (n < 0) = true ∧ decide (d < 0) = false) ∨ (decide (n < 0) = false ∧ decide (d < 0) = true) := by
          cases h3 : decide (n < 0) <;> cases h4 : decide (d < 0) <;> simp_all
        clear hs
        rcases hs2 with ⟨h3, h4⟩ | ⟨h3, h4⟩
        · go_wp2
          exact fin2 HV.out HB0.out HC0.out HC1.out
        · go_wp2
          exact fin2 HV.out HB0.out HC0.out HC1.out
end Go.Proofs.Ythmakdlmadgpcaa

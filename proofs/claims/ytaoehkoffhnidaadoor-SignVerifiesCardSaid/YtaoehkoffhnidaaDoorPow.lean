/- The iterator binary and the function power: a range over a function. -/
import Derived.RangeFuncNested
import Derived.RangeFuncBound
import Derived.RangeFuncCalls
import Derived.RangeFuncLeaves
import Derived.Shelf.Abstract
import Derived.Shelf.RegionOpen
import Derived.WalkKit
import Derived.OwnWalkIn
import Derived.TacticsInMore
import Derived.LoopNIn
import Derived.LoopIn
import Derived.Test.YtaoehkoffhnidaaDoorDiv
import Derived.Test.YtaoehkoffhnidaaDoorBits
namespace Go.Proofs.YtaoehkoffhnidaaDoor
open Go.RowKit Go.Shelf
set_option linter.unusedVariables false
set_option linter.unusedSimpArgs false
attribute [local go_sem] Oper.semAt_some

/-- what the cell holds stays -/
def KpB (B : Nat) (W W' : World) : Prop := ∀ v, W.cell? ⟨B, 0, none⟩ = some v → W'.cell? ⟨B, 0, none⟩ = some v
theorem kpB_t {n : Nat} {A B C : World} (h : KpB n A B) (k : KpB n B C) : KpB n A C := fun v e => k v (h v e)
theorem kpB_b {n : Nat} {w : World} (W : World) (l : Nat) (o o' : Obj) (_ : w.heap.size ≤ l) (h : W.heap[l]? = some o) (ho : o.isCells = false) (_ : o.isWalk = false) : KpB n W (W.putObj l o') :=
  fun v e => cell_kept e (grownBy_putObj' _ l o') (fun r e => by cases e; exact ⟨_, h, ho⟩)
theorem keepsOthers_drewN (W : World) (n : Nat) : KeepsOthers W (W.drewN n) := ⟨Nat.le_refl _, fun _ _ h _ => h⟩
theorem product_r (a b r : Nat) (h : Hid (a * b % 4611686018427377339 = r)) (ha : a < 4611686018427377339) (hb : b < 4611686018427377339) (w : World) :
    Calls Tryd.prog 59 #[.int .i64 (a : Int), .int .i64 (b : Int), .int .i64 4611686018427377339] w fun e w' => e = .returned (.int .i64 (r : Int)) ∧ ∃ n, w' = w.drewN n :=
  (product_any a b 4611686018427377339 dvP (by omega) (by omega) w).mono fun e w' ⟨h1, h2⟩ => ⟨by rw [h1, h.out], h2⟩
theorem and1 (x : Nat) (h : x < 9223372036854775808) : (bits BinOp.and IntKind.i64 (x : Int) 1 == 1) = (x % 2 == 1) := by
  have : bits BinOp.and IntKind.i64 (x : Int) 1 = ((x % 2 : Nat) : Int) := by
    show IntKind.i64.wrap ((BitVec.ofInt 64 (x : Int) &&& BitVec.ofInt 64 ((1 : Nat) : Int)).toNat : Int) = _
    rw [BitVec.toNat_and, ofInt_u64 x (by omega), ofInt_u64 1 (by omega), Nat.and_one_is_mod, IntKind.wrap_i64]
    omega
  rw [this]
  rcases Nat.mod_two_eq_zero_or_one x with e | e <;> rw [e] <;> rfl
set_option maxRecDepth 100000 in
set_option maxHeartbeats 2000000 in
theorem bin_in (n : Nat) (hn : 1 ≤ n) (l Bn k : Nat) (hk : k < 9223372036854775808) (J Jx : List Bool → World → Prop)
    (hY : ∀ pre x W, J pre W → pre.length < Lib.bitLen k → YieldAt Fence.wide (n - 1) Tryd.prog l #[.bool x] W fun e W' =>
      (e = .returned (.bool true) ∧ J (pre ++ [x]) W' ∧ KpB Bn W W') ∨ (e = .returned (.bool false) ∧ Jx (pre ++ [x]) W'))
    (W : World) (hBn : W.cell? ⟨Bn, 0, none⟩ = some (.int .i64 (k : Int))) (h0 : J [] W) :
    CallsIn Fence.wide n Tryd.prog 97 #[.func (.yield l) #[] #[], .pointer (some ⟨Bn, 0, none⟩)] W fun e W' => (∃ v, e = .returned v) ∧
      ((∃ ys, ys = bl k (Lib.bitLen k) ∧ J ys W') ∨ (∃ pre, pre <+: bl k (Lib.bitLen k) ∧ Jx pre W')) := by
  have hL := bitLen_le k
  refine callsIn_of_wp Tryd.func97 rfl trivial ?_ rfl
  simp only [Tryd.ntmps97, List.size_toArray, List.length_cons, List.length_nil, Nat.reduceAdd, Nat.reduceSub, Array.replicate_succ, Array.replicate_zero, List.push_toArray, List.append_toArray, List.nil_append, List.cons_append]
  gi_wp2_with (refine ⟨trivial, ?_⟩; gi_at_call 94; refine (callsIn_wide.2 (Tryd.bits_Len (k : Int) _ (by omega) (by omega))).mono ?_; rintro e w' ⟨rfl, rfl⟩)
  gi_loopw [3] (fun s wr => ∃ (pre : List Bool) (m : Nat), s = .int .i64 ((m : Int) - 1) ∧ m ≤ Lib.bitLen k ∧ pre.length + m = Lib.bitLen k ∧ pre ++ bl k m = bl k (Lib.bitLen k) ∧ wr.cell? ⟨Bn, 0, none⟩ = some (.int .i64 (k : Int)) ∧ J pre wr) (fun s wr => (RowKit.intOf s + 1).toNat)
  case atStart => exact ⟨[], Lib.bitLen k, rfl, Nat.le_refl _, by simp, rfl, hBn, h0⟩
  case round =>
    obtain ⟨pre, m, rfl, hm, hlen, hx, hc, hJ⟩ := hrel
    cases m with
    | zero =>
      gi_wp2
      go_end0
      exact ⟨⟨_, rfl⟩, .inl ⟨pre, by simpa [bl] using hx, hJ⟩⟩
    | succ m =>
      have em : (((m + 1 : Nat) : Int) - 1) = (m : Int) := by omega
      rw [em]
      clear em
      have hm6 : m ≤ 63 := by omega
      have hb := and1 (k / 2 ^ m) (Nat.lt_of_le_of_lt (Nat.div_le_self _ _) hk)
      rw [show ((k / 2 ^ m : Nat) : Int) = (k : Int) / 2 ^ m by simp] at hb
      have HB := Lib.hid hb; clear hb
      have HX := Lib.hid hx; clear hx
      have HL := Lib.hid hlen; clear hlen
      obtain ⟨fn, tmps, assign, body, hy, hR⟩ := hY pre (bits BinOp.and IntKind.i64 ((k : Int) / 2 ^ m) 1 == 1) wr hJ (by have := HL.out; omega)
      gi_wp2
      refine hR.mono ?_
      have hn1 : pre ++ [bits BinOp.and IntKind.i64 ((k : Int) / 2 ^ m) 1 == 1] ++ bl k m = bl k (Lib.bitLen k) := by
        rw [HB.out, List.append_assoc]; exact HX.out
      have HN := Lib.hid hn1; clear hn1
      rintro e W3 (⟨rfl, hJ3, hk3⟩ | ⟨rfl, hJx3⟩)
      · have hc3 := hk3 _ hc
        gi_wp2
        go_roundw
        case rel => exact ⟨_, m, rfl, by omega, by have := HL.out; simp; omega, HN.out, hc3, hJ3⟩
        case measure => simp [RowKit.intOf]
      · gi_wp2
        refine bodyPost_ret (results_none rfl _ _ _) rfl ?_
        exact ⟨⟨_, rfl⟩, .inr ⟨_, ⟨_, HN.out⟩, hJx3⟩⟩

theorem bin_stops (n : Nat) (hn : 1 ≤ n) (Bn k : Nat) (hk : k < 9223372036854775808) (w : World) (hB : Bn < w.heap.size) (hc : w.cell? ⟨Bn, 0, none⟩ = some (.int .i64 (k : Int))) :
    SeqStopsK Fence.wide n Tryd.prog 97 #[.pointer (some ⟨Bn, 0, none⟩)] (fun x : Bool => #[Value.bool x]) (KpB Bn) (fun ys => ys = bl k (Lib.bitLen k)) (fun pre => pre <+: bl k (Lib.bitLen k)) (Lib.bitLen k) w := fun l J Jx W hW _ _ hY h0 =>
  bin_in n hn l Bn k hk J Jx hY W ((hW.cell (p := ⟨Bn, 0, none⟩) hB).trans hc) h0

theorem binary_in (n k : Nat) (w : World) :
    CallsIn Fence.wide n Tryd.prog 86 #[.int .i64 (k : Int)] w fun e w' => e = .returned (.func (.func 97) #[] #[.pointer (some ⟨w.heap.size, 0, none⟩)]) ∧ w' = w.alloc (.cells #[.int .i64 (k : Int)] 3) := by
  refine callsIn_of_wp Tryd.func86 rfl trivial ?_ rfl
  simp only [Tryd.ntmps86, List.size_toArray, List.length_cons, List.length_nil, Nat.reduceAdd, Nat.reduceSub, Array.replicate_succ, Array.replicate_zero, List.push_toArray, List.append_toArray, List.nil_append, List.cons_append]
  gi_wp2
  go_ret
  exact ⟨rfl, rfl⟩
theorem cell_of_box_l {W : World} {B : Nat} {v : Value} {t : TypeId} (h : W.heap[B]? = some (.cells #[v] t (0, 0))) : W.cell? ⟨B, 0, none⟩ = some v ∧ W.frozen? ⟨B, 0, none⟩ = false := by
  constructor <;> simp [World.cell?, World.frozen?, h]
theorem cell_new_l (W : World) (v : Value) (t : TypeId) : (W.alloc (.cells #[v] t)).cell? ⟨W.heap.size, 0, none⟩ = some v ∧ (W.alloc (.cells #[v] t)).frozen? ⟨W.heap.size, 0, none⟩ = false :=
  cell_of_box_l (World.alloc_heap_new W _)
theorem cell_alloc_l {W : World} {a : Addr} {v : Value} (o : Obj) (h : W.cell? a = some v) : (W.alloc o).cell? a = some v := cell_kept h (World.grownBy_alloc W o none) (fun r e => by cases e)
theorem frozen_alloc_l {W : World} {a : Addr} {v : Value} (o : Obj) (h : W.cell? a = some v) (hf : W.frozen? a = false) : (W.alloc o).frozen? a = false := (frozen_kept h (World.grownBy_alloc W o none) (fun r e => by cases e)).trans hf

set_option maxRecDepth 100000 in
set_option maxHeartbeats 4000000 in
theorem power_any (a k : Nat) (ha : a < 4611686018427377339) (hk : k < 9223372036854775808) (w : World) :
    Calls Tryd.prog 57 #[.int .i64 (a : Int), .int .i64 (k : Int)] w fun e w' => e = .returned (.int .i64 (mp 4611686018427377339 a k : Int)) ∧ Below w.heap.size w w' := by
  refine (callsIn_wide (n := 5)).1 ?_
  refine callsIn_of_wp_marks Tryd.func57 rfl trivial ?_ rfl
  simp only [Tryd.ntmps57, List.size_toArray, List.length_cons, List.length_nil, Nat.reduceAdd, Nat.reduceSub, Array.replicate_succ, Array.replicate_zero, List.push_toArray, List.append_toArray, List.nil_append, List.cons_append]
  gi_wp2_with (refine ⟨trivial, ?_⟩; gi_at_call 86; refine (binary_in _ k _).mono ?_; rintro e w' ⟨rfl, rfl⟩)
  have c0 := cell_new_l w (.int .i64 (a : Int)) 3
  have c1 := cell_new_l (w.alloc (.cells #[.int .i64 (a : Int)] 3)) (.int .i64 1) 3
  have c2 := cell_new_l ((w.alloc (.cells #[.int .i64 (a : Int)] 3)).alloc (.cells #[.int .i64 1] 3)) (.int .i64 (k : Int)) 3
  simp only [World.size_alloc] at c1 c2
  have hB0 : Below w.heap.size w (((w.alloc (.cells #[.int .i64 (a : Int)] 3)).alloc (.cells #[.int .i64 1] 3)).alloc (.cells #[.int .i64 (k : Int)] 3)) := (((Below.refl _ w).alloc (Nat.le_refl _) _).alloc (by simp) _).alloc (by simp; omega) _
  refine wpIn_rangeFunc_ownF rfl (by omega) (gf := 97) (lb := #[.pointer (some ⟨w.heap.size + 1 + 1, 0, none⟩)]) rfl trivial (enters_of Tryd.func97 (by kernel_rfl) rfl)
    (bin_stops _ (by omega) (w.heap.size + 1 + 1) k hk _ (by simp) c2.1) kpB_t kpB_b (Below.refl _ _) (fun _ => rfl)
    (fun pre W => (W.cell? ⟨w.heap.size, 0, none⟩ = some (.int .i64 (a : Int)) ∧ W.cell? ⟨w.heap.size + 1, 0, none⟩ = some (.int .i64 (cf a pre : Int)) ∧ W.frozen? ⟨w.heap.size + 1, 0, none⟩ = false) ∧ Below w.heap.size w W)
    (fun _ _ _ => False)
    (OwnFrom.and (Own.from (fun s A B row hs hg hr => ⟨cell_kept hs.1 hg hr, cell_kept hs.2.1 hg hr, (frozen_kept hs.2.1 hg hr).trans hs.2.2⟩) _) (ownFrom_below (Nat.le_refl _) (by simp; omega)))
    (fun _ _ _ _ _ hs _ _ => hs)
    ⟨⟨cell_alloc_l _ (cell_alloc_l _ c0.1), cell_alloc_l _ c1.1, frozen_alloc_l _ c1.1 c1.2⟩, hB0⟩
    (fun x => { tmps := #[.int .i64 (a : Int), .int .i64 (k : Int), .pointer (some ⟨w.heap.size, 0, none⟩), undef, .int .i64 0, .pointer (some ⟨w.heap.size + 1, 0, none⟩), .bool x, .int .i64 (k : Int), .func (.func 97) #[] #[.pointer (some ⟨w.heap.size + 1 + 1, 0, none⟩)], .bool x, undef, undef, undef, undef, undef, undef, undef, undef], defers := [] }) ?assign ?body ?done ?stop
  case assign =>
    intro l x W K hK
    gi_wp2
    exact hK
  case body =>
    rintro l pre x W ⟨⟨ca, cc, cz⟩, hB⟩ _
    have hlt := cf_lt a pre
    obtain ⟨c, hc⟩ : ∃ c, c = cf a pre := ⟨_, rfl⟩
    rw [← hc] at cc hlt
    have HC := Lib.hid hc; clear hc
    have hs : c * c % 4611686018427377339 < 4611686018427377339 := Nat.mod_lt _ (by decide)
    obtain ⟨s, hs0⟩ : ∃ s, c * c % 4611686018427377339 = s := ⟨_, rfl⟩
    have ht : s * a % 4611686018427377339 < 4611686018427377339 := Nat.mod_lt _ (by decide)
    obtain ⟨t, ht0⟩ : ∃ t, s * a % 4611686018427377339 = t := ⟨_, rfl⟩
    rw [hs0] at hs; rw [ht0] at ht
    have HS := Lib.hid hs0; have HT := Lib.hid ht0; clear hs0 ht0
    have hne : (⟨w.heap.size + 1, 0, none⟩ : Addr) ≠ ⟨w.heap.size, 0, none⟩ := by simp
    have hne2 : (⟨w.heap.size + 1, 0, none⟩ : Addr) ≠ ⟨w.heap.size + 1 + 1, 0, none⟩ := by simp
    cases x with
    | false =>
      have hf : cf a (pre ++ [false]) = s := by rw [cf_snoc, ← HC.out, ← HS.out]; rfl
      have HF := Lib.hid hf; clear hf
      gi_wp2_with (refine ⟨trivial, ?_⟩; gi_at_call 59; (with_reducible refine (CallsIn.inRound l (callsIn_wide.2 (product_r c c s HS hlt hlt _))).mono ?_); rintro e w' ⟨rfl, n, rfl⟩)
      refine ⟨(keepsOthers_drewN _ _).trans (KeepsOthers.setCell _ _ _), ?_, ⟨?_, ?_, ?_⟩, (below_drewN hB n).setCell (p := ⟨w.heap.size + 1, 0, none⟩) (by simp) _⟩
      · intro v e
        rw [World.cell?_setCell_other (h := hne2)]; exact e
      · rw [World.cell?_setCell_other (h := hne)]; exact ca
      · rw [HF.out]
        exact World.cell?_setCell_same' _ _ _ (by simp [cc])
      · simpa using cz
    | true =>
      have hf : cf a (pre ++ [true]) = t := by rw [cf_snoc, ← HC.out, ← HT.out, ← HS.out]; rfl
      have HF := Lib.hid hf; clear hf
      gi_wp2_with (refine ⟨trivial, ?_⟩; gi_at_call 59; (with_reducible refine (CallsIn.inRound l (callsIn_wide.2 (product_r c c s HS hlt hlt _))).mono ?_); rintro e w' ⟨rfl, n, rfl⟩)
      refine ⟨trivial, ?_⟩
      gi_at_call 59
      refine (CallsIn.inRound l (callsIn_wide.2 (product_r s a t HT (by omega) (by omega) _))).mono ?_
      rintro e w' ⟨rfl, m, rfl⟩
      gi_wp2
      refine ⟨((keepsOthers_drewN _ _).trans (KeepsOthers.setCell _ _ _)).trans ((keepsOthers_drewN _ _).trans (KeepsOthers.setCell _ _ _)), ?_, ⟨?_, ?_, ?_⟩, (below_drewN ((below_drewN hB n).setCell (p := ⟨w.heap.size + 1, 0, none⟩) (by simp) _) m).setCell (p := ⟨w.heap.size + 1, 0, none⟩) (by simp) _⟩
      · intro v e
        rw [World.cell?_setCell_other (h := hne2)]
        show (World.setCell _ _ _).cell? _ = _
        rw [World.cell?_setCell_other (h := hne2)]; exact e
      · rw [World.cell?_setCell_other (h := hne)]
        show (World.setCell _ _ _).cell? _ = _
        rw [World.cell?_setCell_other (h := hne)]; exact ca
      · rw [HF.out]
        refine World.cell?_setCell_same' _ _ _ ?_
        show ((World.setCell _ _ _).cell? _).isSome = true
        rw [World.cell?_setCell_same' _ _ _ (by simp [cc])]; rfl
      · simpa using cz
  case done =>
    rintro D ys W hD rfl ⟨⟨_, cc, _⟩, hB⟩ hK
    rw [cf_bl a k (by omega)] at cc
    gi_wp2
    refine ⟨by simp, .inl ⟨_, _, rfl, run_takeDeferred hK, ?_⟩⟩
    exact ⟨_, results_tmp rfl _ _ _, rfl, hB.trans (belowK_b (w := w) (Nat.le_refl _) W D _ _ (by simp at hD; omega) hK rfl rfl)⟩
  case stop =>
    rintro D c pre W hD _ h _
    exact h.elim
end Go.Proofs.YtaoehkoffhnidaaDoor

/- Contracts: of and its iterator. -/
import Derived.Test.YtbejjindkcjecaaE
import Derived.Laws.StructEq
import Derived.RangeFuncNested
import Derived.RangeFuncBound
import Derived.RangeFuncCalls
import Derived.RangeFuncLeaves
import Derived.RangeFuncFrom
import Derived.Shelf.RegionOpen
import Derived.Shelf.AbstractIn
namespace Go.Proofs.Ytbejjindkcjecaa
open Go.RowKit Go Go.Shelf
set_option linter.unusedVariables false
set_option linter.unusedSimpArgs false
attribute [local go_sem] Oper.semAt_some
theorem key_eq (a b : KE) (w : World) : (Op.equalIn 10000 24 (KV a) (KV b)).run Try.prog w = .ok (decide (a = b)) w := by
  have u3 := Try.underlying3
  have a3 := Try.isAgg3
  have z3 := Try.sizeOf3
  have hS : Try.prog.underlying 24 = some (.struct (Try.prog.fieldsOf 24)) := by kernel_rfl
  have hp : Try.prog.stoodInHeld 24 = false := by kernel_rfl
  rw [show (10000 : Nat) = 9999 + 1 from rfl, run_equalIn_agg w 9999 24 _ _ hS hp]
  simp only [Program.fieldsOf, Try.underlying24]
  go_simp
  obtain ⟨a1, a2, a3⟩ := a
  obtain ⟨b1, b2, b3⟩ := b
  by_cases h1 : a1 = b1 <;> by_cases h2 : a2 = b2 <;> by_cases h3 : a3 = b3 <;> simp [h1, h2, h3]
/-- the facts of a key that are known at a time -/
def sel (k : KE) (q : Int) (l : List FA) : List FA := l.filter fun f => decide (f.key = k ∧ f.known ≤ q)
theorem sel_snoc (k : KE) (q : Int) (l : List FA) (f : FA) : sel k q (l ++ [f]) = sel k q l ++ (if f.key = k ∧ f.known ≤ q then [f] else []) := by
  unfold sel; rw [List.filter_append, List.filter_cons, List.filter_nil]; by_cases h : f.key = k ∧ f.known ≤ q <;> simp [h]
theorem of_in (n : Nat) (v : Value) (k : KE) (q : Int) (w : World) (h1 : ∃ p l c, v = .slice p l c) :
    CallsIn Fence.wide n Try.prog 36 #[v, KV k, .int .i64 q] w fun e w' => e = .returned (.func (.func 52) #[] #[.pointer (some ⟨w.heap.size, 0, none⟩), .pointer (some ⟨w.heap.size + 1, 0, none⟩), .pointer (some ⟨w.heap.size + 2, 0, none⟩)]) ∧ w' = ((w.alloc (.cells #[v] 22)).alloc (.cells #[.int .i64 k.1, .int .i64 k.2.1, .int .i64 k.2.2] 24)).alloc (.cells #[.int .i64 q] 3) := by
  obtain ⟨p1, l1, c1, rfl⟩ := h1
  have hmf : ∀ (fn : Fn) (first cap : Array Value) (w : World), (Instr.makeFunc fn first cap).run Try.prog w = .ok (.func fn first cap) w := fun _ _ _ _ => rfl
  refine callsIn_of_wp Try.func36 rfl trivial ?_ rfl
  simp only [Try.ntmps36, List.size_toArray, List.length_cons, List.length_nil, Nat.reduceAdd, Nat.reduceSub, Array.replicate_succ, Array.replicate_zero, List.push_toArray, List.append_toArray, List.nil_append, List.cons_append]
  gi_wp2
  go_ret
  exact ⟨rfl, rfl⟩
theorem cell_kept_l {W : World} {a : Addr} {v : Value} {D : Nat} {o : Obj} (h : W.cell? a = some v) (hK : W.heap[D]? = some o) (ho : o.isCells = false) (o' : Obj) : (W.putObj D o').cell? a = some v :=
  cell_kept h (grownBy_putObj' _ D o') (fun r e => by cases e; exact ⟨_, hK, ho⟩)
/-- what the cells of the blocks in S hold stays -/
def KpN (S : Nat → Prop) (W W' : World) : Prop := (∀ a v, S a.block → W.cell? a = some v → W'.cell? a = some v) ∧ W.heap.size ≤ W'.heap.size
theorem kpN_t {S : Nat → Prop} {A B C : World} (h : KpN S A B) (k : KpN S B C) : KpN S A C := ⟨fun a v ha e => k.1 a v ha (h.1 a v ha e), Nat.le_trans h.2 k.2⟩
theorem kpN_b {S : Nat → Prop} {w : World} (W : World) (l : Nat) (o o' : Obj) (_ : w.heap.size ≤ l) (h : W.heap[l]? = some o) (ho : o.isCells = false) (_ : o.isWalk = false) : KpN S W (W.putObj l o') :=
  ⟨fun a v _ e => cell_kept e (grownBy_putObj' _ l o') (fun r e => by cases e; exact ⟨_, h, ho⟩), (grownBy_putObj' _ l o').size⟩
/-- the cells of the key and the time -/
def Kq (B2 B3 : Nat) (k : KE) (q : Int) (W : World) : Prop := W.cell? ⟨B2, 0, none⟩ = some (.int .i64 k.1) ∧ W.cell? ⟨B2, 1, none⟩ = some (.int .i64 k.2.1) ∧ W.cell? ⟨B2, 2, none⟩ = some (.int .i64 k.2.2) ∧ W.cell? ⟨B3, 0, none⟩ = some (.int .i64 q)
theorem Kq.alloc {B2 B3 : Nat} {k : KE} {q : Int} {W : World} (h : Kq B2 B3 k q W) (o : Obj) : Kq B2 B3 k q (W.alloc o) := ⟨cell_alloc_l _ h.1, cell_alloc_l _ h.2.1, cell_alloc_l _ h.2.2.1, cell_alloc_l _ h.2.2.2⟩
theorem Kq.kp {B2 B3 : Nat} {S : Nat → Prop} {k : KE} {q : Int} {W W' : World} (h : Kq B2 B3 k q W) (hk : KpN S W W') (h2 : S B2) (h3 : S B3) : Kq B2 B3 k q W' := ⟨hk.1 _ _ h2 h.1, hk.1 _ _ h2 h.2.1, hk.1 _ _ h2 h.2.2.1, hk.1 _ _ h3 h.2.2.2⟩
theorem GR.kp {α : Type} {enc : α → List Value} {k : Nat} {p : Option Addr} {n0 : Nat} {l : List α} {W W' : World} {S : Nat → Prop} (h : GR enc k p n0 l W) (hk : KpN S W W') (hS : ∀ j, j < n0 → S j) : GR enc k p n0 l W' := fun i x hi => by
  obtain ⟨b, o, e, hl, h1⟩ := h i x hi
  exact ⟨b, o, e, hl, fun c v hc => hk.1 _ _ (hS _ hl) (h1 c v hc)⟩
set_option maxRecDepth 100000 in
set_option maxHeartbeats 4000000 in
/-- the iterator over the facts of a key, known at a time: B1, B2, B3 hold the list, the key, the time; n0: all of them and the list's cells lie below -/
theorem of1_in (n : Nat) (hn : 1 ≤ n) (l B1 B2 B3 n0 n1 : Nat) (S : Nat → Prop) (hS : ∀ j, j < n0 → S j) (h01 : n0 ≤ n1) (p : Option Addr) (c m : Nat) (L : List FA) (hL : m = L.length) (hm : m ≤ 9223372036854775807) (k : KE) (q : Int) (hB1 : B1 < n1) (hB2 : B2 < n1) (hB3 : B3 < n1) (hS2 : S B2) (hS3 : S B3) (J Jx : List FA → World → Prop)
    (hJa : ∀ pre W o, J pre W → J pre (W.alloc o)) (hJd : ∀ pre W, J pre W → J pre W.drew)
    (hY : ∀ pre x W, J pre W → pre.length < m → YieldAt Fence.wide (n - 1) Try.prog l #[FV x] W fun e W' =>
      (e = .returned (.bool true) ∧ J (pre ++ [x]) W' ∧ KpN S W W') ∨ (e = .returned (.bool false) ∧ Jx (pre ++ [x]) W'))
    (W : World) (c1 : W.cell? ⟨B1, 0, none⟩ = some (.slice p m c)) (c2 : W.cell? ⟨B2, 0, none⟩ = some (.int .i64 k.1)) (c3 : W.cell? ⟨B2, 1, none⟩ = some (.int .i64 k.2.1)) (c4 : W.cell? ⟨B2, 2, none⟩ = some (.int .i64 k.2.2)) (c5 : W.cell? ⟨B3, 0, none⟩ = some (.int .i64 q)) (hR : FR p n0 L W) (h0 : J [] W) (hsz : n1 ≤ W.heap.size) :
    CallsIn Fence.wide n Try.prog 52 #[.func (.yield l) #[] #[], .pointer (some ⟨B1, 0, none⟩), .pointer (some ⟨B2, 0, none⟩), .pointer (some ⟨B3, 0, none⟩)] W fun e W' => (∃ v, e = .returned v) ∧
      (J (sel k q L) W' ∨ (∃ pre, pre <+: sel k q L ∧ Jx pre W')) := by
  refine callsIn_of_wp Try.func52 rfl trivial ?_ rfl
  simp only [Try.ntmps52, List.size_toArray, List.length_cons, List.length_nil, Nat.reduceAdd, Nat.reduceSub, Array.replicate_succ, Array.replicate_zero, List.push_toArray, List.append_toArray, List.nil_append, List.cons_append]
  have HL := hid hL
  clear hL
  gi_wp2
  gi_loopw [9] (fun s wr => ∃ i : Nat, i ≤ m ∧ s = .int .i64 i ∧ J (sel k q (L.take i)) wr ∧ Hid (Kq B2 B3 k q wr) ∧ Hid (FR p n0 L wr) ∧ n1 ≤ wr.heap.size) (fun s _ => m - (RowKit.intOf s).toNat)
  case atStart => exact ⟨0, by omega, rfl, by simpa [sel] using h0, hid ⟨c2, c3, c4, c5⟩, hid hR, hsz⟩
  case round =>
    clear c1 c2 c3 c4 c5 hR h0 hsz
    obtain ⟨i, hi, rfl, hJ, hc, hR, hsz⟩ := hrel
    by_cases hlt : i < m
    · obtain ⟨f, hf⟩ := get_lt (l := L) (i := i) (by rw [← HL.out]; exact hlt)
      obtain ⟨b, o, rfl, hab, hA⟩ := (hR.out).at8 hf
      obtain ⟨x0, x1, x2, x3, x4, x5, x6, x7⟩ := hA
      obtain ⟨y1, y2, y3, y4⟩ := hc.out
      have hts := take_snoc hf
      have hsel := sel_snoc k q (L.take i) f
      rw [← hts] at hsel
      have hlen : (sel k q (L.take i)).length < m := by
        have h1 : (sel k q (L.take i)).length ≤ (L.take i).length := List.length_filter_le _ _
        have h2 : (L.take i).length ≤ i := by rw [List.length_take]; omega
        omega
      have hpre : sel k q (L.take (i + 1)) <+: sel k q L := (List.take_prefix (i + 1) L).filter _
      have HPRE := hid hpre
      have hg24 : Try.prog.eqGuardType Try.prog.depth 24 = false := by kernel_rfl
      have hfj : J (sel k q (L.take i)) (wr.alloc (.cells #[.int .i64 f.kind, .int .i64 f.subj, .int .i64 f.obj, .int .i64 f.val, .int .i64 f.frm, .int .i64 f.to, .int .i64 f.known, .int .i64 f.no] 28)) := hJa _ _ _ hJ
      have al := (Below.refl n0 wr).alloc (Nat.le_trans h01 hsz) (.cells #[.int .i64 f.kind, .int .i64 f.subj, .int .i64 f.obj, .int .i64 f.val, .int .i64 f.frm, .int .i64 f.to, .int .i64 f.known, .int .i64 f.no] 28)
      have hR2 := hid (hR.out.up al)
      have hc2 := hid (hc.out.alloc (.cells #[.int .i64 f.kind, .int .i64 f.subj, .int .i64 f.obj, .int .i64 f.val, .int .i64 f.frm, .int .i64 f.to, .int .i64 f.known, .int .i64 f.no] 28))
      have hsz2 : n1 ≤ wr.heap.size + 1 := by omega
      have hb2lt : B2 < wr.heap.size := by omega
      have hb3lt : B3 < wr.heap.size := by omega
      have hke := fun w => key_eq f.key k w
      cases hd : decide (f.key = k) with
      | true =>
        have hkey : f.key = k := of_decide_eq_true hd
        rw [hd] at hke
        have heq : ∀ w, (Op.equalIn 10000 24 (.agg #[.int .i64 f.kind, .int .i64 f.subj, .int .i64 f.obj]) (.agg #[.int .i64 k.1, .int .i64 k.2.1, .int .i64 k.2.2])).run Try.prog w = .ok true w := hke
        by_cases hq : f.known ≤ q
        · rw [if_pos ⟨hkey, hq⟩] at hsel
          obtain ⟨fn, tmps, assign, body, hy0, hRR⟩ := hY (sel k q (L.take i)) f _ hfj hlen
          have HSEL := hid hsel; have HRR := hid hRR; have HF := hid hf; have HK := hid hkey
          clear hsel hRR hf hkey hJa hJd hY hts hfj hJ hpre hR hc al hd hke
          gi_wp2
          refine HRR.out.mono ?_
          rintro e W3 (⟨rfl, hJ3, hk3⟩ | ⟨rfl, hJx3⟩)
          · rw [← HSEL.out] at hJ3
            have hs3 := hk3.2
            simp only [World.size_alloc] at hs3
            have hR3 := hid (hR2.out.kp hk3 hS)
            have hc3 := hid (hc2.out.kp hk3 hS2 hS3)
            have HJ3 := hid hJ3
            clear hJ3
            gi_wp2
            go_roundw
            case rel => exact ⟨i + 1, by omega, by go_num, HJ3.out, hc3, hR3, by omega⟩
            case measure => simp [RowKit.intOf]; omega
          · rw [← HSEL.out] at hJx3
            have HJX := hid hJx3
            clear hJx3
            gi_wp2
            refine bodyPost_ret (results_none rfl _ _ _) rfl ?_
            exact ⟨⟨_, rfl⟩, .inr ⟨_, HPRE.out, HJX.out⟩⟩
        · rw [if_neg (fun h => hq h.2), List.append_nil] at hsel
          rw [← hsel] at hfj
          have HFJ := hid hfj
          have hq2 : decide (f.known ≤ q) = false := decide_eq_false hq
          clear hq
          clear hsel hf hkey hJa hJd hY hts hfj hJ hpre hR hc al hd hke HPRE
          gi_wp2
          refine ⟨(fun _ h => by cases h), ?_⟩
          gi_wp2
          go_roundw
          case rel => exact ⟨i + 1, by omega, by go_num, HFJ.out, hc2, hR2, by simp; omega⟩
          case measure => simp [RowKit.intOf]; omega
      | false =>
        have hkey : ¬ f.key = k := of_decide_eq_false hd
        rw [hd] at hke
        have heq : ∀ w, (Op.equalIn 10000 24 (.agg #[.int .i64 f.kind, .int .i64 f.subj, .int .i64 f.obj]) (.agg #[.int .i64 k.1, .int .i64 k.2.1, .int .i64 k.2.2])).run Try.prog w = .ok false w := hke
        rw [if_neg (fun h => hkey h.1), List.append_nil] at hsel
        rw [← hsel] at hfj
        have HFJ := hid hfj
        clear hsel hf hkey hJa hJd hY hts hfj hJ hpre hR hc al hd hke HPRE
        gi_wp2
        refine ⟨(fun _ h => by cases h), ?_⟩
        gi_wp2
        go_roundw
        case rel => exact ⟨i + 1, by omega, by go_num, HFJ.out, hc2, hR2, by simp; omega⟩
        case measure => simp [RowKit.intOf]; omega
    · have hd : sel k q (L.take i) = sel k q L := by rw [show i = L.length by have := HL.out; omega, List.take_length]
      rw [hd] at hJ
      have HJ := hid hJ
      clear hd hJ hJa hJd hY
      gi_wp2
      go_end0
      exact ⟨⟨_, rfl⟩, .inl HJ.out⟩
end Go.Proofs.Ytbejjindkcjecaa

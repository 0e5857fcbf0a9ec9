/- Contracts: slices.Chunk and its iterator, between. -/
import Derived.Test.YtnbhihjhpomenaaC
import Derived.Deep.AppendLies
import Derived.RangeFuncFrom
namespace Go.Proofs.Ytnbhihjhpomenaa
open Go.RowKit Go Go.Shelf
set_option linter.unusedVariables false
set_option linter.unusedSimpArgs false
attribute [local go_sem] Oper.semAt_some
theorem size42 : ∀ w : World, (sizeOf (Try.prog.elem 42)).run Try.prog w = .ok 1 w := by
  have h : (Try.prog.info? 3).map (·.size) = some 1 := by kernel_rfl
  intro w
  cases hq : Try.prog.info? 3 with
  | none => simp [hq] at h
  | some ti =>
    have hs1 : ti.size = 1 := by simpa [hq] using h
    have he : Try.prog.elem 42 = 3 := by kernel_rfl
    rw [he]
    simp [sizeOf, typeInfo, hq, hs1]
theorem und42 : Try.prog.underlying 42 = some (.slice (Try.prog.elem 42)) := by kernel_rfl
/-- the rest from i on -/
theorem slice_rest (p : Option Addr) (i len cap : Nat) (hi : i < len) (hc : len ≤ cap) (hm : cap ≤ 9223372036854775807) :
    ∃ q, ∀ W : World, (Instr.slice 42 (.slice p len cap) (some (.int .i64 (i : Int))) none none).run Try.prog W = .ok (.slice q (len - i) (cap - i)) W := by
  refine ⟨if cap = i then p else p.map (·.add (i * 1)), fun W => ?_⟩
  rw [run_slice_l W 42 p len cap und42 .i64 (i : Int) (by omega) (by omega)]
  simp [size42, Result.andThen, sliced]
/-- two from i on -/
theorem slice_two (b o i len cap : Nat) (hi : i + 2 ≤ len) (hc : len ≤ cap) (hm : cap ≤ 9223372036854775807) :
    ∀ W : World, (Instr.slice 42 (.slice (some ⟨b, o, none⟩) len cap) (some (.int .i64 (i : Int))) (some (.int .i64 ((i : Int) + 2))) (some (.int .i64 ((i : Int) + 2)))).run Try.prog W = .ok (.slice (some ⟨b, o + i, none⟩) 2 2) W := by
  intro W
  rw [run_slice_lhm W 42 (some ⟨b, o, none⟩) len cap und42 .i64 .i64 .i64 (i : Int) ((i : Int) + 2) ((i : Int) + 2) (by omega) (by omega) (by omega) (by omega)]
  have e1 : ((i : Int) + 2).toNat = i + 2 := by omega
  have e2 : ¬ (i + 2 = i) := by omega
  simp [size42, Result.andThen, sliced, e1, e2, add_plain]
theorem chunk_in (n : Nat) (v : Value) (w : World) (h1 : ∃ p l c, v = .slice p l c) :
    CallsIn Fence.wide n Try.prog 40 #[v, .int .i64 2] w fun e w' => e = .returned (.func (.func 46) #[] #[.pointer (some ⟨w.heap.size, 0, none⟩), .pointer (some ⟨w.heap.size + 1, 0, none⟩)]) ∧ w' = (w.alloc (.cells #[v] 42)).alloc (.cells #[.int .i64 2] 3) := by
  obtain ⟨p1, l1, c1, rfl⟩ := h1
  have hmf : ∀ (fn : Fn) (first cap : Array Value) (w : World), (Instr.makeFunc fn first cap).run Try.prog w = .ok (.func fn first cap) w := fun _ _ _ _ => rfl
  refine callsIn_of_wp Try.func40 rfl trivial ?_ rfl
  simp only [Try.ntmps40, List.size_toArray, List.length_cons, List.length_nil, Nat.reduceAdd, Nat.reduceSub, Array.replicate_succ, Array.replicate_zero, List.push_toArray, List.append_toArray, List.nil_append, List.cons_append]
  gi_wp2
  go_ret
  exact ⟨rfl, rfl⟩
theorem cell_kept_l {W : World} {a : Addr} {v : Value} {D : Nat} {o : Obj} (h : W.cell? a = some v) (hK : W.heap[D]? = some o) (ho : o.isCells = false) (o' : Obj) : (W.putObj D o').cell? a = some v :=
  cell_kept h (grownBy_putObj' _ D o') (fun r e => by cases e; exact ⟨_, hK, ho⟩)
/-- what old cells and the cells of the blocks B and C hold stays -/
def KpD (n0 B C : Nat) (W W' : World) : Prop := (∀ a v, a.block < n0 → W.cell? a = some v → W'.cell? a = some v) ∧ (∀ v, W.cell? ⟨B, 0, none⟩ = some v → W'.cell? ⟨B, 0, none⟩ = some v) ∧ ∀ v, W.cell? ⟨C, 0, none⟩ = some v → W'.cell? ⟨C, 0, none⟩ = some v
theorem kpD_t {n0 n m : Nat} {A B C : World} (h : KpD n0 n m A B) (k : KpD n0 n m B C) : KpD n0 n m A C := ⟨fun a v ha e => k.1 a v ha (h.1 a v ha e), fun v e => k.2.1 v (h.2.1 v e), fun v e => k.2.2 v (h.2.2 v e)⟩
theorem kpD_b {n0 n m : Nat} {w : World} (W : World) (l : Nat) (o o' : Obj) (_ : w.heap.size ≤ l) (h : W.heap[l]? = some o) (ho : o.isCells = false) (_ : o.isWalk = false) : KpD n0 n m W (W.putObj l o') :=
  ⟨fun a v _ e => cell_kept e (grownBy_putObj' _ l o') (fun r e => by cases e; exact ⟨_, h, ho⟩), fun v e => cell_kept e (grownBy_putObj' _ l o') (fun r e => by cases e; exact ⟨_, h, ho⟩), fun v e => cell_kept e (grownBy_putObj' _ l o') (fun r e => by cases e; exact ⟨_, h, ho⟩)⟩
theorem range_prefix {n m : Nat} (h : n ≤ m) : List.range n <+: List.range m := by
  refine ⟨(List.range (m - n)).map (n + ·), ?_⟩
  rw [← List.range_add, Nat.add_sub_cancel' h]
set_option maxRecDepth 100000 in
set_option maxHeartbeats 2000000 in
/-- the iterator over pairs -/
theorem prs_in (n : Nat) (hn : 1 ≤ n) (l B1 B2 n0 b o c m : Nat) (hc : 2 * m ≤ c) (hm : c ≤ 9223372036854775807) (J Jx : List Nat → World → Prop) (hJd : ∀ pre W, J pre W → J pre W.drew)
    (hY : ∀ pre x W, J pre W → pre.length < m → x < m → YieldAt Fence.wide (n - 1) Try.prog l #[.slice (some ⟨b, o + 2 * x, none⟩) 2 2] W fun e W' =>
      (e = .returned (.bool true) ∧ J (pre ++ [x]) W' ∧ KpD n0 B1 B2 W W') ∨ (e = .returned (.bool false) ∧ Jx (pre ++ [x]) W'))
    (W : World) (hB1 : W.cell? ⟨B1, 0, none⟩ = some (.slice (some ⟨b, o, none⟩) (2 * m) c)) (hB2 : W.cell? ⟨B2, 0, none⟩ = some (.int .i64 2)) (h0 : J [] W) :
    CallsIn Fence.wide n Try.prog 46 #[.func (.yield l) #[] #[], .pointer (some ⟨B1, 0, none⟩), .pointer (some ⟨B2, 0, none⟩)] W fun e W' => (∃ v, e = .returned v) ∧
      ((∃ zs, zs = List.range m ∧ J zs W') ∨ (∃ pre, pre <+: List.range m ∧ Jx pre W')) := by
  refine callsIn_of_wp Try.func46 rfl trivial ?_ rfl
  simp only [Try.ntmps46, List.size_toArray, List.length_cons, List.length_nil, Nat.reduceAdd, Nat.reduceSub, Array.replicate_succ, Array.replicate_zero, List.push_toArray, List.append_toArray, List.nil_append, List.cons_append]
  gi_wp2
  gi_loopw [4] (fun s wr => ∃ i : Nat, i ≤ m ∧ s = .int .i64 (2 * (i : Int)) ∧ wr.cell? ⟨B1, 0, none⟩ = some (.slice (some ⟨b, o, none⟩) (2 * m) c) ∧ wr.cell? ⟨B2, 0, none⟩ = some (.int .i64 2) ∧ J (List.range i) wr) (fun s _ => 2 * m - (RowKit.intOf s).toNat)
  case atStart => exact ⟨0, by omega, rfl, hB1, hB2, h0⟩
  case round =>
    obtain ⟨i, hi, rfl, hc1, hc2, hJ⟩ := hrel
    by_cases hlt : i < m
    · have hYY := hY (List.range i) i wr.drew (hJd _ _ hJ) (by simpa using hlt) hlt
      have htwo := slice_two b o (2 * i) (2 * m) c (by omega) hc (by omega)
      obtain ⟨z, hz⟩ : ∃ z : Int, z = 2 * (i : Int) := ⟨_, rfl⟩
      rw [show ((2 * i : Nat) : Int) = z from by rw [hz]; simp] at htwo
      rw [← hz]
      obtain ⟨fn, tmps, assign, body, hy0, hR⟩ := hYY
      have HR := hid hR
      clear h0 hB1 hB2 hY hR
      have d1 : wr.drew.cell? ⟨B1, 0, none⟩ = some (.slice (some ⟨b, o, none⟩) (2 * m) c) := hc1
      have d2 : wr.drew.cell? ⟨B2, 0, none⟩ = some (.int .i64 2) := hc2
      gi_wp2
      gi_region
      rw [show min (2 : Int) ((2 * m - 2 * i : Nat) : Int) = 2 from by omega]
      gi_wp2
      refine HR.out.mono ?_
      have hrg : List.range i ++ [i] = List.range (i + 1) := List.range_succ.symm
      have HRG := hid hrg
      clear hrg
      rintro e W3 (⟨rfl, hJ3, hk3⟩ | ⟨rfl, hJx3⟩)
      · have e1 := hk3.2.1 _ d1
        have e2 := hk3.2.2 _ d2
        rw [HRG.out] at hJ3
        clear hk3 d1 d2 htwo
        gi_wp2
        go_roundw
        case rel => exact ⟨i + 1, by omega, by rw [show (2 * (i : Int) + 2) = 2 * ((i + 1 : Nat) : Int) from by omega], e1, e2, hJ3⟩
        case measure => simp [RowKit.intOf]; omega
      · gi_wp2
        refine bodyPost_ret (results_none rfl _ _ _) rfl ?_
        exact ⟨⟨_, rfl⟩, .inr ⟨_, by rw [HRG.out]; exact range_prefix (by omega), hJx3⟩⟩
    · obtain rfl : i = m := by omega
      clear hY h0
      gi_wp2
      go_end0
      exact ⟨⟨_, rfl⟩, .inl ⟨_, rfl, hJ⟩⟩
/-- of nothing -/
theorem prs0_in (n : Nat) (l B1 B2 c : Nat) (p : Option Addr) (J Jx : List Nat → World → Prop)
    (W : World) (hB1 : W.cell? ⟨B1, 0, none⟩ = some (.slice p 0 c)) (hB2 : W.cell? ⟨B2, 0, none⟩ = some (.int .i64 2)) (h0 : J [] W) :
    CallsIn Fence.wide n Try.prog 46 #[.func (.yield l) #[] #[], .pointer (some ⟨B1, 0, none⟩), .pointer (some ⟨B2, 0, none⟩)] W fun e W' => (∃ v, e = .returned v) ∧
      ((∃ zs, zs = List.range 0 ∧ J zs W') ∨ (∃ pre, pre <+: List.range 0 ∧ Jx pre W')) := by
  refine callsIn_of_wp Try.func46 rfl trivial ?_ rfl
  simp only [Try.ntmps46, List.size_toArray, List.length_cons, List.length_nil, Nat.reduceAdd, Nat.reduceSub, Array.replicate_succ, Array.replicate_zero, List.push_toArray, List.append_toArray, List.nil_append, List.cons_append]
  gi_wp2
  gi_loopw [4] (fun s wr => s = .int .i64 0 ∧ wr.cell? ⟨B1, 0, none⟩ = some (.slice p 0 c) ∧ J [] wr) (fun s _ => 0)
  case atStart => exact ⟨rfl, hB1, h0⟩
  case round =>
    obtain ⟨rfl, hc1, hJ⟩ := hrel
    clear h0
    gi_wp2
    go_end0
    exact ⟨⟨_, rfl⟩, .inl ⟨_, rfl, hJ⟩⟩
theorem prs_stops (n : Nat) (hn : 1 ≤ n) (B1 B2 n0 : Nat) (p : Option Addr) (b o c m : Nat) (hp : 0 < m → p = some ⟨b, o, none⟩) (hc : 2 * m ≤ c) (hm : c ≤ 9223372036854775807) (w : World) (k1 : B1 < w.heap.size) (k2 : B2 < w.heap.size)
    (hB1 : w.cell? ⟨B1, 0, none⟩ = some (.slice p (2 * m) c)) (hB2 : w.cell? ⟨B2, 0, none⟩ = some (.int .i64 2)) :
    SeqStopsK Fence.wide n Try.prog 46 #[.pointer (some ⟨B1, 0, none⟩), .pointer (some ⟨B2, 0, none⟩)] (fun x : Fin m => #[Value.slice (some ⟨b, o + 2 * x.val, none⟩) 2 2]) (KpD n0 B1 B2) (fun zs => zs.map Fin.val = List.range m) (fun pre => pre.map Fin.val <+: List.range m) m w :=
  fun l J Jx W hW hJ _ hY h0 => by
    have c1 := (hW.cell (p := ⟨B1, 0, none⟩) k1).trans hB1
    have c2 := (hW.cell (p := ⟨B2, 0, none⟩) k2).trans hB2
    have fin : ∀ (e : Ending) (W' : World), ((∃ v, e = .returned v) ∧ ((∃ zs, zs = List.range m ∧ ∃ ys : List (Fin m), ys.map Fin.val = zs ∧ J ys W') ∨ (∃ pre, pre <+: List.range m ∧ ∃ ys : List (Fin m), ys.map Fin.val = pre ∧ Jx ys W'))) →
        (∃ v, e = .returned v) ∧ ((∃ xs : List (Fin m), xs.map Fin.val = List.range m ∧ J xs W') ∨ (∃ pre : List (Fin m), pre.map Fin.val <+: List.range m ∧ Jx pre W')) := by
      rintro e W' ⟨h1, ⟨zs, rfl, ys, h2, h3⟩ | ⟨pre, h4, ys, rfl, h3⟩⟩
      · exact ⟨h1, .inl ⟨ys, h2, h3⟩⟩
      · exact ⟨h1, .inr ⟨ys, h4, h3⟩⟩
    by_cases hm0 : 0 < m
    · rw [hp hm0] at c1
      refine (prs_in n hn l B1 B2 n0 b o c m hc hm (fun zs W => ∃ ys : List (Fin m), ys.map Fin.val = zs ∧ J ys W) (fun zs W => ∃ ys : List (Fin m), ys.map Fin.val = zs ∧ Jx ys W)
        (fun pre W ⟨ys, h1, h2⟩ => ⟨ys, h1, hJ ys W W.drew none h2 ⟨rfl, rfl, rfl, Nat.le_refl _, fun _ _ _ => rfl⟩ (fun r e => by cases e)⟩) ?_ W c1 c2 ⟨[], rfl, h0⟩).mono fin
      rintro pre x W1 ⟨ys, rfl, h2⟩ hl hx
      obtain ⟨fn, tmps, assign, body, hy0, hR⟩ := hY ys ⟨x, hx⟩ W1 h2 (by simpa using hl)
      refine ⟨fn, tmps, assign, body, hy0, hR.mono ?_⟩
      rintro e W' (⟨h3, h4, h5⟩ | ⟨h3, h4⟩)
      · exact .inl ⟨h3, ⟨_, by simp, h4⟩, h5⟩
      · exact .inr ⟨h3, ⟨_, by simp, h4⟩⟩
    · obtain rfl : m = 0 := by omega
      exact (prs0_in n l B1 B2 c p (fun zs W => ∃ ys : List (Fin 0), ys.map Fin.val = zs ∧ J ys W) (fun zs W => ∃ ys : List (Fin 0), ys.map Fin.val = zs ∧ Jx ys W) W c1 c2 ⟨[], rfl, h0⟩).mono fin
end Go.Proofs.Ytnbhihjhpomenaa

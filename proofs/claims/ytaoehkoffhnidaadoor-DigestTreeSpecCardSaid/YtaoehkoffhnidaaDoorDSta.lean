/- The state and the constants in memory; arithmetic on unsigned numbers as the rounds spell it; worlds that differ by draws. -/
import Derived.Test.YtaoehkoffhnidaaDoorDMem
import Derived.Test.YtaoehkoffhnidaaDoorDBits
namespace Go.Proofs.YtaoehkoffhnidaaDoor.Dg
open Go.RowKit Go
set_option linter.unusedVariables false
set_option linter.unusedSimpArgs false
def Drawn (w w' : World) : Prop := ∃ n, w' = w.drewN n
theorem Drawn.cell {w w' : World} (h : Drawn w w') (a : Addr) : w'.cell? a = w.cell? a := by obtain ⟨n, rfl⟩ := h; rfl
theorem Drawn.cells {w w' : World} (h : Drawn w w') {a : Addr} {vs : List Value} (hc : Cells w a vs) : Cells w' a vs := by obtain ⟨n, rfl⟩ := h; exact hc
theorem Drawn.free {w w' : World} (h : Drawn w w') {g : Nat} (hc : Free w g) : Free w' g := by obtain ⟨n, rfl⟩ := h; exact hc
theorem Drawn.more {w w' : World} (h : Drawn w w') (n : Nat) : Drawn w (w'.drewN n) := by
  obtain ⟨m, rfl⟩ := h
  exact ⟨m + n, by simp [World.drewN, Nat.add_assoc]⟩
theorem Drawn.size {w w' : World} (h : Drawn w w') : w'.heap.size = w.heap.size := by obtain ⟨n, rfl⟩ := h; rfl
theorem Drawn.below {w w' : World} (h : Drawn w w') (B : Nat) : Below B w w' := by obtain ⟨n, rfl⟩ := h; exact below_drewN (Below.refl _ _) n
theorem val32 {x y : Int} (h : x = y) : Value.int .u32 x = Value.int .u32 y := by rw [h]
theorem not_raw (e : BitVec 32) : bits BinOp.xor IntKind.u32 IntKind.u32.max (e.toNat : Int) = ((~~~e).toNat : Int) := by
  show bits BinOp.xor IntKind.u32 ((4294967295 : Nat) : Int) (e.toNat : Int) = _
  have : (4294967295 : Nat) = (BitVec.allOnes 32).toNat := by decide
  rw [this, xor32, BitVec.allOnes_xor]
theorem pp_raw (r : St) (xk xw : BitVec 32) : ((r.h.toNat : Int) + ((r3 r.e 6 11 25).toNat : Int) + bits BinOp.xor IntKind.u32 (bits BinOp.and IntKind.u32 (r.e.toNat : Int) (r.f.toNat : Int)) (bits BinOp.and IntKind.u32 (bits BinOp.xor IntKind.u32 IntKind.u32.max (r.e.toNat : Int)) (r.g.toNat : Int)) + (xk.toNat : Int) + (xw.toNat : Int)) % 4294967296 = ((pp r xk xw).toNat : Int) := by
  rw [not_raw]; simp only [and32, xor32, pp]
  generalize r.e &&& r.f ^^^ ~~~r.e &&& r.g = p
  generalize r3 r.e 6 11 25 = q
  simp only [BitVec.toNat_add]; omega
theorem qq_raw (r : St) : (((r3 r.a 2 13 22).toNat : Int) + bits BinOp.xor IntKind.u32 (bits BinOp.xor IntKind.u32 (bits BinOp.and IntKind.u32 (r.a.toNat : Int) (r.b.toNat : Int)) (bits BinOp.and IntKind.u32 (r.a.toNat : Int) (r.c.toNat : Int))) (bits BinOp.and IntKind.u32 (r.b.toNat : Int) (r.c.toNat : Int))) % 4294967296 = ((qq r).toNat : Int) := by
  simp only [and32, xor32, add32, qq]
def Kc (s : St) : List Value := s.list.map v32
/-- the numbers of which the first n are sums -/
def mix (s r : St) (n : Nat) : List Value := ((s.add r).list.take n ++ s.list.drop n).map v32
theorem mix_get (s r : St) (j : Nat) (h : j < 8) : (mix s r j)[j]? = some (.int .u32 (s.list.getD j 0).toNat) := by
  rcases (by omega : j = 0 ∨ j = 1 ∨ j = 2 ∨ j = 3 ∨ j = 4 ∨ j = 5 ∨ j = 6 ∨ j = 7) with rfl | rfl | rfl | rfl | rfl | rfl | rfl | rfl <;> rfl
theorem st_index (r : St) (j : Nat) (h : j < 8) : (#[Value.int .u32 r.a.toNat, .int .u32 r.b.toNat, .int .u32 r.c.toNat, .int .u32 r.d.toNat, .int .u32 r.e.toNat, .int .u32 r.f.toNat, .int .u32 r.g.toNat, .int .u32 r.h.toNat])[j]? = some (.int .u32 (r.list.getD j 0).toNat) := by
  rcases (by omega : j = 0 ∨ j = 1 ∨ j = 2 ∨ j = 3 ∨ j = 4 ∨ j = 5 ∨ j = 6 ∨ j = 7) with rfl | rfl | rfl | rfl | rfl | rfl | rfl | rfl <;> rfl
theorem mix_set (s r : St) (j : Nat) (h : j < 8) : (mix s r j).set j (v32 (s.list.getD j 0 + r.list.getD j 0)) = mix s r (j + 1) := by
  rcases (by omega : j = 0 ∨ j = 1 ∨ j = 2 ∨ j = 3 ∨ j = 4 ∨ j = 5 ∨ j = 6 ∨ j = 7) with rfl | rfl | rfl | rfl | rfl | rfl | rfl | rfl <;> rfl
theorem run_index_arr {P : Program} (w : World) (t e : TypeId) (n : Nat) (cs : Array Value) (k : IntKind) (i : Nat) (v : Value) {ik : IntKind} (h : P.underlying t = some (.array n e)) (he : P.underlying e = some (.int ik)) (hs : (P.info? e).map (·.size) = some 1)
    (hi : i < n) (hv : cs[i]? = some v) : (Instr.index t (.agg cs) (.int k (i : Int))).run P w = .ok v w := by
  cases hq : P.info? e with
  | none => simp [hq] at hs
  | some ti =>
    have hs1 : ti.size = 1 := by simpa [hq] using hs
    have hagg : (isAgg e).run P w = .ok false w := by
      unfold isAgg
      rw [Sem.run_bind, run_underlying he w]
      simp
    have hlt : (0 : Int) ≤ (i : Int) ∧ (i : Int) < (n : Int) := by omega
    simp [Instr.index, asIntOf, run_underlying h, sizeOf, typeInfo, hq, hs1, part, Sem.run_bind, hagg, hv, hi]
theorem mix8 (s r : St) : mix s r 8 = Kc (s.add r) := by simp [mix, Kc, St.list]
theorem HDR0 {w w' : World} {s r : St} {g : Nat} (h : Drawn w w') (hc : Cells w ⟨g, 0, none⟩ (Kc s)) : Cells w' ⟨g, 0, none⟩ (mix s r 0) := by
  have : mix s r 0 = Kc s := by simp [mix, Kc]
  rw [this]; exact h.cells hc
theorem grown_of_below {w w' : World} {r : Option Nat} (h : Below w.heap.size w w') : w.grownBy w' r := ⟨h.os, h.tape, h.output, h.size, fun k hk _ => h.block k hk⟩
theorem grown_drawn {w w1 w2 : World} {r : Option Nat} (h : w.grownBy w1 r) (hd : Drawn w1 w2) : w.grownBy w2 r := by obtain ⟨n, rfl⟩ := hd; exact ⟨h.os, h.tape, h.output, h.size, h.block⟩
theorem grown_drew {w w1 : World} {r : Option Nat} (h : w.grownBy w1 r) : w.grownBy w1.drew r := ⟨h.os, h.tape, h.output, h.size, h.block⟩
theorem grown_set {w w1 : World} {g i : Nat} (h : w.grownBy w1 (some g)) (v : Value) : w.grownBy (w1.setCell ⟨g, i, none⟩ v) (some g) :=
  ⟨h.os, h.tape, h.output, by simpa using h.size, fun k hk e => by rw [heap_setCell_other _ _ _ _ (by intro hh; apply e; rw [hh])]; exact h.block k hk e⟩
/-- the constants lie in block 0 -/
def Konst (w : World) : Prop := ∀ t, t < 64 → w.cell? ⟨2, t, none⟩ = some (.int .u32 (kk t).toNat)
theorem Konst.up {w w' : World} {B : Nat} (h : Konst w) (hb : Below B w w') (hB : 2 < B) : Konst w' := fun t ht => (hb.cell (p := ⟨2, t, none⟩) hB).trans (h t ht)
theorem Konst.lt {w : World} (h : Konst w) : 2 < w.heap.size := World.block_lt_of_cell? w _ (h 0 (by omega))
theorem Konst.ups {w w' : World} (h : Konst w) (hb : Below w.heap.size w w') : Konst w' := h.up hb h.lt
end Go.Proofs.YtaoehkoffhnidaaDoor.Dg

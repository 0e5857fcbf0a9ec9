/- Maps keyed by a key's three numbers: what a map block reads as. -/
import Derived.Test.YtbejjindkcjecaaN
import Derived.Maps.Own
import Derived.Maps.OwnSet
import Derived.Maps.OwnIn
import Derived.Maps.Views
import Derived.DeepKeys4
import Derived.WideKeyArgs2
namespace Go.Proofs.Ytbejjindkcjecaa
open Go.RowKit Go
set_option linter.unusedVariables false
set_option linter.unusedSimpArgs false
theorem laidOut : laidOutB Try.prog = true := by kernel_rfl
theorem row24 : (24 : TypeId) < Try.prog.types.size := of_decide_eq_true (by kernel_rfl)
theorem wide24 : (match Try.prog.underlying 24 with | some (.array _ _) | some (.struct _) => true | _ => false) = true := by kernel_rfl
set_option maxRecDepth 100000 in
theorem law24 : WideMaps.KeyLaw Try.prog 24 := deep_law_laid laidOut (m := 2) (by omega) row24 (by kernel_rfl) wide24
theorem keyed24 : Go.Maps.Keyed Try.prog 24 := Go.Maps.Keyed.of_law law24
theorem keyType24 : Try.prog.keyType 24 = true := by kernel_rfl
theorem cells24 : Try.prog.cellsOf 24 = 3 := by kernel_rfl
theorem cells3 : Try.prog.cellsOf 3 = 1 := by kernel_rfl
theorem size24 : ∃ d, Try.prog.types.size + 1 = d + 1 + 1 := ⟨Try.prog.types.size - 1, by have : 1 ≤ Try.prog.types.size := of_decide_eq_true (by kernel_rfl); omega⟩
theorem wf64 {n : Int} (h : I64 n) : (Lit.int .i64 n).wf = true := by
  unfold I64 at h
  simp [Lit.wf, IntKind.min, IntKind.max, IntKind.bits, IntKind.signed]
  omega
def kwf (k : KE) : Prop := I64 k.1 ∧ I64 k.2.1 ∧ I64 k.2.2
theorem formed24 (a b c : Value) : (Value.agg #[a, b, c]).formed Try.prog 24 = true := by simp [Value.formed, Try.underlying24, cells24]
theorem lits3 (d : Nat) (v : Value) : Try.prog.keyLits (d + 1) 3 [v] = match v with | .int q' n => if q' = .i64 ∧ (Lit.int .i64 n).wf = true then some [.int .i64 n] else none | _ => none := by
  unfold Program.keyLits
  simp only [Try.underlying3]
  cases v <;> simp
theorem lits24 (d : Nat) (a b c : Value) : Try.prog.keyLits (d + 1 + 1) 24 [a, b, c] = (do let x ← Try.prog.keyLits (d + 1) 3 [a]; let y ← Try.prog.keyLits (d + 1) 3 [b]; let z ← Try.prog.keyLits (d + 1) 3 [c]; pure (x ++ (y ++ z))) := by
  conv => lhs; unfold Program.keyLits
  simp [Try.underlying24, cells24, cells3]
  cases Try.prog.keyLits (d + 1) 3 [a] <;> cases Try.prog.keyLits (d + 1) 3 [b] <;> cases Try.prog.keyLits (d + 1) 3 [c] <;> simp
theorem keyOf_eq (a b c : Value) : keyOf Try.prog 24 (.agg #[a, b, c]) = (Try.prog.keyLits (Try.prog.types.size + 1) 24 [a, b, c]).map fun ls => .string (keyBytes ls) := by
  unfold keyOf
  simp only [Try.underlying24, keyType24, formed24, Bool.and_self, if_true]
  rfl
theorem key_of {k : KE} (h : kwf k) : ∃ l, keyOf Try.prog 24 (KV k) = some l := by
  obtain ⟨d, hd⟩ := size24
  rw [keyOf_eq, hd, lits24, lits3, lits3, lits3]
  simp [wf64 h.1, wf64 h.2.1, wf64 h.2.2]
theorem key_inj {a b : KE} {l : Lit} (ha : keyOf Try.prog 24 (KV a) = some l) (hb : keyOf Try.prog 24 (KV b) = some l) : a = b := by
  have := keyed24.inj ha hb
  simp only [Value.agg.injEq, Array.mk.injEq, List.cons.injEq, Value.int.injEq, true_and, and_true] at this
  exact Prod.ext this.1 (Prod.ext this.2.1 this.2.2)
theorem i64_of_wf {n : Int} (h : (Lit.int .i64 n).wf = true) : I64 n := by
  simp [Lit.wf, IntKind.min, IntKind.max, IntKind.bits, IntKind.signed] at h
  unfold I64; omega
theorem lits3_inv {d : Nat} {v : Value} {ls : List Lit} (h : Try.prog.keyLits (d + 1) 3 [v] = some ls) : ∃ n, v = .int .i64 n ∧ I64 n := by
  rw [lits3] at h
  cases v <;> simp at h
  obtain ⟨⟨rfl, hw⟩, _⟩ := h
  exact ⟨_, rfl, i64_of_wf hw⟩
set_option maxRecDepth 100000 in
theorem key_inv {v : Value} {l : Lit} (h : keyOf Try.prog 24 v = some l) : ∃ k : KE, v = KV k ∧ kwf k := by
  have hf : v.formed Try.prog 24 = true := by
    unfold keyOf at h
    simp only [Try.underlying24, keyType24, Bool.true_and] at h
    by_cases hc : v.formed Try.prog 24 = true
    · exact hc
    · rw [if_neg hc] at h; cases h
  cases v with
  | agg cs =>
    simp [Value.formed, Try.underlying24, cells24] at hf
    obtain ⟨cl⟩ := cs
    match cl, hf with
    | [a, b, c], _ =>
      rw [keyOf_eq] at h
      obtain ⟨d, hd⟩ := size24
      rw [hd, lits24] at h
      cases ha : Try.prog.keyLits (d + 1) 3 [a] with
      | none => rw [ha] at h; simp at h
      | some x =>
        cases hb : Try.prog.keyLits (d + 1) 3 [b] with
        | none => rw [ha, hb] at h; simp at h
        | some y =>
          cases hc : Try.prog.keyLits (d + 1) 3 [c] with
          | none => rw [ha, hb, hc] at h; simp at h
          | some z =>
            obtain ⟨n1, rfl, h1⟩ := lits3_inv ha
            obtain ⟨n2, rfl, h2⟩ := lits3_inv hb
            obtain ⟨n3, rfl, h3⟩ := lits3_inv hc
            exact ⟨(n1, n2, n3), rfl, h1, h2, h3⟩
  | _ => simp [Value.formed, Try.underlying24] at hf
/-- an element as it is -/
def R0 (v : Value) : Option (DataW Value × List MemPlace) := some (.held v, [])
/-- block b is a map of at most n entries, that reads as M -/
def MK (W : World) (b n : Nat) (M : KE → Option Value) : Prop := ∃ D, W.ownsMap Try.prog 24 R0 b n D ∧ ∀ k l, keyOf Try.prog 24 (KV k) = some l → (M k = none ∧ Go.Maps.has D l = false) ∨ ∃ v, M k = some v ∧ Go.Maps.has D l = true ∧ ∀ z, D.atKey l z = .held v
theorem MK.lt {W : World} {b n : Nat} {M : KE → Option Value} (h : MK W b n M) : b < W.heap.size := by obtain ⟨D, h1, _⟩ := h; exact h1.lt
theorem MK.kept {W W' : World} {b n : Nat} {M : KE → Option Value} {row : Option Nat} (h : MK W b n M) (hg : W.grownBy W' row) (hne : some b ≠ row) : MK W' b n M := by obtain ⟨D, h1, h2⟩ := h; exact ⟨D, h1.kept hg hne, h2⟩
theorem MK.alloc {W : World} {b n : Nat} {M : KE → Option Value} (h : MK W b n M) (o : Obj) : MK (W.alloc o) b n M := h.kept (World.grownBy_alloc W o none) (by simp)
theorem MK.drew {W : World} {b n : Nat} {M : KE → Option Value} (h : MK W b n M) : MK W.drew b n M := h
theorem MK.congr {W : World} {b n : Nat} {M M' : KE → Option Value} (h : MK W b n M) (e : ∀ k, kwf k → M k = M' k) : MK W b n M' := by
  obtain ⟨D, h1, h2⟩ := h
  refine ⟨D, h1, fun k l hk => ?_⟩
  obtain ⟨k', hkv, hw⟩ := key_inv hk
  have e1 : k = k' := by
    simp only [Value.agg.injEq, Array.mk.injEq, List.cons.injEq, Value.int.injEq, true_and, and_true] at hkv
    exact Prod.ext hkv.1 (Prod.ext hkv.2.1 hkv.2.2)
  subst e1
  rw [← e k hw]; exact h2 k l hk
theorem MK.made (W : World) : MK (W.alloc (.map #[] 0)) W.heap.size 0 (fun _ => none) := ⟨_, World.ownsMap_made W Try.prog 24 R0, fun k l _ => .inl ⟨rfl, rfl⟩⟩
theorem zero22 (w : World) : (zeroValue 22).run Try.prog w = .ok (.slice none 0 0) w := by kernel_rfl
theorem MK.store {W : World} {b n : Nat} {M : KE → Option Value} (h : MK W b n M) (hn : n < 10000000) {k : KE} (hk : kwf k) (v : Value) :
    ∃ W', (Instr.mapUpdate 71 (.map (some b)) (KV k) v).run Try.prog W = .ok () W' ∧ MK W' b (n + 1) (fun x => if x = k then some v else M x) ∧ W.grownBy W' (some b) := by
  obtain ⟨D, h1, h2⟩ := h
  obtain ⟨l, hl⟩ := key_of hk
  obtain ⟨W', h3, h4, h5⟩ := h1.update keyed24 Try.underlying71 (by unfold maxLen; omega) hl (show R0 v = some (.held v, []) from rfl)
  refine ⟨W', h3, ⟨_, h4, fun k' l' hk' => ?_⟩, h5⟩
  by_cases e : k' = k
  · subst e
    rw [hl] at hk'; cases hk'
    show ((if k' = k' then some v else M k') = none ∧ _) ∨ ∃ u, (if k' = k' then some v else M k') = some u ∧ _
    rw [if_pos rfl]
    exact .inr ⟨v, rfl, Go.Maps.has_put_same h1.isMap (keyed24.key hl) _, fun z => Go.Maps.atKey_put_same h1.isMap (keyed24.key hl) _ z⟩
  · show ((if k' = k then some v else M k') = none ∧ _) ∨ ∃ u, (if k' = k then some v else M k') = some u ∧ _
    rw [if_neg e]
    have hne : l' ≠ l := fun e2 => e (key_inj hk' (by rw [e2]; exact hl))
    rw [Go.Maps.has_put_other hne]
    rcases h2 k' l' hk' with h6 | ⟨u, h6, h7, h8⟩
    · exact .inl h6
    · exact .inr ⟨u, h6, h7, fun z => by rw [Go.Maps.atKey_put_other hne]; exact h8 z⟩
theorem MK.look_ok {W : World} {b n : Nat} {M : KE → Option Value} (h : MK W b n M) {k : KE} (hk : kwf k) :
    (Instr.lookup 71 (.map (some b)) (KV k) true).run Try.prog W = .ok (.tuple #[(M k).getD (.slice none 0 0), .bool (M k).isSome]) W := by
  obtain ⟨D, h1, h2⟩ := h
  obtain ⟨l, hl⟩ := key_of hk
  obtain ⟨v, ps, h3, h4⟩ := h1.look_ok keyed24 Try.underlying71 (zero22 W) (show R0 (.slice none 0 0) = some (.held (.slice none 0 0), []) from rfl) hl
  rw [h3]
  simp only [R0, Option.some.injEq, Prod.mk.injEq] at h4
  rcases h2 k l hl with ⟨h5, h6⟩ | ⟨u, h5, h6, h7⟩
  · rw [h5, h6]
    rw [Go.Maps.atKey_of_not_has h6] at h4
    have := h4.1
    simp only [DataW.held.injEq] at this
    rw [this]; rfl
  · rw [h5, h6]
    rw [h7] at h4
    have := h4.1
    simp only [DataW.held.injEq] at this
    rw [this]; rfl
theorem MK.look {W : World} {b n : Nat} {M : KE → Option Value} (h : MK W b n M) {k : KE} (hk : kwf k) :
    (Instr.lookup 71 (.map (some b)) (KV k) false).run Try.prog W = .ok ((M k).getD (.slice none 0 0)) W := by
  obtain ⟨D, h1, h2⟩ := h
  obtain ⟨l, hl⟩ := key_of hk
  obtain ⟨v, ps, h3, h4⟩ := h1.lookup keyed24 Try.underlying71 (zero22 W) (show R0 (.slice none 0 0) = some (.held (.slice none 0 0), []) from rfl) hl
  rw [h3]
  simp only [R0, Option.some.injEq, Prod.mk.injEq] at h4
  rcases h2 k l hl with ⟨h5, h6⟩ | ⟨u, h5, h6, h7⟩
  · rw [h5]
    rw [Go.Maps.atKey_of_not_has h6] at h4
    have := h4.1
    simp only [DataW.held.injEq] at this
    rw [this]; rfl
  · rw [h5]
    rw [h7] at h4
    have := h4.1
    simp only [DataW.held.injEq] at this
    rw [this]; rfl
end Go.Proofs.Ytbejjindkcjecaa

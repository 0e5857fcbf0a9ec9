/- Steps of a region that draws its order, taken by hand: what yields the same in every world that meets S comes first; a call comes up alone. -/
import Derived.Test.YtaoehkoffhnidaaDoorDMem
import Derived.Deep.RegionHeld3
namespace Go.Proofs.YtaoehkoffhnidaaDoor.Dg
open Go.RowKit Go
set_option linter.unusedVariables false
set_option linter.unusedSimpArgs false
section
variable {P : Program} {ops : Array Oper} {Q : Exit → Act → World → Prop} {S : World → Prop} {fuel : Nat} {listed : Array Bool} {a : Act} {w : World}
/-- an operation that yields v wherever S holds is taken first -/
theorem tk (i : Nat) (dt : Option Tmp) {oi : Oper} (v : Value) (hi : ops[i]? = some oi) (hb : (Region.noSelect ops && Region.free .any ops listed i && (Region.ready .any ops listed).contains i) = true)
    (hg : oi.guard = none) (hdt : oi.dst = dt) (hS : S w)
    (hy : ∀ w, S w → (execOp a.eval oi).run P w = .ok (.value v) w)
    (h : wpAnyH P .any ops (NoPanic Q) S fuel (listed.setIfInBounds i true) (a.put dt v) w) : wpAnyH P .any ops (NoPanic Q) S (fuel + 1) listed a w := by
  subst hdt
  rw [Bool.and_eq_true, Bool.and_eq_true] at hb
  exact wpAnyH_take hi hb.1.1 hb.1.2 hb.2 (fun _ _ _ h => False.elim h) (.inl ⟨by simp [Region.wanted, hg], hy⟩) hS h
/-- a move -/
theorem tk_move (i : Nat) (dt : Option Tmp) {oi : Oper} (x : Operand) (v : Value) (hi : ops[i]? = some oi) (ho : oi.op = .move x) (hx : a.eval x = v) (hb : (Region.noSelect ops && Region.free .any ops listed i && (Region.ready .any ops listed).contains i) = true)
    (hg : oi.guard = none) (hdt : oi.dst = dt) (hS : S w)
    (h : wpAnyH P .any ops (NoPanic Q) S fuel (listed.setIfInBounds i true) (a.put dt v) w) : wpAnyH P .any ops (NoPanic Q) S (fuel + 1) listed a w :=
  tk i dt v hi hb hg hdt hS (fun w _ => by simp [execOp, ho, hx]) h
/-- the load of an array whose cells S knows -/
theorem tk_load (i : Nat) (dt : Option Tmp) {oi : Oper} (ty : TypeId) (x : Operand) (hi : ops[i]? = some oi) (ho : oi.op = .load ty x) (b o : Nat) (hx : a.eval x = .pointer (some ⟨b, o, none⟩)) (cs : List Value) (d : TypeDesc) (hc : ∀ w, S w → w.rangeAt b o cs)
    (hu : P.underlying ty = some d) (hd : d.isRow = true) (hs : (P.info? ty).map (·.size) = some cs.length) (hb : (Region.noSelect ops && Region.free .any ops listed i && (Region.ready .any ops listed).contains i) = true)
    (hg : oi.guard = none) (hdt : oi.dst = dt) (hS : S w)
    (h : wpAnyH P .any ops (NoPanic Q) S fuel (listed.setIfInBounds i true) (a.put dt (.agg cs.toArray)) w) : wpAnyH P .any ops (NoPanic Q) S (fuel + 1) listed a w := by
  subst hdt
  rw [Bool.and_eq_true, Bool.and_eq_true] at hb
  exact wpAnyH_take hi hb.1.1 hb.1.2 hb.2 (fun _ _ _ h => False.elim h) (yieldsIf_load_mid (by simp [Region.wanted, hg]) ty x ho b o hx cs d hc hu hd hs) hS h
/-- the one operation that may come up now -/
theorem only (i : Nat) {oi : Oper} (hi : ops[i]? = some oi) (hr : Region.ready .any ops listed = [i]) (hg : oi.guard = none)
    (h : ∀ K : Act → World → Prop, Shut (∀ a w, S w → wpAnyH P .any ops (NoPanic Q) S fuel (listed.setIfInBounds i true) a w → K a w) → Oper.wp P oi a w K (NoPanic Q)) : wpAnyH P .any ops (NoPanic Q) S (fuel + 1) listed a w := by
  refine wpAnyH_ready (rs := [i]) hr (by simp) (AllReadyH.cons hi (fun K hK => ?_) AllReadyH.nil)
  rw [if_pos (by simp [Region.wanted, hg])]
  exact h K (fun a w hS hW => hK a w hS (fun _ => hW))
end
end Go.Proofs.YtaoehkoffhnidaaDoor.Dg

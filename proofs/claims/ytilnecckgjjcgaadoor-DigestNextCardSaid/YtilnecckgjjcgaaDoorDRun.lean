/- The walk through a region that draws its order, in words of its own: 'WA': from here on, whatever comes up; 'AR': each of those that may come up. -/
import Derived.Test.YtilnecckgjjcgaaDoorDReh
namespace Go.Proofs.YtilnecckgjjcgaaDoor.Dg
open Go.RowKit Go
set_option linter.unusedVariables false
set_option linter.unusedSimpArgs false
structure WA (P : Program) (ops : Array Oper) (Q : Exit → Act → World → Prop) (S : World → Prop) (fuel : Nat) (listed : Array Bool) (a : Act) (w : World) : Prop where
  out : wpAnyH P .any ops (NoPanic Q) S fuel listed a w
structure AR (P : Program) (ops : Array Oper) (Q : Exit → Act → World → Prop) (S : World → Prop) (fuel : Nat) (listed : Array Bool) (a : Act) (w : World) (rs : List Nat) : Prop where
  out : AllReadyH P .any ops (NoPanic Q) S fuel listed a w rs
section
variable {P : Program} {ops : Array Oper} {Q : Exit → Act → World → Prop} {S : World → Prop} {fuel : Nat} {listed : Array Bool} {a : Act} {w : World}
theorem wa_start {id : Nat} (hm : P.follows .mixedOrders = true) (hS : S w.drew)
    (h : WA P ops Q S ops.size (Array.replicate ops.size false) a w.drew) : (Code.region id ops true).wp P Q a w :=
  wp_region_noPanic (wp_region_held_drew hm hS (fun _ => h.out))
theorem wa_done (hr : (Region.ready .any ops listed).isEmpty = true) (h : Q .normal a w) : WA P ops Q S fuel listed a w :=
  ⟨wpAnyH_done (by simpa using hr) (NoPanic.normal h) _⟩
theorem wa_branch (rs : List Nat) (hr : Region.ready .any ops listed = rs) (hne : rs.isEmpty = false) (h : AR P ops Q S fuel listed a w rs) : WA P ops Q S (fuel + 1) listed a w :=
  ⟨wpAnyH_ready hr (by intro e; rw [e] at hne; simp at hne) h.out⟩
theorem ar_nil : AR P ops Q S fuel listed a w [] := ⟨AllReadyH.nil⟩
theorem ar_op (i : Nat) {o : Oper} {rs : List Nat} (ho : ops[i]? = some o) (hg : o.guard = none)
    (h : ∀ K : Act → World → Prop, Shut (∀ a w, S w → WA P ops Q S fuel (listed.setIfInBounds i true) a w → K a w) → Oper.wp P o a w K (NoPanic Q))
    (hs : AR P ops Q S fuel listed a w rs) : AR P ops Q S fuel listed a w (i :: rs) :=
  ⟨arc i ho hg (fun K hK => h K (fun a w hS hW => hK a w hS hW.out)) hs.out⟩
theorem wa_tk (i : Nat) (dt : Option Tmp) {oi : Oper} (v : Value) (hi : ops[i]? = some oi) (hb : (Region.noSelect ops && Region.free .any ops listed i && (Region.ready .any ops listed).contains i) = true)
    (hg : oi.guard = none) (hdt : oi.dst = dt) (hS : S w) (hy : ∀ w, S w → (execOp a.eval oi).run P w = .ok (.value v) w)
    (h : WA P ops Q S fuel (listed.setIfInBounds i true) (a.put dt v) w) : WA P ops Q S (fuel + 1) listed a w := ⟨tk i dt v hi hb hg hdt hS hy h.out⟩
theorem wa_move (i : Nat) (dt : Option Tmp) {oi : Oper} (x : Operand) (v : Value) (hi : ops[i]? = some oi) (ho : oi.op = .move x) (hx : a.eval x = v) (hb : (Region.noSelect ops && Region.free .any ops listed i && (Region.ready .any ops listed).contains i) = true)
    (hg : oi.guard = none) (hdt : oi.dst = dt) (hS : S w)
    (h : WA P ops Q S fuel (listed.setIfInBounds i true) (a.put dt v) w) : WA P ops Q S (fuel + 1) listed a w := ⟨tk_move i dt x v hi ho hx hb hg hdt hS h.out⟩
theorem wa_load (i : Nat) (dt : Option Tmp) {oi : Oper} (ty : TypeId) (x : Operand) (hi : ops[i]? = some oi) (ho : oi.op = .load ty x) (b o : Nat) (hx : a.eval x = .pointer (some ⟨b, o, none⟩)) (cs : List Value) (d : TypeDesc) (hc : ∀ w, S w → w.rangeAt b o cs)
    (hu : P.underlying ty = some d) (hd : d.isRow = true) (hs : (P.info? ty).map (·.size) = some cs.length) (hb : (Region.noSelect ops && Region.free .any ops listed i && (Region.ready .any ops listed).contains i) = true)
    (hg : oi.guard = none) (hdt : oi.dst = dt) (hS : S w)
    (h : WA P ops Q S fuel (listed.setIfInBounds i true) (a.put dt (.agg cs.toArray)) w) : WA P ops Q S (fuel + 1) listed a w := ⟨tk_load i dt ty x hi ho b o hx cs d hc hu hd hs hb hg hdt hS h.out⟩
theorem wa_ext (i : Nat) (dt : Option Tmp) {oi : Oper} (x : Operand) (k : Nat) (vs : Array Value) (v : Value) (hi : ops[i]? = some oi) (ho : oi.op = .extract x k) (hx : a.eval x = .tuple vs) (hv : vs[k]? = some v) (hb : (Region.noSelect ops && Region.free .any ops listed i && (Region.ready .any ops listed).contains i) = true)
    (hg : oi.guard = none) (hdt : oi.dst = dt) (hS : S w)
    (h : WA P ops Q S fuel (listed.setIfInBounds i true) (a.put dt v) w) : WA P ops Q S (fuel + 1) listed a w := ⟨tk_ext i dt x k vs v hi ho hx hv hb hg hdt hS h.out⟩
theorem wa_asg (i : Nat) (dt : Option Tmp) {oi : Oper} (x : Operand) (v : Value) (hi : ops[i]? = some oi) (ho : oi.op = .assign x) (hx : a.eval x = v) (hb : (Region.noSelect ops && Region.free .any ops listed i && (Region.ready .any ops listed).contains i) = true)
    (hg : oi.guard = none) (hdt : oi.dst = dt) (hS : S w)
    (h : WA P ops Q S fuel (listed.setIfInBounds i true) (a.put dt v) w) : WA P ops Q S (fuel + 1) listed a w := ⟨tk_asg i dt x v hi ho hx hb hg hdt hS h.out⟩
end
end Go.Proofs.YtilnecckgjjcgaaDoor.Dg

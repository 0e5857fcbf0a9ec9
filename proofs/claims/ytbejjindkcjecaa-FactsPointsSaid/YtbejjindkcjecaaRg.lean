/- Steps of a region that draws its order, taken by hand. -/
import Derived.Test.YtbejjindkcjecaaB
import Derived.Deep.RegionHeld3
import Derived.Deep.MidRow
namespace Go.Proofs.Ytbejjindkcjecaa
open Go.RowKit Go
set_option linter.unusedVariables false
set_option linter.unusedSimpArgs false
section
variable {P : Program} {ops : Array Oper} {Q : Exit → Act → World → Prop} {S : World → Prop} {fuel : Nat} {listed : Array Bool} {a : Act} {w : World}
/-- an operation that yields v wherever S holds is taken first -/
theorem tk (i : Nat) (dt : Option Tmp) {oi : Oper} (v : Value) (hi : ops[i]? = some oi) (hb : (Region.noSelect ops && Region.free .any ops listed i && (Region.ready .any ops listed).contains i) = true)
    (hg : oi.guard = none) (hdt : oi.dst = dt) (hS : S w)
    (hy : ∀ w, S w → (execOp a.eval oi).run P w = .ok (.value v) w)
    (h : wpAnyH P .any ops (NoPanic Q) S fuel (listed.setIfInBounds i true) (a.put dt v) w) : wpAnyH P .any ops (NoPanic Q) S (fuel + 1) listed a w := by
  subst hdt
  rw [Bool.and_eq_true, Bool.and_eq_true] at hb
  exact wpAnyH_take hi hb.1.1 hb.1.2 hb.2 (fun _ _ _ h => False.elim h) (.inl ⟨by simp [Region.wanted, hg], hy⟩) hS h
/-- a move -/
theorem tk_move (i : Nat) (dt : Option Tmp) {oi : Oper} (x : Operand) (v : Value) (hi : ops[i]? = some oi) (ho : oi.op = .move x) (hx : a.eval x = v) (hb : (Region.noSelect ops && Region.free .any ops listed i && (Region.ready .any ops listed).contains i) = true)
    (hg : oi.guard = none) (hdt : oi.dst = dt) (hS : S w)
    (h : wpAnyH P .any ops (NoPanic Q) S fuel (listed.setIfInBounds i true) (a.put dt v) w) : wpAnyH P .any ops (NoPanic Q) S (fuel + 1) listed a w :=
  tk i dt v hi hb hg hdt hS (fun w _ => by simp [execOp, ho, hx]) h
/-- the load of an array whose cells S knows -/
theorem tk_load (i : Nat) (dt : Option Tmp) {oi : Oper} (ty : TypeId) (x : Operand) (hi : ops[i]? = some oi) (ho : oi.op = .load ty x) (b o : Nat) (hx : a.eval x = .pointer (some ⟨b, o, none⟩)) (cs : List Value) (d : TypeDesc) (hc : ∀ w, S w → w.rangeAt b o cs)
    (hu : P.underlying ty = some d) (hd : d.isRow = true) (hs : (P.info? ty).map (·.size) = some cs.length) (hb : (Region.noSelect ops && Region.free .any ops listed i && (Region.ready .any ops listed).contains i) = true)
    (hg : oi.guard = none) (hdt : oi.dst = dt) (hS : S w)
    (h : wpAnyH P .any ops (NoPanic Q) S fuel (listed.setIfInBounds i true) (a.put dt (.agg cs.toArray)) w) : wpAnyH P .any ops (NoPanic Q) S (fuel + 1) listed a w := by
  subst hdt
  rw [Bool.and_eq_true, Bool.and_eq_true] at hb
  exact wpAnyH_take hi hb.1.1 hb.1.2 hb.2 (fun _ _ _ h => False.elim h) (yieldsIf_load_mid (by simp [Region.wanted, hg]) ty x ho b o hx cs d hc hu hd hs) hS h
/-- the one operation that may come up now -/
theorem only (i : Nat) {oi : Oper} (hi : ops[i]? = some oi) (hr : Region.ready .any ops listed = [i]) (hg : oi.guard = none)
    (h : ∀ K : Act → World → Prop, Shut (∀ a w, S w → wpAnyH P .any ops (NoPanic Q) S fuel (listed.setIfInBounds i true) a w → K a w) → Oper.wp P oi a w K (NoPanic Q)) : wpAnyH P .any ops (NoPanic Q) S (fuel + 1) listed a w := by
  refine wpAnyH_ready (rs := [i]) hr (by simp) (AllReadyH.cons hi (fun K hK => ?_) AllReadyH.nil)
  rw [if_pos (by simp [Region.wanted, hg])]
  exact h K (fun a w hS hW => hK a w hS (fun _ => hW))
end
section
variable {P : Program} {ops : Array Oper} {Q : Exit → Act → World → Prop} {S : World → Prop} {fuel : Nat} {listed : Array Bool} {a : Act} {w : World}
/-- a component of a tuple -/
theorem tk_ext (i : Nat) (dt : Option Tmp) {oi : Oper} (x : Operand) (k : Nat) (vs : Array Value) (v : Value) (hi : ops[i]? = some oi) (ho : oi.op = .extract x k) (hx : a.eval x = .tuple vs) (hv : vs[k]? = some v) (hb : (Region.noSelect ops && Region.free .any ops listed i && (Region.ready .any ops listed).contains i) = true)
    (hg : oi.guard = none) (hdt : oi.dst = dt) (hS : S w)
    (h : wpAnyH P .any ops (NoPanic Q) S fuel (listed.setIfInBounds i true) (a.put dt v) w) : wpAnyH P .any ops (NoPanic Q) S (fuel + 1) listed a w :=
  tk i dt v hi hb hg hdt hS (fun w _ => by unfold execOp; simp only [ho, hx]; simp [Instr.extract, hv]) h
/-- an assignment to a variable of the frame -/
theorem tk_asg (i : Nat) (dt : Option Tmp) {oi : Oper} (x : Operand) (v : Value) (hi : ops[i]? = some oi) (ho : oi.op = .assign x) (hx : a.eval x = v) (hb : (Region.noSelect ops && Region.free .any ops listed i && (Region.ready .any ops listed).contains i) = true)
    (hg : oi.guard = none) (hdt : oi.dst = dt) (hS : S w)
    (h : wpAnyH P .any ops (NoPanic Q) S fuel (listed.setIfInBounds i true) (a.put dt v) w) : wpAnyH P .any ops (NoPanic Q) S (fuel + 1) listed a w :=
  tk i dt v hi hb hg hdt hS (fun w _ => by simp [execOp, ho, hx]) h
/-- one of those that may come up -/
theorem arc (i : Nat) {o : Oper} {rs : List Nat} (ho : ops[i]? = some o) (hg : o.guard = none)
    (h : ∀ K : Act → World → Prop, Shut (∀ a w, S w → wpAnyH P .any ops (NoPanic Q) S fuel (listed.setIfInBounds i true) a w → K a w) → Oper.wp P o a w K (NoPanic Q))
    (hs : AllReadyH P .any ops (NoPanic Q) S fuel listed a w rs) : AllReadyH P .any ops (NoPanic Q) S fuel listed a w (i :: rs) := by
  refine AllReadyH.cons ho (fun K hK => ?_) hs
  rw [if_pos (by simp [Region.wanted, hg])]
  exact h K (fun a w hS hW => hK a w hS (fun _ => hW))
end
structure WA (P : Program) (ops : Array Oper) (Q : Exit → Act → World → Prop) (S : World → Prop) (fuel : Nat) (listed : Array Bool) (a : Act) (w : World) : Prop where
  out : wpAnyH P .any ops (NoPanic Q) S fuel listed a w
structure AR (P : Program) (ops : Array Oper) (Q : Exit → Act → World → Prop) (S : World → Prop) (fuel : Nat) (listed : Array Bool) (a : Act) (w : World) (rs : List Nat) : Prop where
  out : AllReadyH P .any ops (NoPanic Q) S fuel listed a w rs
section
variable {P : Program} {ops : Array Oper} {Q : Exit → Act → World → Prop} {S : World → Prop} {fuel : Nat} {listed : Array Bool} {a : Act} {w : World}
theorem wa_start {id : Nat} (hm : P.follows .mixedOrders = true) (hS : S w.drew)
    (h : WA P ops Q S ops.size (Array.replicate ops.size false) a w.drew) : (Code.region id ops true).wp P Q a w :=
  wp_region_noPanic (wp_region_held_drew hm hS (fun _ => h.out))
theorem wa_done (hr : (Region.ready .any ops listed).isEmpty = true) (h : Q .normal a w) : WA P ops Q S fuel listed a w :=
  ⟨wpAnyH_done (by simpa using hr) (NoPanic.normal h) _⟩
theorem wa_branch (rs : List Nat) (hr : Region.ready .any ops listed = rs) (hne : rs.isEmpty = false) (h : AR P ops Q S fuel listed a w rs) : WA P ops Q S (fuel + 1) listed a w :=
  ⟨wpAnyH_ready hr (by intro e; rw [e] at hne; simp at hne) h.out⟩
theorem ar_nil : AR P ops Q S fuel listed a w [] := ⟨AllReadyH.nil⟩
theorem ar_op (i : Nat) {o : Oper} {rs : List Nat} (ho : ops[i]? = some o) (hg : o.guard = none)
    (h : ∀ K : Act → World → Prop, Shut (∀ a w, S w → WA P ops Q S fuel (listed.setIfInBounds i true) a w → K a w) → Oper.wp P o a w K (NoPanic Q))
    (hs : AR P ops Q S fuel listed a w rs) : AR P ops Q S fuel listed a w (i :: rs) :=
  ⟨arc i ho hg (fun K hK => h K (fun a w hS hW => hK a w hS hW.out)) hs.out⟩
theorem wa_tk (i : Nat) (dt : Option Tmp) {oi : Oper} (v : Value) (hi : ops[i]? = some oi) (hb : (Region.noSelect ops && Region.free .any ops listed i && (Region.ready .any ops listed).contains i) = true)
    (hg : oi.guard = none) (hdt : oi.dst = dt) (hS : S w) (hy : ∀ w, S w → (execOp a.eval oi).run P w = .ok (.value v) w)
    (h : WA P ops Q S fuel (listed.setIfInBounds i true) (a.put dt v) w) : WA P ops Q S (fuel + 1) listed a w := ⟨tk i dt v hi hb hg hdt hS hy h.out⟩
theorem wa_move (i : Nat) (dt : Option Tmp) {oi : Oper} (x : Operand) (v : Value) (hi : ops[i]? = some oi) (ho : oi.op = .move x) (hx : a.eval x = v) (hb : (Region.noSelect ops && Region.free .any ops listed i && (Region.ready .any ops listed).contains i) = true)
    (hg : oi.guard = none) (hdt : oi.dst = dt) (hS : S w)
    (h : WA P ops Q S fuel (listed.setIfInBounds i true) (a.put dt v) w) : WA P ops Q S (fuel + 1) listed a w := ⟨tk_move i dt x v hi ho hx hb hg hdt hS h.out⟩
theorem wa_load (i : Nat) (dt : Option Tmp) {oi : Oper} (ty : TypeId) (x : Operand) (hi : ops[i]? = some oi) (ho : oi.op = .load ty x) (b o : Nat) (hx : a.eval x = .pointer (some ⟨b, o, none⟩)) (cs : List Value) (d : TypeDesc) (hc : ∀ w, S w → w.rangeAt b o cs)
    (hu : P.underlying ty = some d) (hd : d.isRow = true) (hs : (P.info? ty).map (·.size) = some cs.length) (hb : (Region.noSelect ops && Region.free .any ops listed i && (Region.ready .any ops listed).contains i) = true)
    (hg : oi.guard = none) (hdt : oi.dst = dt) (hS : S w)
    (h : WA P ops Q S fuel (listed.setIfInBounds i true) (a.put dt (.agg cs.toArray)) w) : WA P ops Q S (fuel + 1) listed a w := ⟨tk_load i dt ty x hi ho b o hx cs d hc hu hd hs hb hg hdt hS h.out⟩
theorem wa_ext (i : Nat) (dt : Option Tmp) {oi : Oper} (x : Operand) (k : Nat) (vs : Array Value) (v : Value) (hi : ops[i]? = some oi) (ho : oi.op = .extract x k) (hx : a.eval x = .tuple vs) (hv : vs[k]? = some v) (hb : (Region.noSelect ops && Region.free .any ops listed i && (Region.ready .any ops listed).contains i) = true)
    (hg : oi.guard = none) (hdt : oi.dst = dt) (hS : S w)
    (h : WA P ops Q S fuel (listed.setIfInBounds i true) (a.put dt v) w) : WA P ops Q S (fuel + 1) listed a w := ⟨tk_ext i dt x k vs v hi ho hx hv hb hg hdt hS h.out⟩
theorem wa_asg (i : Nat) (dt : Option Tmp) {oi : Oper} (x : Operand) (v : Value) (hi : ops[i]? = some oi) (ho : oi.op = .assign x) (hx : a.eval x = v) (hb : (Region.noSelect ops && Region.free .any ops listed i && (Region.ready .any ops listed).contains i) = true)
    (hg : oi.guard = none) (hdt : oi.dst = dt) (hS : S w)
    (h : WA P ops Q S fuel (listed.setIfInBounds i true) (a.put dt v) w) : WA P ops Q S (fuel + 1) listed a w := ⟨tk_asg i dt x v hi ho hx hb hg hdt hS h.out⟩
end

section
variable {o : Oper} {a : Act} {w : World} {K : Act → World → Prop} {Q : Exit → Act → World → Prop}
theorem st_append (dt : Option Tmp) (hd : o.dst = dt) (s x : Operand) (t u : TypeId) (hop : o.op = Op.call { callee := Callee.builtin Builtin.append, args := #[s, x], argTypes := #[t, u] }) (ht : o.type = t) (vs vx v : Value) (w' : World) (hs : a.eval s = vs) (hx : a.eval x = vx)
    (hrun : (Builtin.append_ #[t, u] t #[vs, vx]).run Try.prog w = .ok v w') (h : K (a.put dt v) w') : Oper.wp Try.prog o a w K Q := by
  subst hd
  unfold Oper.wp
  simp [execOp, hop, resolve, invoke, builtin, hs, hx, hrun, ht, Result.andThen]
  exact h
end
end Go.Proofs.Ytbejjindkcjecaa

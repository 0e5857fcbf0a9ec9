/- Steps of a region that draws its order, taken by hand. -/
import Derived.Test.YtnbhihjhpomenaaQ
import Derived.Deep.RegionHeld3
namespace Go.Proofs.Ytnbhihjhpomenaa
open Go.RowKit Go
set_option linter.unusedVariables false
set_option linter.unusedSimpArgs false
section
variable {P : Program} {ops : Array Oper} {Q : Exit → Act → World → Prop} {S : World → Prop} {fuel : Nat} {listed : Array Bool} {a : Act} {w : World}
structure WA (P : Program) (ops : Array Oper) (Q : Exit → Act → World → Prop) (S : World → Prop) (fuel : Nat) (listed : Array Bool) (a : Act) (w : World) : Prop where
  out : wpAnyH P .any ops (NoPanic Q) S fuel listed a w
structure AR (P : Program) (ops : Array Oper) (Q : Exit → Act → World → Prop) (S : World → Prop) (fuel : Nat) (listed : Array Bool) (a : Act) (w : World) (rs : List Nat) : Prop where
  out : AllReadyH P .any ops (NoPanic Q) S fuel listed a w rs
theorem wa_start (S : World → Prop) {id : Nat} (hm : P.follows .mixedOrders = true) (hS : S w.drew) (h : WA P ops Q S ops.size (Array.replicate ops.size false) a w.drew) : (Code.region id ops true).wp P Q a w :=
  wp_region_noPanic (wp_region_held_drew hm hS (fun _ => h.out))
theorem wa_done (hr : (Region.ready .any ops listed).isEmpty = true) (h : Q .normal a w) : WA P ops Q S fuel listed a w :=
  ⟨wpAnyH_done (by simpa using hr) (NoPanic.normal h) _⟩
theorem wa_branch (rs : List Nat) (hr : Region.ready .any ops listed = rs) (hne : rs.isEmpty = false) (h : AR P ops Q S fuel listed a w rs) : WA P ops Q S (fuel + 1) listed a w :=
  ⟨wpAnyH_ready hr (by intro e; rw [e] at hne; simp at hne) h.out⟩
theorem ar_nil : AR P ops Q S fuel listed a w [] := ⟨AllReadyH.nil⟩
theorem ar_opw (i : Nat) {o : Oper} {rs : List Nat} (ho : ops[i]? = some o) (hw : Region.wanted o (yielded ops a.tmps) = true)
    (h : ∀ K : Act → World → Prop, Shut (∀ a w, S w → WA P ops Q S fuel (listed.setIfInBounds i true) a w → K a w) → Oper.wp P o a w K (NoPanic Q))
    (hs : AR P ops Q S fuel listed a w rs) : AR P ops Q S fuel listed a w (i :: rs) := by
  refine ⟨AllReadyH.cons ho (fun K hK => ?_) hs.out⟩
  rw [if_pos hw]
  exact h K (fun a w hS hW => hK a w hS (fun _ => hW.out))
/-- an operation that is wanted now and yields v wherever S holds is taken first -/
theorem wa_tkw (i : Nat) (dt : Option Tmp) {oi : Oper} (v : Value) (hi : ops[i]? = some oi) (hb : (Region.noSelect ops && Region.free .any ops listed i && (Region.ready .any ops listed).contains i) = true)
    (hw : Region.wanted oi (yielded ops a.tmps) = true) (hdt : oi.dst = dt) (hS : S w) (hy : ∀ w, S w → (execOp a.eval oi).run P w = .ok (.value v) w)
    (h : WA P ops Q S fuel (listed.setIfInBounds i true) (a.put dt v) w) : WA P ops Q S (fuel + 1) listed a w := by
  subst hdt
  rw [Bool.and_eq_true, Bool.and_eq_true] at hb
  exact ⟨wpAnyH_take hi hb.1.1 hb.1.2 hb.2 (fun _ _ _ h => False.elim h) (.inl ⟨hw, hy⟩) hS h.out⟩
/-- an operation that is not wanted -/
theorem wa_sk (i : Nat) (dt : Option Tmp) {oi : Oper} (hi : ops[i]? = some oi) (hb : (Region.noSelect ops && Region.free .any ops listed i && (Region.ready .any ops listed).contains i) = true)
    (hw : Region.wanted oi (yielded ops a.tmps) = false) (hdt : oi.dst = dt) (hS : S w)
    (h : WA P ops Q S fuel (listed.setIfInBounds i true) (a.put dt undef) w) : WA P ops Q S (fuel + 1) listed a w := by
  subst hdt
  rw [Bool.and_eq_true, Bool.and_eq_true] at hb
  exact ⟨wpAnyH_take hi hb.1.1 hb.1.2 hb.2 (fun _ _ _ h => False.elim h) (.inr ⟨hw, rfl⟩) hS h.out⟩
end
end Go.Proofs.Ytnbhihjhpomenaa

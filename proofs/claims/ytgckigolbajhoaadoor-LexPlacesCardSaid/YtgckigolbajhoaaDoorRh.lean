/- Steps of a region that draws its order, where the last operation may turn what the others read: S is not asked behind the one operation e that waits for all that was taken. -/
import Derived.Test.YtgckigolbajhoaaDoorRg
namespace Go.Proofs.YtgckigolbajhoaaDoor
open Go.RowKit Go
set_option linter.unusedVariables false
set_option linter.unusedSimpArgs false
/-- whatever comes up next: what is asked goes on, and S holds unless all is done -/
def Wh (P : Program) (ops : Array Oper) (Q : Exit → Act → World → Prop) (e : Nat) (S : World → Prop) : Nat → Array Bool → Act → World → Prop
  | 0, li, a, w => Region.ready .any ops li = [] ∧ Q .normal a w
  | n + 1, li, a, w => (Region.ready .any ops li = [] → Q .normal a w) ∧
    ∀ i, i ∈ Region.ready .any ops li → wpOp P ops Q i (fun b z => (i = e ∨ S z) ∧ Wh P ops Q e S n (li.setIfInBounds i true) b z) a w
section
variable {P : Program} {ops : Array Oper} {Q : Exit → Act → World → Prop} {e : Nat} {S : World → Prop}
theorem wh_any : ∀ (n : Nat) (li : Array Bool) (a : Act) (w : World), Wh P ops Q e S n li a w → wpAny P .any ops Q n li a w
  | 0, _, _, _, h => h
  | n + 1, _, _, _, h => ⟨h.1, fun i hi => wpOp_mono (fun b z hz => wh_any n _ b z hz.2) (h.2 i hi)⟩
theorem wh_take {i : Nat} {oi : Oper} {v : Value} (hi : ops[i]? = some oi) (hsel : ∀ (j : Nat) (o : Oper) cs b, ops[j]? = some o → o.op ≠ .select cs b) (hQ : ∀ c a w, Q (.panic c) (a.put oi.dst v) w → Q (.panic c) a w)
    (hie : i = e ∨ ∃ oe, ops[e]? = some oe ∧ ∃ x ∈ oe.after, Region.binds .any x = true ∧ x.on = i) :
    ∀ (n : Nat) (li : Array Bool) (a : Act) (w : World),
      (∀ j oj, ops[j]? = some oj → j ≠ i → li.getD j true = false → (∀ x ∈ oj.after, Region.binds .any x = true → x.on ≠ i) → oi.apart ops oj = true) →
      i ∈ Region.ready .any ops li → YieldsIf P ops S oi v a → S w → Wh P ops Q e S n (li.setIfInBounds i true) (a.put oi.dst v) w → Wh P ops Q e S (n + 1) li a w
  | n, li, a, w, hfr, hr, hy, hS, H => by
    refine ⟨fun h0 => ?_, fun j hj => ?_⟩
    · rw [h0] at hr; exact absurd hr (by simp)
    rcases Nat.decEq j i with hne | rfl
    · have hjr := ready_mono (i := i) hj hne
      match n, H with
      | 0, H => rw [H.1] at hjr; exact absurd hjr (by simp)
      | m + 1, H =>
        obtain ⟨u0, oj, hoj, hall⟩ := mem_ready.1 hj
        have hio : ∀ x ∈ oj.after, Region.binds .any x = true → x.on ≠ i := by
          intro x he hb heq
          have t1 := hall x he hb
          have t0 := (mem_ready.1 hr).1
          rw [heq] at t1
          by_cases hlt : i < li.size
          · rw [Array.getD_eq_getD_getElem?, Array.getElem?_eq_getElem hlt] at t0 t1
            simp at t0 t1; rw [t0] at t1; cases t1
          · rw [Array.getD_eq_getD_getElem?, Array.getElem?_eq_none (by omega)] at t1
            simp at t1
        have hput := wpOp_putIf hoj (hfr j oj hoj hne u0 hio) (fun cs b => hsel i oi cs b hi) (fun cs b => hsel j oj cs b hoj) hQ hy (H.2 j hjr)
        have hil : i ∈ Region.ready .any ops (li.setIfInBounds j true) := ready_mono hr (fun h => hne h.symm)
        refine wpOp_mono (fun b z hz => ?_) hput
        obtain ⟨hy', hS', hW'⟩ := hz
        have hje : j ≠ e := by
          rintro rfl
          rcases hie with h | ⟨oe, ho, x, hx, hb, heq⟩
          · exact hne h.symm
          · rw [ho] at hoj; cases hoj; exact hio x hx hb heq
        have hSz : S z := hS'.resolve_left hje
        refine ⟨.inr hSz, wh_take hi hsel hQ hie m _ b z ?_ hil hy' hSz ?_⟩
        · intro k ok hk hki hun hno
          refine hfr k ok hk hki ?_ hno
          by_cases hjk : j = k
          · subst hjk; exact u0
          · rwa [getD_set_ne true hjk] at hun
        · rw [Array.setIfInBounds_comm _ _ hne]; exact hW'
    · exact hy.wpOp hi hS ⟨.inr hS, H⟩
/-- does e wait for i? -/
def waits (ops : Array Oper) (e i : Nat) : Bool := i == e || (match ops[e]? with | some o => o.after.any (fun x => Region.binds .any x && x.on == i) | none => false)
theorem waits_spec {i : Nat} (h : waits ops e i = true) : i = e ∨ ∃ oe, ops[e]? = some oe ∧ ∃ x ∈ oe.after, Region.binds .any x = true ∧ x.on = i := by
  unfold waits at h
  rw [Bool.or_eq_true] at h
  rcases h with h | h
  · exact .inl (by simpa using h)
  · refine .inr ?_
    cases ho : ops[e]? with
    | none => rw [ho] at h; cases h
    | some o =>
      rw [ho] at h
      obtain ⟨x, hx, hb⟩ := Array.any_eq_true'.1 h
      rw [Bool.and_eq_true] at hb
      exact ⟨o, rfl, x, hx, hb.1, by simpa using hb.2⟩
end
structure VA (P : Program) (ops : Array Oper) (Q : Exit → Act → World → Prop) (e : Nat) (S : World → Prop) (fuel : Nat) (listed : Array Bool) (a : Act) (w : World) : Prop where
  out : Wh P ops (NoPanic Q) e S fuel listed a w
structure VR (P : Program) (ops : Array Oper) (Q : Exit → Act → World → Prop) (e : Nat) (S : World → Prop) (fuel : Nat) (listed : Array Bool) (a : Act) (w : World) (rs : List Nat) : Prop where
  out : ∀ i ∈ rs, wpOp P ops (NoPanic Q) i (fun b z => (i = e ∨ S z) ∧ Wh P ops (NoPanic Q) e S fuel (listed.setIfInBounds i true) b z) a w
section
variable {P : Program} {ops : Array Oper} {Q : Exit → Act → World → Prop} {e : Nat} {S : World → Prop} {fuel : Nat} {listed : Array Bool} {a : Act} {w : World}
theorem va_start (e : Nat) {id : Nat} (hm : P.follows .mixedOrders = true)
    (h : VA P ops Q e S ops.size (Array.replicate ops.size false) a w.drew) : (Code.region id ops true).wp P Q a w :=
  wp_region_noPanic (wp_region_any hm (wh_any _ _ _ _ h.out))
theorem va_done (hr : (Region.ready .any ops listed).isEmpty = true) (h : Q .normal a w) : VA P ops Q e S fuel listed a w := by
  have hr' : Region.ready .any ops listed = [] := by simpa using hr
  cases fuel with
  | zero => exact ⟨hr', NoPanic.normal h⟩
  | succ n => exact ⟨fun _ => NoPanic.normal h, by rw [hr']; simp⟩
theorem va_branch (rs : List Nat) (hr : Region.ready .any ops listed = rs) (hne : rs.isEmpty = false) (h : VR P ops Q e S fuel listed a w rs) : VA P ops Q e S (fuel + 1) listed a w :=
  ⟨⟨fun h0 => by rw [hr] at h0; rw [h0] at hne; simp at hne, fun i hi => h.out i (hr ▸ hi)⟩⟩
theorem vr_nil : VR P ops Q e S fuel listed a w [] := ⟨fun _ h => by cases h⟩
theorem vr_op (i : Nat) {o : Oper} {rs : List Nat} (ho : ops[i]? = some o) (hg : o.guard = none)
    (h : ∀ K : Act → World → Prop, Shut (∀ a w, (i = e ∨ S w) → VA P ops Q e S fuel (listed.setIfInBounds i true) a w → K a w) → Oper.wp P o a w K (NoPanic Q))
    (hs : VR P ops Q e S fuel listed a w rs) : VR P ops Q e S fuel listed a w (i :: rs) := by
  refine ⟨fun j hj => ?_⟩
  rcases List.mem_cons.1 hj with rfl | hj
  · refine wpOp_step ho (fun K' hK => ?_)
    rw [if_pos (by simp [Region.wanted, hg])]
    exact h K' (fun b z hS hV => hK b z ⟨hS, hV.out⟩)
  · exact hs.out j hj
theorem va_tk (i : Nat) (dt : Option Tmp) {oi : Oper} (v : Value) (hi : ops[i]? = some oi) (hb : (Region.noSelect ops && Region.free .any ops listed i && (Region.ready .any ops listed).contains i && waits ops e i) = true)
    (hg : oi.guard = none) (hdt : oi.dst = dt) (hS : S w) (hy : ∀ w, S w → (execOp a.eval oi).run P w = .ok (.value v) w)
    (h : VA P ops Q e S fuel (listed.setIfInBounds i true) (a.put dt v) w) : VA P ops Q e S (fuel + 1) listed a w := by
  subst hdt
  rw [Bool.and_eq_true, Bool.and_eq_true, Bool.and_eq_true] at hb
  exact ⟨wh_take hi (Region.noSelect_spec hb.1.1.1) (fun _ _ _ h => False.elim h) (waits_spec hb.2) fuel listed a w (Region.free_spec hi hb.1.1.2) (by simpa using hb.1.2) (.inl ⟨by simp [Region.wanted, hg], hy⟩) hS h.out⟩
end
end Go.Proofs.YtgckigolbajhoaaDoor

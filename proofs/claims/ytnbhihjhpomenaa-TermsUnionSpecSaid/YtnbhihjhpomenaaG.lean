/- Contracts: combine with each of the three functions; Union, Meet, Minus of the program. -/
import Derived.Test.YtnbhihjhpomenaaF
namespace Go.Proofs.Ytnbhihjhpomenaa
open Go.RowKit Go
set_option linter.unusedVariables false
set_option linter.unusedSimpArgs false
theorem ok_length {n : Int} : ∀ {p : Int} {l : Sp}, p ≤ n → T.ok n p l → 2 * (l.length : Int) ≤ n - p := by
  intro p l
  induction l generalizing p with
  | nil => intro h _; simp; omega
  | cons s r ih =>
    obtain ⟨f, t⟩ := s
    rintro _ ⟨h1, h2, h3, h4⟩
    have := ih h3 h4
    simp only [List.length_cons]
    omega
/-- the list of what the function keeps of both sets -/
def cs (P : Bool → Bool → Bool) (a b : Sp) : Sp := T.ofs (fun x => P (decide (T.has a x)) (decide (T.has b x)) = true) 1024
def cb (P : Bool → Bool → Bool) (a b : Sp) : Sp := if T.ok 1024 (-1) a ∧ T.ok 1024 (-1) b then cs P a b else []
def ce (a b : Sp) : Int := if T.ok 1024 (-1) a ∧ T.ok 1024 (-1) b then 0 else 60
theorem cs_ok (P : Bool → Bool → Bool) (a b : Sp) : T.ok 1024 (-1) (cs P a b) := (T.ofs_ok _ 1024).1
theorem cs_has (P : Bool → Bool → Bool) (hP : P false false = false) {a b : Sp} (ha : T.ok 1024 (-1) a) (hb : T.ok 1024 (-1) b) (x : Int) : T.has (cs P a b) x ↔ P (decide (T.has a x)) (decide (T.has b x)) = true := by
  have h := (T.ofs_ok (fun x => P (decide (T.has a x)) (decide (T.has b x)) = true) 1024).2 x
  refine h.trans ⟨fun h => h.2.2, fun h => ?_⟩
  by_cases hx : T.has a x ∨ T.has b x
  · rcases hx with hx | hx
    · have := T.ok_range ha hx; exact ⟨by omega, by rw [show ((1024 : Nat) : Int) = 1024 from rfl]; exact this.2, h⟩
    · have := T.ok_range hb hx; exact ⟨by omega, by rw [show ((1024 : Nat) : Int) = 1024 from rfl]; exact this.2, h⟩
  · have h1 : decide (T.has a x) = false := decide_eq_false (fun e => hx (.inl e))
    have h2 : decide (T.has b x) = false := decide_eq_false (fun e => hx (.inr e))
    rw [h1, h2, hP] at h
    cases h
theorem cs_uniq {P : Bool → Bool → Bool} (hP : P false false = false) {a b l : Sp} (ha : T.ok 1024 (-1) a) (hb : T.ok 1024 (-1) b) (hl : T.ok 1024 (-1) l) (h : ∀ x, decide (T.has l x) = P (decide (T.has a x)) (decide (T.has b x))) : l = cs P a b :=
  T.uniq hl (cs_ok P a b) (fun x => by rw [cs_has P hP ha hb x, ← h x]; simp)
abbrev pOr : Bool → Bool → Bool := fun x y => x || y
abbrev pAnd : Bool → Bool → Bool := fun x y => x && y
abbrev pNot : Bool → Bool → Bool := fun x y => x && !y
theorem run_index_fn {P : Program} (w : World) (t e : TypeId) (n : Nat) (cs : Array Value) (k : IntKind) (i : Int) (v : Value) {d : TypeDesc} (h : P.underlying t = some (.array n e)) (he : P.underlying e = some d) (hd : ∀ w : World, (isAgg e).run P w = .ok false w) (hs : (P.info? e).map (·.size) = some 1)
    (h0 : 0 ≤ i) (hi : i.toNat < n) (hv : cs[i.toNat]? = some v) : (Instr.index t (.agg cs) (.int k i)).run P w = .ok v w := by
  obtain ⟨i, rfl⟩ := Int.eq_ofNat_of_zero_le h0
  cases hq : P.info? e with
  | none => simp [hq] at hs
  | some ti =>
    have hs1 : ti.size = 1 := by simpa [hq] using hs
    have hlt : (0 : Int) ≤ (i : Int) ∧ (i : Int) < (n : Int) := by simp at hi; omega
    simp [Instr.index, asIntOf, run_underlying h, sizeOf, typeInfo, hq, hs1, Go.part, Sem.run_bind, hd w, hv, hi]
    simp at hi hv
    simp [hv, hi]
theorem index41 (u v : Value) : (∀ w : World, (Instr.index 41 (.agg #[u, v]) (.int .i64 0)).run Try.prog w = .ok u w) ∧ ∀ w : World, (Instr.index 41 (.agg #[u, v]) (.int .i64 1)).run Try.prog w = .ok v w := by
  have hag : ∀ w : World, (isAgg 22).run Try.prog w = .ok false w := fun w => by
    unfold isAgg
    rw [Sem.run_bind, run_underlying Try.underlying22 w]
    simp
  exact ⟨fun w => run_index_fn w 41 22 2 _ .i64 0 _ Try.underlying41 Try.underlying22 hag (by kernel_rfl) (by omega) (by decide) rfl, fun w => run_index_fn w 41 22 2 _ .i64 1 _ Try.underlying41 Try.underlying22 hag (by kernel_rfl) (by omega) (by decide) rfl⟩
theorem pairs_new (w : World) (u v : Value) (e : TypeId) : (w.alloc (.cells #[u, v] e)).cell? ⟨w.heap.size, 0, none⟩ = some u ∧ (w.alloc (.cells #[u, v] e)).cell? ⟨w.heap.size, 1, none⟩ = some v := by
  constructor <;> (simp only [World.cell?, heap_alloc_new]; rfl)

theorem keep28_any (x y : Bool) (w : World) : Calls Try.prog 28 #[.bool x, .bool y] w fun e w' => e = .returned (.bool (pOr x y)) ∧ w' = w := by
  cases x <;> cases y <;> (go_enter Try.func28, Try.ntmps28; go_wp2; go_ret; exact ⟨rfl, rfl⟩)
theorem keep30_any (x y : Bool) (w : World) : Calls Try.prog 30 #[.bool x, .bool y] w fun e w' => e = .returned (.bool (pAnd x y)) ∧ w' = w := by
  cases x <;> cases y <;> (go_enter Try.func30, Try.ntmps30; go_wp2; go_ret; exact ⟨rfl, rfl⟩)
theorem keep31_any (x y : Bool) (w : World) : Calls Try.prog 31 #[.bool x, .bool y] w fun e w' => e = .returned (.bool (pNot x y)) ∧ w' = w := by
  cases x <;> cases y <;> (go_enter Try.func31, Try.ntmps31; go_wp2; go_ret; exact ⟨rfl, rfl⟩)
theorem tf (b : Bool) : b = true ∨ b = false := by cases b <;> simp
theorem open_true {n m : Nat} (h : decide (n % 2 = 1) = true) (hn : n = m) : (((m : Int) % 2) == 1) = true := by subst hn; simp at h; simp; omega
theorem open_false {n m : Nat} (h : decide (n % 2 = 1) = false) (hn : n = m) : (((m : Int) % 2) == 1) = false := by subst hn; simp at h; simp; omega
end Go.Proofs.Ytnbhihjhpomenaa

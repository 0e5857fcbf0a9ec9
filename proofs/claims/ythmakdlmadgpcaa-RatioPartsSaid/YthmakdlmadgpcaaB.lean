/- Contracts: Check, the closures of Add, Mul and Compare, and combine. -/
import Derived.Test.YthmakdlmadgpcaaA
namespace Go.Proofs.Ythmakdlmadgpcaa
open Go.RowKit Go
set_option linter.unusedVariables false
set_option linter.unusedSimpArgs false
theorem i64_of {n : Int} (h0 : -9223372036854775808 ≤ n) (h1 : n ≤ 9223372036854775807) : I64 n := ⟨h0, h1⟩
theorem cell_alloc_l {W : World} {a : Addr} {v : Value} (o : Obj) (h : W.cell? a = some v) : (W.alloc o).cell? a = some v := cell_kept h (World.grownBy_alloc W o none) (fun r e => by cases e)
theorem frozen_alloc_l {W : World} {a : Addr} {v : Value} (o : Obj) (h : W.cell? a = some v) (hf : W.frozen? a = false) : (W.alloc o).frozen? a = false := (frozen_kept h (World.grownBy_alloc W o none) (fun r e => by cases e)).trans hf
set_option maxRecDepth 100000 in
theorem Check_any (p q : Int) (hp : I64 p) (hq : I64 q) (w : World) :
    Calls Try.prog 14 #[RV p q] w fun e w' => e = .returned (.int .i64 (chk p q)) ∧ Below w.heap.size w w' := by
  have HP := hid hp; have HQ := hid hq; clear hp hq
  obtain ⟨x0, x1, f0, f1⟩ := new2 w (.int .i64 p) (.int .i64 q) 23
  go_enter Try.func14, Try.ntmps14
  go_wp2_with fail
  refine (New_any p q HP.out HQ.out _).mono ?_
  rintro e w1 ⟨rfl, hb1⟩
  have hB1 := below_t ((Below.refl _ w).alloc (Nat.le_refl _) _) hb1
  have k0 : (⟨w.heap.size, 0, none⟩ : Addr).block < (w.alloc (.cells #[.int .i64 p, .int .i64 q] 23)).heap.size := by simp
  have c0 := (hb1.cell (p := ⟨w.heap.size, 0, none⟩) k0).trans x0
  have c1 := (hb1.cell (p := ⟨w.heap.size, 1, none⟩) k0).trans x1
  have HB1 := hid hB1
  clear x0 x1 f0 f1 hb1 k0 hB1
  have hck : chk p q = if nw p q = (p, q, 0) then 0 else 50 := rfl
  have hB2 : ∀ o, Below w.heap.size w (w1.alloc o) := fun o => HB1.out.alloc HB1.out.size o
  have HB2 := hid hB2; clear hB2
  obtain ⟨⟨p', q', e⟩, hx⟩ : ∃ x, x = nw p q := ⟨_, rfl⟩
  rw [← hx] at hck ⊢
  simp only [Prod.mk.injEq] at hck
  have d0 := cell_alloc_l (.cells #[.int .i64 p', .int .i64 q'] 23) c0
  have d1 := cell_alloc_l (.cells #[.int .i64 p', .int .i64 q'] 23) c1
  have HC := hid hck
  clear hck hx c0 c1
  have h3 : (e = 0 ∧ p' = p ∧ q' = q) ∨ (e = 0 ∧ p' = p ∧ q' ≠ q) ∨ (e = 0 ∧ p' ≠ p) ∨ e ≠ 0 := by omega
  rcases h3 with ⟨rfl, rfl, rfl⟩ | ⟨rfl, rfl, h2⟩ | ⟨rfl, h1⟩ | h0
  · go_wp2
    go_ret
    refine ⟨ret_int ?_, HB2.out _⟩
    rw [HC.out]; simp
  · go_wp2
    go_ret
    refine ⟨ret_int ?_, HB2.out _⟩
    rw [HC.out]; simp [h2]
  · go_wp2
    go_ret
    refine ⟨ret_int ?_, HB2.out _⟩
    rw [HC.out]; simp [h1]
  · go_wp2
    go_ret
    refine ⟨ret_int ?_, HB2.out _⟩
    rw [HC.out]; simp [h0]
end Go.Proofs.Ythmakdlmadgpcaa

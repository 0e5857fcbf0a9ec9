/- Contracts: Compare. -/
import Derived.Test.YtlkcnnamnjnmbaaC
namespace Go.Proofs.Ytlkcnnamnjnmbaa
open Go.RowKit Go
set_option linter.unusedVariables false
set_option linter.unusedSimpArgs false
set_option maxRecDepth 100000 in
set_option maxHeartbeats 4000000 in
theorem Compare_any (a b : St) (w : World) : Calls Try.prog 17 #[KV a, KV b] w fun e w' => e = .returned (.int .i64 (S8.cp a b)) ∧ Below w.heap.size w w' := by
  obtain ⟨a0, a1, a2⟩ := a
  obtain ⟨b0, b1, b2⟩ := b
  have HC := hid (cp_trn (a0, a1, a2) (b0, b1, b2))
  simp only at HC
  obtain ⟨z, hz⟩ : ∃ z, z = S8.cp (a0, a1, a2) (b0, b1, b2) := ⟨_, rfl⟩
  rw [← hz] at HC ⊢
  clear hz
  obtain ⟨W1, hW1⟩ : ∃ W, W = (w.alloc (.cells #[.int .i64 a0, .int .i64 a1, .int .i64 a2] 23)).alloc (.cells #[.int .i64 b0, .int .i64 b1, .int .i64 b2] 23) := ⟨_, rfl⟩
  have q := pairs_new W1 49 a0 b0 a1 b1 a2 b2
  have hs : W1.heap.size = w.heap.size + 1 + 1 := by rw [hW1]; simp
  have hbw : Below w.heap.size w W1 := by rw [hW1]; exact ((Below.refl _ w).alloc (Nat.le_refl _) _).alloc (by simp) _
  have hT := inTurn_any W1.heap.size 3 3 [(a0, b0), (a1, b1), (a2, b2)] (W1.alloc (.cells #[.int .i64 a0, .int .i64 b0, .int .i64 a1, .int .i64 b1, .int .i64 a2, .int .i64 b2] 49)) rfl (by simp) q (by omega)
  have hbw2 : Below w.heap.size w (W1.alloc (.cells #[.int .i64 a0, .int .i64 b0, .int .i64 a1, .int .i64 b1, .int .i64 a2, .int .i64 b2] 49)) := hbw.alloc hbw.size _
  rw [← HC.out, hs] at hT
  rw [hW1] at hT hbw2
  have HT := hid hT
  have HB2 := hid hbw2
  clear hW1 q hs hbw hT hbw2
  go_enter Try.func17, Try.ntmps17
  go_wp2_with fail
  refine HT.out.mono ?_
  rintro e wn ⟨rfl, hb⟩
  have HB := hid (below_t HB2.out hb)
  clear hb HT HB2
  go_wp2
  go_ret
  exact ⟨rfl, HB.out⟩
end Go.Proofs.Ytlkcnnamnjnmbaa

/- Results that lie in cells. -/
import Derived.Test.YtlkcnnamnjnmbaaC
import Derived.Laws.Cells
namespace Go.Proofs.Ytlkcnnamnjnmbaa
open Go.RowKit Go
set_option linter.unusedVariables false
set_option linter.unusedSimpArgs false
theorem agg23 (w : World) : (isAgg 23).run Try.prog w = .ok true w := by
  unfold isAgg
  rw [Sem.run_bind, run_underlying Try.underlying23 w]
  simp
theorem agg33 (w : World) : (isAgg 33).run Try.prog w = .ok false w := by
  unfold isAgg
  rw [Sem.run_bind, run_underlying Try.underlying33 w]
  simp
theorem size23 (w : World) : (sizeOf 23).run Try.prog w = .ok 3 w := by
  have h : (Try.prog.info? 23).map (·.size) = some 3 := by kernel_rfl
  cases hq : Try.prog.info? 23 with
  | none => simp [hq] at h
  | some ti =>
    have hs1 : ti.size = 3 := by simpa [hq] using h
    simp [sizeOf, typeInfo, hq, hs1]
theorem load3 (W : World) (B : Nat) (a b c : Value) (h0 : W.cell? ⟨B, 0, none⟩ = some a) (h1 : W.cell? ⟨B, 1, none⟩ = some b) (h2 : W.cell? ⟨B, 2, none⟩ = some c) : (loadCellsFrom ⟨B, 0, none⟩ 0 3 #[]).run Try.prog W = .ok #[a, b, c] W := by
  have := run_loadCellsFrom (P := Try.prog) (w := W) ⟨B, 0, none⟩ (fun j => #[a, b, c].getD j undef) 3 0 #[] (fun j hj => by
    rw [add_plain, Nat.zero_add, Nat.zero_add]
    rcases (by omega : j = 0 ∨ j = 1 ∨ j = 2) with rfl | rfl | rfl
    · exact h0
    · exact h1
    · exact h2)
  exact this
theorem results_agg {fn : Func} {t u : Tmp} (h : fn.results = #[.cell t 23, .tmp u]) (tmps : Array Value) (W : World) (B : Nat) (s : St) (e : Value) (ht : tmps[t]? = some (.pointer (some ⟨B, 0, none⟩))) (hu : tmps[u]? = some e)
    (h0 : W.cell? ⟨B, 0, none⟩ = some (.int .i64 s.1)) (h1 : W.cell? ⟨B, 1, none⟩ = some (.int .i64 s.2.1)) (h2 : W.cell? ⟨B, 2, none⟩ = some (.int .i64 s.2.2)) :
    (results fn tmps).run Try.prog W = .ok (.tuple #[KV s, e]) W := by
  have hl := load3 W B _ _ _ h0 h1 h2
  simp [results, h, ht, hu, asAddr, loadVar, agg23, size23, loadCells, hl, Result.andThen]
theorem results_sl {fn : Func} {t u : Tmp} (h : fn.results = #[.cell t 33, .tmp u]) (tmps : Array Value) (W : World) (B : Nat) (v e : Value) (ht : tmps[t]? = some (.pointer (some ⟨B, 0, none⟩))) (hu : tmps[u]? = some e)
    (h0 : W.cell? ⟨B, 0, none⟩ = some v) :
    (results fn tmps).run Try.prog W = .ok (.tuple #[v, e]) W := by
  have hl : (load ⟨B, 0, none⟩).run Try.prog W = .ok v W := by rw [run_load]; simp [h0]
  simp [results, h, ht, hu, asAddr, loadVar, agg33, hl, Result.andThen]
theorem cell_two (w : World) (o : Obj) (vs : Array Value) (e : TypeId) (j : Nat) (v : Value) (h : vs[j]? = some v) : ((w.alloc o).alloc (.cells vs e)).cell? ⟨w.heap.size + 1, j, none⟩ = some v := by
  have := cell_lit (w.alloc o) vs e j v h
  rwa [World.size_alloc] at this
end Go.Proofs.Ytlkcnnamnjnmbaa

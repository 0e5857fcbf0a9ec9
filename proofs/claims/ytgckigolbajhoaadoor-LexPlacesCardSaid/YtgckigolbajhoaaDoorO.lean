/- Contracts: scanners; the deferred closure of Lex. -/
import Derived.Test.YtgckigolbajhoaaDoorOt
import Derived.Defers
import Derived.Recover
import Derived.Laws.Pointers
namespace Go.Proofs.YtgckigolbajhoaaDoor
open Go.RowKit Go
set_option linter.unusedVariables false
set_option linter.unusedSimpArgs false
set_option maxRecDepth 100000 in
set_option maxHeartbeats 8000000 in
theorem catch_idle (p q r : Addr) (w : World) :
    CallsD Tryd.prog 23 #[.pointer (some p), .pointer (some q), .pointer (some r)] .returning w fun e u' w' => e = .returned (.tuple #[]) ∧ u' = .returning ∧ w' = w := by
  refine callsD_of_wpS Tryd.func23 rfl fun c₀ cs hu => ?_
  apply wpS_seq
  apply wpS_region
  simp [wpOpsS, go_sem, recoverD, hu, Tryd.ntmps23, Exit.thenS, ta_none]
  apply wpS_seq
  apply wpS_region
  simp [wpOpsS, go_sem, recoverD, hu, Tryd.ntmps23, Exit.thenS]
  refine wpS_cond (t := false) (by simp [Act.eval, Array.replicate]) ?_
  simp only [Bool.false_eq_true, if_false]
  refine wpS_of_wp (wp_skip ?_)
  cases c₀
  simp_all [bodyPostS, results, Tryd.results23]
set_option maxRecDepth 100000 in
set_option maxHeartbeats 8000000 in
theorem catch_pan (p q r : Nat) (x : Value) (y z t : Value) (w : World) (hp : Blk w p 23 [x]) (hq : Blk w q 3 [y]) (hr : Blk w r 24 [z]) (hpq : p ≠ q) (hpr : p ≠ r) (hqr : q ≠ r) (a : Int) :
    CallsD Tryd.prog 23 #[.pointer (some ⟨p, 0, none⟩), .pointer (some ⟨q, 0, none⟩), .pointer (some ⟨r, 0, none⟩)] (.panicking ({ v := .iface 42 (.int .i64 a), recovered := false } :: [])) w fun e u' w' =>
      e = .returned (.tuple #[]) ∧ u' = .panicking ({ v := .iface 42 (.int .i64 a), recovered := true } :: []) ∧ w' = ((w.setCell ⟨p, 0, none⟩ (.slice none 0 0)).setCell ⟨q, 0, none⟩ (.int .i64 a)).setCell ⟨r, 0, none⟩ (.int .i64 90) := by
  have k1 := hp.cell 0 _ rfl
  have f1 := hp.frozen 0
  have k2 := (hq.other hpq.symm (.slice none 0 0) (j := 0)).cell 0 _ rfl
  have f2 := (hq.other hpq.symm (.slice none 0 0) (j := 0)).frozen 0
  have k3 := ((hr.other hpr.symm (.slice none 0 0) (j := 0)).other hqr.symm (.int .i64 a) (j := 0)).cell 0 _ rfl
  have f3 := ((hr.other hpr.symm (.slice none 0 0) (j := 0)).other hqr.symm (.int .i64 a) (j := 0)).frozen 0
  refine callsD_of_wpS Tryd.func23 rfl fun c₀ cs hu => ?_
  apply wpS_seq
  apply wpS_region
  simp [wpOpsS, go_sem, recoverD, hu, Tryd.ntmps23, Exit.thenS, ta_some]
  apply wpS_seq
  apply wpS_region
  simp [wpOpsS, go_sem, recoverD, hu, Tryd.ntmps23, Exit.thenS]
  refine wpS_cond (t := true) (by simp [Act.eval, Array.replicate]) ?_
  simp only [if_true]
  apply wpS_region
  simp [wpOpsS, go_sem, k1, f1, k2, f2, k3, f3, bodyPostS, results, Tryd.results23, Exit.thenS]
end Go.Proofs.YtgckigolbajhoaaDoor

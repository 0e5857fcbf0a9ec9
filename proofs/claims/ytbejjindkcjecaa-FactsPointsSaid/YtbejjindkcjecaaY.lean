/- Contract: grade; the chapter's example. -/
import Derived.Test.YtbejjindkcjecaaX
namespace Go.Proofs.Ytbejjindkcjecaa
open Go.RowKit Go
set_option linter.unusedVariables false
set_option linter.unusedSimpArgs false
set_option maxRecDepth 100000 in
theorem grade_any (a b c d e : Int) (w : World) : Calls Try.prog 31 #[.int .i64 a, .int .i64 b, .int .i64 c, .int .i64 d, .int .i64 e] w fun en w' => en = .returned (FV ⟨5, 4, 9, a, b, c, d, e⟩) ∧ Below w.heap.size w w' := by
  have hb := (Below.refl w.heap.size w).alloc (Nat.le_refl _) (.cells (fc ⟨5, 4, 9, a, b, c, d, e⟩).toArray 28)
  have hk := fun j v (hj : (fc ⟨5, 4, 9, a, b, c, d, e⟩)[j]? = some v) => (Blk.new w 28 (fc ⟨5, 4, 9, a, b, c, d, e⟩)).cell j v hj
  have c0 := hk 0 _ rfl; have c1 := hk 1 _ rfl; have c2 := hk 2 _ rfl; have c3 := hk 3 _ rfl; have c4 := hk 4 _ rfl; have c5 := hk 5 _ rfl; have c6 := hk 6 _ rfl; have c7 := hk 7 _ rfl
  clear hk
  go_enter Try.func31, Try.ntmps31
  go_wp2
  refine bodyPost_ret (v := FV ⟨5, 4, 9, a, b, c, d, e⟩) ?_ rfl ⟨rfl, hb⟩
  simp [results, Try.results31, go_sem]
def G0 : FA := ⟨5, 4, 9, 7, 2, 6, 10, 0⟩
def G1 : FA := ⟨5, 4, 9, -1, 3, 4, 20, 0⟩
def G2 : FA := ⟨5, 4, 9, 7, 2, 6, 20, 0⟩
def GL : List FA := [G0, G1]
def GK : KE := (5, 4, 9)
theorem g_val1 : F7.val GK 3 15 GL = (7, true) := by decide +kernel
theorem g_val2 : F7.val GK 3 20 GL = (0, false) := by decide +kernel
theorem g_val3 : F7.val GK 2 20 GL = (7, true) := by decide +kernel
theorem g_val4 : F7.val GK 0 0 [] = (0, false) := by decide +kernel
theorem g_add1 : adr [G0] G1 = 0 ∧ adl [G0] G1 = GL := by decide +kernel
theorem g_add2 : adr GL G2 = 71 ∧ adl GL G2 = [] := by decide +kernel
theorem g_ckl : ckl [⟨0, 0, 0, 0, 0, 0, 0, 0⟩] = 70 ∧ ckl GL = 0 := by decide +kernel
theorem g_pts1 : (F7.points GK 5 5 20 GL) = [] := by decide +kernel
theorem g_pts2 : (F7.points GK 0 9 20 GL) = [(2, 7), (4, 7), (5, 7)] := by decide +kernel
theorem g_chg : F7.changes 15 20 GL = [(GK, [(3, 4)])] := by decide +kernel
theorem g_alk1 : alk 1 2 GL [] = true := by decide +kernel
theorem g_alk2 : alk 15 20 GL [(GK, (0, 9))] = false := by decide +kernel
theorem g_upto : F7.upto 19 GL = [G0] := by decide +kernel
theorem g_wf : WF GL := by intro f hf; simp [GL] at hf; rcases hf with rfl | rfl <;> (unfold I64; decide)
theorem g_wk : WK GL := by intro f hf; simp [GL] at hf; rcases hf with rfl | rfl <;> (unfold kwf I64; decide)
end Go.Proofs.Ytbejjindkcjecaa

/- Contracts: isSign, isValid, textOf. -/
import Derived.Test.YtgckigolbajhoaaDoorQ
namespace Go.Proofs.YtgckigolbajhoaaDoor
open Go.RowKit Go
set_option linter.unusedVariables false
set_option linter.unusedSimpArgs false
def sgn (l : List UInt8) : Bool := match l with | [c] => L9.isS c | _ => false
set_option maxRecDepth 100000 in
set_option maxHeartbeats 8000000 in
theorem isSign_any (s : ByteArray) (w : World) (hk : Konst w) (hs : s.size ≤ maxLen) : Calls Tryd.prog 45 #[.string s] w fun e w' => e = .returned (.bool (sgn (lst s))) ∧ Below w.heap.size w w' := by
  have hl : (lst s).length = s.size := rfl
  by_cases h1 : s.size = 1
  · have HCN := hid (fun t => count_any s w.heap.size 2 2 [5, 6] (w.alloc (.cells ([5, 6].map (Value.int .u8)).toArray t)) (hk.up ((Below.refl _ w).alloc (Nat.le_refl _) _)) hs rfl (by omega) (zs_new w _ t))
    rw [tw_eq _ _ inC_S] at HCN
    obtain ⟨m, hm⟩ : ∃ m, m = ((lst s).takeWhile L9.isS).length := ⟨_, rfl⟩
    rw [← hm] at HCN
    have hv := hid (show ((m : Int) == 1) = sgn (lst s) by
      rw [hm]
      match hq : lst s with
      | [c] => cases hc : L9.isS c <;> simp [sgn, hc]
      | [] => rw [hq] at hl; simp at hl; omega
      | _ :: _ :: _ => rw [hq] at hl; simp at hl; omega)
    have he : ((s.size : Int) == 1) = true := by simp [h1]
    clear hm hl hk hs h1
    go_enter Tryd.func45, Tryd.ntmps45
    go_wp2_with fail
    refine (HCN.out _).mono ?_
    rintro e w' ⟨rfl, rfl⟩
    go_wp2_with fail
    go_ret
    exact ⟨by rw [← hv.out]; rfl, (Below.refl _ w).alloc (Nat.le_refl _) _⟩
  · have hv := hid (show sgn (lst s) = false by
      match hq : lst s with
      | [c] => rw [hq] at hl; simp at hl; omega
      | [] => rfl
      | _ :: _ :: _ => rfl)
    have he : ((s.size : Int) == 1) = false := by simp; omega
    clear hl hk hs h1
    go_enter Tryd.func45, Tryd.ntmps45
    go_wp2
    go_ret
    exact ⟨by rw [hv.out]; rfl, Below.refl _ _⟩
end Go.Proofs.YtgckigolbajhoaaDoor

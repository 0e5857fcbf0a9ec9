/- Contracts of the functions of package codec and lemmas for them: what each call returns and what becomes of memory, for every input within the bounds that each theorem states. -/
import Derived.Test.YtiklpimnmbjenaaF
import Derived.Test.YtiklpimnmbjenaaLaws
namespace Go.Proofs.Ytiklpimnmbjenaa
open Go.RowKit Go
set_option linter.unusedVariables false
set_option linter.unusedSimpArgs false

def strBytes (s : ByteArray) : List Int := s.data.toList.map fun b => (b.toNat : Int)
theorem strCells_map (s : ByteArray) : strCells s = (strBytes s).map (Value.int .u8) := by simp [strCells, strBytes]
theorem strBytes_len (s : ByteArray) : (strBytes s).length = s.size := by simp [strBytes]

theorem writeInt_any (n : Int) (s : ByteArray) (p : Option Addr) (len cap' : Nat) (g k cap : Nat) (xs : List Int) (w : World) (wn : wfI n) (hcap : k + (num (uns n)).length ≤ cap) (hm : cap ≤ 1000000)
    (hown : Row w g k cap xs) :
    Calls Try.prog 43 #[.slice (some ⟨g, 0, none⟩) k cap, .agg #[.int .i64 1, .int .i64 n, .string s, .slice p len cap']] w fun e w' => e = .returned (.slice (some ⟨g, 0, none⟩) (k + (num (uns n)).length) cap) ∧ Row w' g (k + (num (uns n)).length) cap (xs ++ num (uns n)) ∧ w.grownBy w' (some g) := by
  have HO := hid (hown.alloc (.cells #[.int .i64 1, .int .i64 n, .string s, .slice p len cap'] 24))
  clear hown
  go_enter Try.func43, Try.ntmps43
  go_wp2_with (first | (go_at_call 49; refine (uns_any _ _ wn).mono ?_; rintro e w1 ⟨rfl, rfl⟩) | (go_at_call 50; refine (writeNumeral_any _ _ _ xs _ _ (uns_lt wn.1 wn.2) hcap hm HO.out).mono ?_; rintro e w1 ⟨rfl, hr1, hg1⟩))
  go_ret
  exact ⟨rfl, hr1, grown_trans (grown_alloc _ _ _) hg1⟩

set_option maxHeartbeats 1000000 in
theorem writeText_any (n : Int) (s : ByteArray) (p : Option Addr) (len cap' : Nat) (g k cap : Nat) (xs : List Int) (w : World) (hcap : k + ((num s.size).length + s.size) ≤ cap) (hm : cap ≤ 1000000)
    (hown : Row w g k cap xs) :
    Calls Try.prog 45 #[.slice (some ⟨g, 0, none⟩) k cap, .agg #[.int .i64 2, .int .i64 n, .string s, .slice p len cap']] w fun e w' => e = .returned (.slice (some ⟨g, 0, none⟩) (k + ((num s.size).length + s.size)) cap) ∧ Row w' g (k + ((num s.size).length + s.size)) cap (xs ++ (num s.size ++ strBytes s)) ∧ w.grownBy w' (some g) := by
  obtain ⟨i0, hi, hz0, hz1, hz2⟩ := info_parts Try.info5
  have hgl : g < w.heap.size := row_lt hown
  have HO : Hid (Row (w.alloc (.cells #[.int .i64 2, .int .i64 n, .string s, .slice p len cap'] 24)).drew g k cap xs) := (World.ownsRow.alloc hown _).drew
  clear hown
  have hne : g ≠ w.heap.size := by omega
  have hs : s.size ≤ 1000000 := by omega
  have hwr : IntKind.u64.wrap (s.size : Int) = (s.size : Int) := IntWalk.u64_in _ (by omega)
  go_enter Try.func45, Try.ntmps45
  go_wp2_with fail
  go_region_held3 (fun w' => w'.cell? ⟨w.heap.size, 2, none⟩ = some (.string s) ∧ w.heap.size < w'.heap.size)
     ((refine ⟨?_, ?_⟩ <;> first | (go_keep; done) | (have h1 := hg2.size; have h2 := hg1.size; simp at h2; omega) | (have h1 := hg1.size; simp at h1; omega) | (refine hg1.cell ?_ ?_ <;> simp <;> omega) | (refine hg2.cell (hg1.cell ?_ ?_) ?_ <;> simp <;> omega)))
     (first | (go_at_call 50; refine (writeNumeral_any _ _ _ xs _ _ (by show _ < _; omega) (by omega) hm HO.out).mono ?_; rintro e w1 ⟨rfl, hr1, hg1⟩) | (refine step_append_string rfl (.tmp 10) (.tmp 12) 27 9 rfl g 5 i0 Try.underlying27 Try.underlying9 hi hz1 g _ cap _ rfl hr1 _ rfl (by omega) ?_; intro w2 hr2 hg2))
  go_wp2
  go_ret
  refine ⟨by simp [Nat.add_assoc], ?_, grown_trans (grown_trans (grown_drew (grown_alloc _ _ _)) hg1) hg2⟩
  rw [strCells_map] at hr2
  unfold Row; simpa [Nat.add_assoc] using hr2
end Go.Proofs.Ytiklpimnmbjenaa

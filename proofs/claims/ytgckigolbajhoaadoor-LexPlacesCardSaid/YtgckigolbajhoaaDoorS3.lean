/- Contracts: textOf, Text. -/
import Derived.Test.YtgckigolbajhoaaDoorS2
import Derived.Lib.AppendIntMem
import Derived.Deep.OwnRows
namespace Go.Proofs.YtgckigolbajhoaaDoor
open Go.RowKit Go
set_option linter.unusedVariables false
set_option linter.unusedSimpArgs false
set_option maxRecDepth 100000 in
set_option maxHeartbeats 8000000 in
theorem textOf_any (k n a : Int) (t : List UInt8) (w : World) (hk : Konst w) (hv : L9.vld ⟨k, t, n, a⟩ = true) : Calls Tryd.prog 32 #[.agg #[.int .i64 k, .string ⟨t.toArray⟩, .int .i64 n, .int .i64 a]] w fun e w' => e = .returned (.string ⟨(L9.tx ⟨k, t, n, a⟩).toArray⟩) ∧ Below w.heap.size w w' := by
  have HBX := hid ((Below.refl w.heap.size w).alloc (Nat.le_refl _) (.cells #[.int .i64 k, .string ⟨t.toArray⟩, .int .i64 n, .int .i64 a] 35))
  by_cases h2 : k = 2
  · subst h2
    rw [vld2 rfl] at hv
    obtain ⟨ht0, h0, h1⟩ := of_decide_eq_true hv
    have htx := hid (show L9.tx ⟨2, t, n, a⟩ = Lib.itoa n by
      unfold L9.tx Lib.itoa
      rw [if_pos rfl, if_neg (by omega)])
    have HI := hid (Tryd.strconv_Itoa n (by omega) (by omega) _ (hk.up HBX.out).p)
    clear hk hv ht0
    go_enter Tryd.func32, Tryd.ntmps32
    go_wp2_with fail
    refine HI.out.mono ?_
    rintro e w1 ⟨rfl, k, os, hw⟩
    have hb : Below w.heap.size w w1 := by rw [hw]; exact HBX.out.trans ((Lib.below_grow _ _ (Nat.le_refl _) k os).mono HBX.out.size)
    have HB := hid hb
    clear hb hw
    go_wp2
    go_ret
    exact ⟨by rw [htx.out]; rfl, HB.out⟩
  · have htx := hid (show L9.tx ⟨k, t, n, a⟩ = t from if_neg h2)
    have hb2 : (k == 2) = false := by simpa using h2
    clear hk hv h2
    go_enter Tryd.func32, Tryd.ntmps32
    go_wp2
    go_ret
    exact ⟨by rw [htx.out]; rfl, HBX.out⟩
/-- Text's two results -/
def txt (l : List Tk) : List UInt8 := if l.all L9.vld = true then Lib.join (l.map L9.tx) [32] else []
def txe (l : List Tk) : Int := if l.all L9.vld = true then 0 else 90
theorem info9 : (Tryd.prog.info? 9).map (fun i => (i.zero, i.size, i.bytes)) = some (some (.string ⟨#[]⟩), 1, 16) := by kernel_rfl
theorem all_take {l : List Tk} {k : Nat} {x : Tk} (h : l[k]? = some x) (h1 : (l.take k).all L9.vld = true) (h2 : L9.vld x = true) : (l.take (k + 1)).all L9.vld = true := by
  rw [take_snoc h, List.all_append, h1]; simp [h2]
theorem all_bad {l : List Tk} {k : Nat} {x : Tk} (h : l[k]? = some x) (h2 : L9.vld x = false) : l.all L9.vld = false := by
  cases hh : l.all L9.vld
  · rfl
  · have := List.all_eq_true.1 hh x (List.mem_of_getElem? h); rw [h2] at this; cases this
/-- the texts that are written -/
structure Wr (W : World) (B n : Nat) (l : List Tk) (k : Nat) : Prop where
  ex : ∃ cs, Blk W B 9 cs ∧ cs.length = n ∧ ∀ i x, i < k → l[i]? = some x → cs[i]? = some (.string ⟨(L9.tx x).toArray⟩)
end Go.Proofs.YtgckigolbajhoaaDoor

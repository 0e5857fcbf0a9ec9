/- The reference of layer 2: the numbers K. -/
import Derived.Test.YtilnecckgjjcgaaDoorRA
namespace Go.Proofs.YtilnecckgjjcgaaDoor.Dg
open Go.RowKit Go
set_option linter.unusedVariables false
set_option linter.unusedSimpArgs false
def Kv : List Value := Kn.map fun k : Nat => .int .u32 (k : Int)
set_option maxRecDepth 100000 in
set_option maxHeartbeats 2000000 in
theorem numbers_any (w : World) : Calls Tryd.prog 71 #[] w fun e w' => e = .returned (.agg Kv.toArray) ∧ Below w.heap.size w w' := by
  go_enter Tryd.func71, Tryd.ntmps71
  go_upto_region 1 with fail
  refine code_alloc ?_
  intro W hc hf hb hs
  have hlen : Kv.length = 64 := by decide
  have hone : Kv.toArray.all (·.oneCell') = true := all_oneCell_toArray (fun v hv => by unfold Kv at hv; obtain ⟨x, _, rfl⟩ := List.mem_map.1 hv; rfl)
  have hz : Kv.toArray.size = 64 := by rw [List.size_toArray, hlen]
  have hth : W.there w.heap.size 0 Kv.toArray.size := by rw [hz]; exact hc.there hf
  have hinf : (Tryd.prog.info? 79).map (·.size) = some Kv.toArray.size := by rw [hz, ← hlen]; exact info65 hlen
  have hsame : Cells (W.setCells w.heap.size 0 Kv) ⟨w.heap.size, 0, none⟩ Kv := range_cells (World.rangeAt_setCells_same W w.heap.size 0 Kv (by rw [hlen]; exact hc.there hf))
  have HS := hid hsame; have HB := hid (setCells_below w.heap.size (Nat.le_refl _) Kv 0 W hb); have HI := hid (info65 hlen)
  clear hc hf hb hs hsame hlen hz
  go_wp2_with (refine wpList_store_mid rfl 79 (.tmp 0) (.tmp 1) rfl w.heap.size 0 Kv.toArray rfl rfl hth hinf hone ?_)
  exact bodyPost_ret (v := .agg Kv.toArray) (results_cell_mid Tryd.results71 _ _ w.heap.size Kv _ (by simp only [Array.getD]; rfl) HS.out.range Tryd.underlying79 rfl HI.out) rfl ⟨rfl, HB.out⟩
end Go.Proofs.YtilnecckgjjcgaaDoor.Dg

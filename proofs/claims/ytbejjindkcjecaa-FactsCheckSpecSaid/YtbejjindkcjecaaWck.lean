/- The law CheckSpec, walked. -/
import Derived.Test.YtbejjindkcjecaaRefD
import Derived.Test.YtbejjindkcjecaaWup
namespace Go.Proofs.Ytbejjindkcjecaa
open Go.RowKit Go
set_option linter.unusedVariables false
set_option linter.unusedSimpArgs false
set_option maxRecDepth 100000 in
set_option maxHeartbeats 8000000 in
theorem check_law (v : Value) (L : List FA) (f : FA) (w : World) (hv : FS w v L) :
    Calls Try.prog 3 #[v, FV f] w fun e w' => e = .returned (.bool true) ∧ Below w.heap.size w w' := by
  obtain ⟨Z, hZ⟩ : ∃ Z, Z = w.alloc (.cells #[.int .i64 f.kind, .int .i64 f.subj, .int .i64 f.obj, .int .i64 f.val, .int .i64 f.frm, .int .i64 f.to, .int .i64 f.known, .int .i64 f.no] 28) := ⟨_, rfl⟩
  have hzb : Below w.heap.size w Z := by rw [hZ]; exact (Below.refl _ w).alloc (Nat.le_refl _) _
  have hzk : Blk Z w.heap.size 28 (fc f) := by rw [hZ]; exact Blk.new w 28 (fc f)
  obtain ⟨B1, hB1⟩ : ∃ B1, B1 = w.heap.size := ⟨_, rfl⟩
  have hfz := hv.ups hzb
  have HFS := hid (fun (W : World) (hW : Below Z.heap.size Z W) => hfz.ups hW)
  have HKB := hid (fun (W : World) (hW : Below Z.heap.size Z W) => show Blk W B1 28 (fc f) by rw [hB1]; exact hzk.below hW hzk.lt)
  have HZB := hid hzb
  have HT := hid (Below.refl Z.heap.size Z)
  have hfew := fun (W : World) (hW : Below Z.heap.size Z W) => few_any _ L W (HFS.out W hW)
  obtain ⟨fw, hfw⟩ : ∃ fw, fw = decide (L.length ≤ 30) := ⟨_, rfl⟩
  rw [← hfw] at hfew
  have HFW := hid hfw; have HFEW := hid hfew
  clear hfw hfew hv hzb hzk hfz
  go_enter Try.func3, Try.ntmps3
  go_upto_region 1 with fail
  rw [← hB1, ← hZ]
  clear hZ hB1
  go_wp2_with fail
  refine (sane_any Z).mono ?_
  rintro e wn ⟨rfl, hb⟩
  have HT := hid (below_t HT.out hb)
  clear hb
  go_wp2_with fail
  refine (HFEW.out _ HT.out).mono ?_
  rintro e wn ⟨rfl, hb⟩
  have HT := hid (below_t HT.out hb)
  clear hb
  cases fw with
  | false =>
    have HB := hid (below_t HZB.out HT.out)
    go_wp2_with fail
    go_ret
    exact ⟨rfl, HB.out⟩
  | true =>
    have HL := hid (show L.length ≤ 1000000 by have := of_decide_eq_true HFW.out.symm; omega)
    have h1' := HKB.out _ HT.out
    have a0 := h1'.cell 0 _ rfl; have a1 := h1'.cell 1 _ rfl; have a2 := h1'.cell 2 _ rfl; have a3 := h1'.cell 3 _ rfl; have a4 := h1'.cell 4 _ rfl; have a5 := h1'.cell 5 _ rfl; have a6 := h1'.cell 6 _ rfl; have a7 := h1'.cell 7 _ rfl
    clear h1'
    go_wp2_with fail
    refine (add_any _ L f _ (HFS.out _ HT.out) HL.out).mono ?_
    rintro e wn ⟨⟨u5, rfl, hf5⟩, hb⟩
    have HT := hid (below_t HT.out hb)
    have HF5 := hid hf5
    clear hb hf5 a0 a1 a2 a3 a4 a5 a6 a7
    have h1' := HKB.out _ HT.out
    have a0 := h1'.cell 0 _ rfl; have a1 := h1'.cell 1 _ rfl; have a2 := h1'.cell 2 _ rfl; have a3 := h1'.cell 3 _ rfl; have a4 := h1'.cell 4 _ rfl; have a5 := h1'.cell 5 _ rfl; have a6 := h1'.cell 6 _ rfl; have a7 := h1'.cell 7 _ rfl
    clear h1'
    go_wp2_with fail
    refine (refAdd_any _ L f _ (HFS.out _ HT.out) HL.out).mono ?_
    rintro e wn ⟨⟨u7, rfl, hf7⟩, hb⟩
    have HT := hid (below_t HT.out hb)
    have HF5 := hid (HF5.out.ups hb)
    have HF7 := hid hf7
    clear hb hf7 a0 a1 a2 a3 a4 a5 a6 a7
    obtain ⟨c, hc⟩ : ∃ c, c = ckl L := ⟨_, rfl⟩
    obtain ⟨r, hr⟩ : ∃ r, r = adr L f := ⟨_, rfl⟩
    rw [← hr]
    have HC1 := hid (fun (W : World) (hW : Below Z.heap.size Z W) => check_any _ L W (HFS.out W hW))
    have HC2 := hid (fun (W : World) (hW : Below Z.heap.size Z W) => refCheck_any _ L W (HFS.out W hW))
    rw [← hc] at HC1 HC2
    clear hc hr
    go_wp2_with fail
    refine (HC1.out _ HT.out).mono ?_
    rintro e wn ⟨rfl, hb⟩
    have HT := hid (below_t HT.out hb)
    have HF5 := hid (HF5.out.ups hb)
    have HF7 := hid (HF7.out.ups hb)
    clear hb
    go_wp2_with fail
    refine (HC2.out _ HT.out).mono ?_
    rintro e wn ⟨rfl, hb⟩
    have HT := hid (below_t HT.out hb)
    have HF5 := hid (HF5.out.ups hb)
    have HF7 := hid (HF7.out.ups hb)
    have HS := hid (same_any u5 u7 _ _ _ HF5.out HF7.out)
    rw [show decide (adl L f = adl L f) = true by simp] at HS
    clear hb HC1 HC2 HF5 HF7
    go_wp2_with fail
    refine HS.out.mono ?_
    rintro e wn ⟨rfl, hb⟩
    have HB := hid (below_t HZB.out (below_t HT.out hb))
    clear hb HS
    go_wp2_with fail
    go_ret
    exact ⟨rfl, HB.out⟩
end Go.Proofs.Ytbejjindkcjecaa

/- The reference of layer 2: the hash under a tag. -/
import Derived.Test.YtilnecckgjjcgaaDoorRE
namespace Go.Proofs.YtilnecckgjjcgaaDoor.Dg
open Go.RowKit Go
set_option linter.unusedVariables false
set_option linter.unusedSimpArgs false
set_option maxRecDepth 100000 in
set_option maxHeartbeats 1000000 in
theorem rTagged_any (tag : ByteArray) (v : Value) (b : List UInt8) (w : World) (hv : BS w v b) (ht : tag.size ≤ 100000000) (hn : b.length ≤ 100000000) :
   Calls Tryd.prog 13 #[.string tag, v] w (RetD w (tagd tag.data.toList b)) := by
  have HV := hid hv; have HT := hid ht; have HN := hid hn
  clear hv hn ht
  have hcv : ∀ W, (convert 9 22 (.string tag)).run Tryd.prog W = .ok (.slice (some ⟨W.heap.size, 0, none⟩) tag.size (grownCap W tag.size 0 5)) (Lib.bytesWorld W 5 tag) := fun W => Lib.run_convert_string_bytes (P := Tryd.prog) W 9 22 5 tag Tryd.underlying9 Tryd.underlying22 Tryd.underlying5
  go_enter Tryd.func13, Tryd.ntmps13
  go_upto_region 1 with (fail)
  refine code_alloc ?_
  intro W0 hc0 hf0 hb0 hs0
  have HR0 := hid (Room.mk hc0 rfl hf0 hs0)
  have HB0 := hid hb0
  obtain ⟨gd, hgd⟩ : ∃ gd, gd = w.heap.size := ⟨_, rfl⟩
  rw [← hgd] at HR0 ⊢
  have HGD := hid hgd
  clear hc0 hf0 hb0 hs0 hgd
  go_wp2_with fail
  have hbb := str_below W0 tag
  refine (rSum_any _ tag.data.toList _ (str_bs W0 tag (by have := HT.out; omega)) (by have := HT.out; simp; omega)).mono ?_
  rintro e w1 ⟨vs, hd, rfl, hb1⟩
  have HR1 := hid (HR0.out.ups (below_tr hbb hb1))
  have HB1 := hid (below_tr HB0.out (below_tr hbb hb1))
  clear hbb hb1 hcv
  have hlen := hd.len'
  go_wp2_with fail
  refine upon_store_new (by rw [hlen]; rfl) hd.one ?_
  intro W1 hc1 hf1 hb2 hs1
  obtain ⟨g5, hg5⟩ : ∃ g5, g5 = w1.heap.size := ⟨_, rfl⟩
  rw [← hg5] at hc1 ⊢
  have HC1 := hid hc1; have HB2 := hid (below_tr HB1.out hb2); have HR2 := hid (HR1.out.ups hb2); have HG5 := hid (show g5 < W1.heap.size by rw [hs1, hg5]; omega)
  clear hc1 hf1 hb2 hs1 hg5 hlen
  have hal : Below W1.heap.size W1 (W1.alloc (.cells #[] 5)) := below_al _ _
  have hbs := hd.bs (HC1.out.ups hal) (Nat.lt_of_lt_of_le HG5.out hal.size)
  obtain ⟨v1, w2, hr1, ho1, hb1⟩ := append_ob (w := W1.alloc (.cells #[] 5)) (base := W1.heap.size) (v := .slice (some ⟨W1.heap.size, 0, none⟩) 0 0) (l := []) (.inr ⟨rfl, _, rfl⟩) hbs (by simp [sha_length]) hal.size
  rw [List.nil_append] at ho1
  have hv2 := (HV.out.ups (HB2.out.trans ((hal.trans hb1).mono HB2.out.size)))
  obtain ⟨v2, w3, hr2, ho2, hb2⟩ := append_ob ho1 hv2 (by have := HN.out; rw [sha_length]; omega) (Nat.le_trans hal.size hb1.size)
  have hB2 := hid ((hal.trans hb1).trans hb2)
  have H1 := hid hr1; have H2 := hid hr2; have HO := hid ho2
  clear hr1 hr2 ho2 hb1 hb2 ho1 hal hbs hv2
  go_wp2_with (at_builtin; first | (refine wpList_append_run rfl (.tmp 9) (.tmp 10) 22 22 rfl _ _ _ rfl rfl H1.out ?_) | (refine wpList_append_run rfl (.tmp 11) (.tmp 12) 22 22 rfl _ _ _ rfl rfl H2.out ?_))
  refine (rSum_any v2 _ _ (HO.out.bs (by rw [List.length_append, sha_length]; omega)) (by rw [List.length_append, sha_length]; have := HN.out; omega)).mono ?_
  rintro e w4 ⟨us, hd2, rfl, hb5⟩
  have HB5 := hid (below_tr HB2.out (hB2.out.trans (hb5.mono hB2.out.size)))
  obtain ⟨w5, hst, hc5, hbb⟩ := ((HR2.out.ups hB2.out).ups hb5).store hd2
  have HC5 := hid hc5
  have HB6 := hid (hbb _ _ (by rw [HGD.out]; exact Nat.le_refl _) HB5.out)
  have hlen := hd2.len'
  clear hb5 hbb hc5
  go_wp2
  exact bodyPost_ret (v := .agg us.toArray) (results_cell_mid Tryd.results13 _ _ gd us _ (by simp only [Array.getD]; rfl) HC5.out.range Tryd.underlying26 rfl (info26 hlen)) rfl ⟨us, hd2, rfl, HB6.out⟩
end Go.Proofs.YtilnecckgjjcgaaDoor.Dg

/- Contract of Tagged: the hash under a tag, as the plain function has it; only new memory is written. -/
import Derived.Test.YtaoehkoffhnidaaDoorDH
import Derived.Deep.Cut
import Derived.Deep.CutRange
namespace Go.Proofs.YtaoehkoffhnidaaDoor.Dg
open Go.RowKit Go
set_option linter.unusedVariables false
set_option maxRecDepth 20000
set_option linter.unusedSimpArgs false
theorem code_alloc {P : Program} {c : Code} {Q : Exit → Act → World → Prop} {a : Act} {w : World} {zs : List Value} {t : TypeId}
    (h : ∀ W, Cells W ⟨w.heap.size, 0, none⟩ zs → Free W w.heap.size → Below w.heap.size w W → W.heap.size = w.heap.size + 1 → c.wp P Q a W) : c.wp P Q a (w.alloc (.cells zs.toArray t)) :=
  h _ (cells_alloc w zs t) (free_alloc w zs.toArray t) (below_al _ _) (by simp)
/-- vs are the cells of the digest l -/
@[irreducible] def IsD (l : List UInt8) (vs : List Value) : Prop := vs = l.map vb ∧ l.length = 32
theorem isD_of {l : List UInt8} (h : l.length = 32) : IsD l (l.map vb) := by unfold IsD; exact ⟨rfl, h⟩
theorem IsD.eq {l : List UInt8} {vs : List Value} (h : IsD l vs) : vs = l.map vb := by unfold IsD at h; exact h.1
theorem IsD.len {l : List UInt8} {vs : List Value} (h : IsD l vs) : l.length = 32 := by unfold IsD at h; exact h.2
theorem IsD.len' {l : List UInt8} {vs : List Value} (h : IsD l vs) : vs.length = 32 := by rw [h.eq, List.length_map, h.len]
theorem IsD.one {l : List UInt8} {vs : List Value} (h : IsD l vs) : vs.toArray.all (·.oneCell') = true := by rw [h.eq]; exact all_oneCell_toArray (one_vb _)
theorem info26 {vs : List Value} (h : vs.length = 32) : (Tryd.prog.info? 35).map (·.size) = some vs.length := by rw [h]; kernel_rfl
/-- a cell for a digest, that the call may write -/
def Room (w : World) (g : Nat) : Prop := (∃ zs, Cells w ⟨g, 0, none⟩ zs ∧ zs.length = 32) ∧ Free w g ∧ g < w.heap.size
theorem Room.ups {w w' : World} {g : Nat} (h : Room w g) (hb : Below w.heap.size w w') : Room w' g := by
  obtain ⟨⟨zs, h1, h2⟩, h3, h4⟩ := h
  exact ⟨⟨zs, h1.ups hb, h2⟩, h3.up hb h4, Nat.lt_of_lt_of_le h4 hb.size⟩
theorem Room.mk {w W : World} {zs : List Value} (h1 : Cells W ⟨w.heap.size, 0, none⟩ zs) (h2 : zs.length = 32) (h3 : Free W w.heap.size) (h4 : W.heap.size = w.heap.size + 1) : Room W w.heap.size := ⟨⟨zs, h1, h2⟩, h3, by omega⟩
theorem Room.store {w : World} {g : Nat} {l : List UInt8} {vs : List Value} (h : Room w g) (hd : IsD l vs) : ∃ w', (storeCells ⟨g, 0, none⟩ vs).run Tryd.prog w = .ok () w' ∧ Cells w' ⟨g, 0, none⟩ vs ∧ ∀ B a, B ≤ g → Below B a w → Below B a w' := by
  obtain ⟨⟨zs, h1, h2⟩, h3, h4⟩ := h
  obtain ⟨h5, h6⟩ := store_over (P := Tryd.prog) h1 h3 hd.one (by rw [hd.len', h2])
  exact ⟨_, h5, h6, fun B a hB hb => setCells_below g hB vs 0 w hb⟩
/-- the outcome 'the digest l' -/
def RetD (w : World) (l : List UInt8) (e : Ending) (w' : World) : Prop := ∃ vs, IsD l vs ∧ e = .returned (.agg vs.toArray) ∧ Below w.heap.size w w'
theorem Sum_d (v : Value) (b : List UInt8) (w : World) (hv : BS w v b) (hk : Konst w) (hn : b.length < 1152921504606846976) : Calls Tryd.prog 64 #[v] w (RetD w (sha b)) :=
  (Sum_any v b w hv hk hn).mono fun e w' ⟨h1, h2⟩ => ⟨_, isD_of (sha_length b), h1, h2⟩
theorem IsD.bs {w : World} {g : Nat} {l : List UInt8} {vs : List Value} (hd : IsD l vs) (h : Cells w ⟨g, 0, none⟩ vs) (hg : g < w.heap.size) : BS w (.slice (some ⟨g, 0, none⟩) 32 32) l :=
  .inr ⟨_, 32, by rw [hd.len], by rw [hd.len]; omega, by unfold maxLen; omega, by rw [← hd.eq]; exact h, hg⟩
theorem Konst.alloc {w w' : World} (h : Konst w) (hb : Below w.heap.size w w') : Konst w' := h.ups hb
theorem str_bs (w : World) (s : ByteArray) (hs : s.size ≤ 1000000000) : BS (Lib.bytesWorld w 5 s) (.slice (some ⟨w.heap.size, 0, none⟩) s.size (grownCap w s.size 0 5)) s.data.toList := by
  have hl : s.data.toList.length = s.size := by simp
  refine .inr ⟨⟨w.heap.size, 0, none⟩, _, by rw [hl], by rw [hl]; exact grownCap_ge w s.size 0 5, grownCap_le_maxLen w s.size 0 5 (by unfold maxLen; omega), ?_, by rw [Lib.bytesWorld_size]; show w.heap.size < _; omega⟩
  intro j v hj
  rw [lit_add, Nat.zero_add]
  have hlt : j < s.size := by have := (List.getElem?_eq_some_iff.1 hj).1; simpa using this
  rw [Lib.bytesWorld_cell w 5 s j hlt]
  rw [List.getElem?_map, List.getElem?_eq_getElem (by rw [hl]; exact hlt)] at hj
  simp only [Option.map_some, Option.some.injEq] at hj
  rw [← hj, vb, List.getD_eq_getElem?_getD, List.getElem?_eq_getElem (by rw [hl]; exact hlt)]; rfl
theorem str_below (w : World) (s : ByteArray) : Below w.heap.size w (Lib.bytesWorld w 5 s) :=
  ⟨rfl, rfl, rfl, by rw [Lib.bytesWorld_size]; omega, fun k hk => Lib.bytesWorld_at_old w 5 s k hk⟩
set_option maxRecDepth 100000 in
set_option maxHeartbeats 4000000 in
theorem Tagged_any (tag : ByteArray) (v : Value) (b : List UInt8) (w : World) (hv : BS w v b) (hk : Konst w) (ht : tag.size ≤ 1000000000) (hn : b.length ≤ 70368744000000) :
   Calls Tryd.prog 63 #[.string tag, v] w (RetD w (tagd tag.data.toList b)) := by
  obtain ⟨p, cap, rfl⟩ := hv.form
  have HV := hid hv; have HK := hid hk; clear hv hk
  have HT := hid ht; have HN := hid hn; clear hn
  obtain ⟨len, hln⟩ : ∃ len, len = b.length := ⟨_, rfl⟩
  rw [← hln] at HV ⊢
  clear hln
  have hcv : ∀ W, (convert 9 22 (.string tag)).run Tryd.prog W = .ok (.slice (some ⟨W.heap.size, 0, none⟩) tag.size (grownCap W tag.size 0 5)) (Lib.bytesWorld W 5 tag) := fun W => Lib.run_convert_string_bytes (P := Tryd.prog) W 9 22 5 tag Tryd.underlying9 Tryd.underlying22 Tryd.underlying5
  go_enter Tryd.func63, Tryd.ntmps63
  go_upto_region 1 with (fail)
  refine code_alloc ?_
  intro W0 hc0 hf0 hb0 hs0
  have HR0 := hid (Room.mk hc0 rfl hf0 hs0)
  have HB0 := hid hb0
  obtain ⟨gd, hgd⟩ : ∃ gd, gd = w.heap.size := ⟨_, rfl⟩
  rw [← hgd] at HR0 ⊢
  have HGD := hid hgd
  clear hc0 hf0 hb0 hs0 hgd
  go_wp2_with fail
  have hbb := str_below W0 tag
  refine (Sum_d _ tag.data.toList _ (str_bs W0 tag HT.out) ((HK.out.ups HB0.out).ups hbb) (by have := HT.out; simp; omega)).mono ?_
  rintro e w1 ⟨vs, hd, rfl, hb1⟩
  have HR1 := hid (HR0.out.ups (below_tr hbb hb1))
  have HB1 := hid (below_tr HB0.out (below_tr hbb hb1))
  clear hbb hb1 hcv
  have hlen := hd.len'
  go_wp2_with fail
  refine upon_store_new (by rw [hlen]; rfl) hd.one ?_
  intro W1 hc1 hf1 hb2 hs1
  obtain ⟨g5, hg5⟩ : ∃ g5, g5 = w1.heap.size := ⟨_, rfl⟩
  rw [← hg5] at hc1 ⊢
  have HC1 := hid hc1; have HB2 := hid (below_tr HB1.out hb2); have HR2 := hid (HR1.out.ups hb2); have HG5 := hid (show g5 < W1.heap.size by rw [hs1, hg5]; omega)
  clear hc1 hf1 hb2 hs1 hg5 hlen
  go_wp2_with fail
  refine calls_alloc ?_
  intro W2 hc2 hf2 hb3 hs2
  have HB3 := hid (below_tr HB2.out hb3); have HR3 := hid (HR2.out.ups hb3)
  have HV2 := hid (HV.out.ups HB3.out)
  have HS := hid (hd.bs (HC1.out.ups hb3) (Nat.lt_of_lt_of_le HG5.out hb3.size))
  refine (concat_any W2 W1.heap.size _ _ (sha tag.data.toList) b hc2 HS.out HV2.out (by rw [sha_length]; omega) (by rw [List.length_append, sha_length]; have := HN.out; omega)).mono ?_
  clear hc2 hf2 hb3 hs2
  rintro e w3 ⟨v3, rfl, hv3, hb4⟩
  have HB4 := hid (below_tr HB3.out hb4); have HR4 := hid (HR3.out.ups hb4)
  have HV3 := hid hv3
  clear hb4 hv3 hd
  go_wp2_with fail
  refine (Sum_d v3 _ _ HV3.out (HK.out.ups HB4.out) (by rw [List.length_append, sha_length]; have := HN.out; omega)).mono ?_
  rintro e w4 ⟨us, hd, rfl, hb5⟩
  have HB5 := hid (below_tr HB4.out hb5)
  obtain ⟨w5, hst, hc5, hbb⟩ := (HR4.out.ups hb5).store hd
  have HC5 := hid hc5
  have HB6 := hid (hbb _ _ (by rw [HGD.out]; exact Nat.le_refl _) HB5.out)
  have hlen := hd.len'
  clear hb5 hbb hc5
  go_wp2
  exact bodyPost_ret (v := .agg us.toArray) (results_cell_mid Tryd.results63 _ _ gd us _ (by simp only [Array.getD]; rfl) HC5.out.range Tryd.underlying35 rfl (info26 hlen)) rfl ⟨us, hd, rfl, HB6.out⟩
end Go.Proofs.YtaoehkoffhnidaaDoor.Dg

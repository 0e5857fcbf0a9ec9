/- Contract of the examples that every statement asks for: they come out right; only new memory is written. -/
import Derived.Test.YtilnecckgjjcgaaDoorDSq
import Derived.Lib.SlBytesConst
namespace Go.Proofs.YtilnecckgjjcgaaDoor.Dg
open Go.RowKit Go
set_option linter.unusedVariables false
set_option linter.unusedSimpArgs false
def oneD : List UInt8 := 1 :: List.replicate 31 0
theorem isD_one : IsD oneD (oneD.map vb) := isD_of (by simp [oneD])
theorem bs_abc {w W : World} (h : Cells W ⟨w.heap.size, 0, none⟩ ([97, 98, 99].map vb)) (hs : w.heap.size < W.heap.size) : BS W (.slice (some ⟨w.heap.size, 0, none⟩) 3 3) [97, 98, 99] := .inr ⟨_, 3, rfl, by simp, by unfold maxLen; omega, h, hs⟩
theorem byte_of {W : World} {g : Nat} {l : List UInt8} {us : List Value} (h : Cells W ⟨g, 0, none⟩ us) (hd : IsD l us) {j : Nat} {c : UInt8} (hc : (l.take 4)[j]? = some c) : W.cell? ⟨g, j, none⟩ = some (.int .u8 c.toNat) := by
  rw [hd.eq] at h
  have h1 : l[j]? = some c := by
    rw [List.getElem?_take] at hc
    split at hc
    · exact hc
    · cases hc
  exact h.at0 (by rw [List.getElem?_map, h1]; rfl)
theorem calls_alloc_drew {P : Program} {f : FuncId} {args : Array Value} {w : World} {zs : List Value} {t : TypeId} {Q : Ending → World → Prop}
    (h : ∀ W, Cells W ⟨w.heap.size, 0, none⟩ zs → Below w.heap.size w W → W.heap.size = w.heap.size + 1 → Calls P f args W Q) : Calls P f args (w.alloc (.cells zs.toArray t)).drew Q :=
  h _ (cells_alloc w zs t).drew (below_al _ _).drew (by simp)
theorem abc_bytes {W : World} {g : Nat} {v : List Value} (h : Cells W ⟨g, 0, none⟩ v) (hd : IsD (sha [97, 98, 99]) v) : W.cell? ⟨g, 0, none⟩ = some (.int .u8 186) ∧ W.cell? ⟨g, 1, none⟩ = some (.int .u8 120) ∧ W.cell? ⟨g, 2, none⟩ = some (.int .u8 22) ∧ W.cell? ⟨g, 3, none⟩ = some (.int .u8 191) :=
  ⟨byte_of h hd (c := 0xba) (by rw [sha_abc]; rfl), byte_of h hd (c := 0x78) (by rw [sha_abc]; rfl), byte_of h hd (c := 0x16) (by rw [sha_abc]; rfl), byte_of h hd (c := 0xbf) (by rw [sha_abc]; rfl)⟩
theorem nil_bytes {W : World} {g : Nat} {v : List Value} (h : Cells W ⟨g, 0, none⟩ v) (hd : IsD (sha []) v) : W.cell? ⟨g, 0, none⟩ = some (.int .u8 227) ∧ W.cell? ⟨g, 1, none⟩ = some (.int .u8 176) ∧ W.cell? ⟨g, 2, none⟩ = some (.int .u8 196) ∧ W.cell? ⟨g, 3, none⟩ = some (.int .u8 66) :=
  ⟨byte_of h hd (c := 0xe3) (by rw [sha_nil]; rfl), byte_of h hd (c := 0xb0) (by rw [sha_nil]; rfl), byte_of h hd (c := 0xc4) (by rw [sha_nil]; rfl), byte_of h hd (c := 0x42) (by rw [sha_nil]; rfl)⟩
theorem calls_mark {P : Program} {f : FuncId} {args : Array Value} {w : World} {zs : List Value} {t : TypeId} {fr : Nat × Nat} {Q : Ending → World → Prop}
    (h : ∀ W, Cells W ⟨w.heap.size, 0, none⟩ zs → Below w.heap.size w W → W.heap.size = w.heap.size + 1 → Calls P f args W Q) : Calls P f args (w.alloc (.cells zs.toArray t fr)) Q :=
  h _ (fun j v hj => by rw [lit_add, Nat.zero_add, World.cell?_alloc_mark]; simpa using hj) (below_al _ _) (by simp)
theorem bs64 {W : World} {g : Nat} (h : W.heap[g]? = some (.cells ((List.replicate 64 (0 : UInt8)).map vb).toArray 5 (0, 0))) : BS W (.slice (some ⟨g, 0, none⟩) 64 64) (zerosD ++ zerosD) := by
  have hc := cells_of_block h
  have e : zerosD ++ zerosD = List.replicate 64 (0 : UInt8) := by decide
  rw [e]
  exact .inr ⟨_, 64, by rw [List.length_replicate], by rw [List.length_replicate]; omega, by unfold maxLen; omega, hc, hc.lt (by simp)⟩
set_option maxRecDepth 100000 in
set_option maxHeartbeats 4000000 in
theorem sane_any (w : World) (hk : Konst w) : Calls Tryd.prog 9 #[] w fun e w' => e = .returned (.bool true) ∧ Below w.heap.size w w' := by
  have HK := hid hk; clear hk
  have hcv := Lib.run_convert_bytes_const (P := Tryd.prog) w 22 5 #[.int .u8 97, .int .u8 98, .int .u8 99] 3 3 Tryd.underlying22 Tryd.underlying5
  go_enter Tryd.func9, Tryd.ntmps9
  go_wp2_with fail
  refine calls_mark (zs := [.int .u8 97, .int .u8 98, .int .u8 99]) ?_
  intro W0 hc0 hb0 hs0
  have HC0 := hid hc0; have HB0 := hid hb0; have HS0 := hid hs0
  clear hc0 hb0 hs0 hcv
  refine (Sum_d _ [97, 98, 99] _ (bs_abc HC0.out (by rw [HS0.out]; omega)) (HK.out.ups HB0.out) (by simp)).mono ?_
  rintro e w1 ⟨v1, hd1, rfl, hb1⟩
  have HB1 := hid (below_tr HB0.out hb1)
  clear hb1
  go_wp2_with fail
  refine (Sum_d _ [] _ (.inl ⟨rfl, rfl⟩) (HK.out.ups HB1.out) (by simp)).mono ?_
  rintro e w2 ⟨v2, hd2, rfl, hb2⟩
  have HB2 := hid (below_tr HB1.out hb2)
  clear hb2
  go_wp2_with (first | (refine wpl_alloc (some 1) rfl rfl rfl ?_; intro w3 g1 hg1 hr1 hb3 hs3; have HR1 := hid hr1; have HB3 := hid (below_tr HB2.out hb3); have HG1 := hid hg1; have HS3 := hid hs3; clear hr1 hs3 hg1 hb3) | (refine wpl_alloc (some 2) rfl rfl rfl ?_; intro w4 g2 hg2 hr2 hb4 hs4; have HR2 := hid hr2; have HR1' := hid (HR1.out.ups hb4); have HB4 := hid (below_tr HB3.out hb4); have HG2 := hid hg2; clear hr2 hb4 hs4 hg2) | (refine wpl_put (.tmp 1) (.tmp 12) rfl rfl g1 v1 (sha [97, 98, 99]) rfl rfl HR1'.out hd1 ?_; intro w5 hc5 hr5 ho5; have HC5 := hid hc5; have HO5 := hid ho5; clear hc5 hr5 ho5) | (refine wpl_put (.tmp 2) (.tmp 13) rfl rfl g2 v2 (sha []) rfl rfl (HO5.out.room HR2.out (by have h1 := HG1.out; have h2 := HG2.out; have h3 := HS3.out; omega)) hd2 ?_; intro w6 hc6 hr6 ho6; have HC6 := hid hc6; have HO6 := hid ho6; clear hc6 hr6 ho6))
  have HG12 := hid (show g1 ≠ g2 by have h1 := HG1.out; have h2 := HG2.out; have h3 := HS3.out; omega)
  have HGW := hid (show w.heap.size ≤ g1 ∧ w.heap.size ≤ g2 ∧ w.heap.size ≤ w4.heap.size by have h1 := HG1.out; have h2 := HG2.out; have h3 := HB2.out.size; have h4 := HB3.out.size; have h5 := HB4.out.size; omega)
  have HB5 := hid (HO5.out.below HB4.out HGW.out.2.2 HGW.out.1)
  have HB6 := hid (HO6.out.below HB5.out (by rw [HO5.out.2]; exact HGW.out.2.2) HGW.out.2.1)
  have HA := hid (HO6.out.cells HC5.out HG12.out)
  clear HC5 HO5 HO6 HB5 HB4 HB3 HR1' HR2 HR1
  refine (Path_bad [] _ 0 _ (.inr (by simp)) (DS.nil _)).mono ?_
  rintro e w7 ⟨rfl, rfl⟩
  go_wp2_with fail
  refine (Climb_bad 0 2 0 zerosD (zerosD.map vb) none 0 _ (.inr (.inr (.inr (.inr (by rw [show (0 : Int).toNat = 0 from rfl, show (2 : Int).toNat = 2 from rfl, plen_lo 0 2 (by omega) (by decide)]; omega))))) isD_zeros (by omega) (by omega)).mono ?_
  rintro e w8 ⟨v8, hd8, rfl, hb8⟩
  have HB8 := hid (below_tr HB6.out hb8); have HA8 := hid (HA.out.ups hb8); have HC8 := hid (HC6.out.ups hb8)
  have HL8 := hid (show g1 < w8.heap.size ∧ g2 < w8.heap.size from ⟨HA8.out.lt (by intro h; have := hd1.len'; rw [h] at this; simp at this), HC8.out.lt (by intro h; have := hd2.len'; rw [h] at this; simp at this)⟩)
  clear hb8 HA HC6
  go_wp2_with (first | (refine wpl_alloc (some 5) rfl rfl rfl ?_; intro w9 g5 hg5 hr5 hb9 hs9; have HR5 := hid hr5; have HB9 := hid (below_tr HB8.out hb9); have HA9 := hid (HA8.out.ups hb9); have HC9 := hid (HC8.out.ups hb9); have HG5 := hid (show g1 ≠ g5 ∧ g2 ≠ g5 ∧ w.heap.size ≤ g5 ∧ w.heap.size ≤ w9.heap.size from ⟨by have := HL8.out; omega, by have := HL8.out; omega, by have := HB8.out.size; omega, by have := HB8.out.size; omega⟩); clear hr5 hb9 hs9 hg5) | (refine wpl_put (.tmp 5) (.tmp 21) rfl rfl g5 v8 zerosD rfl rfl HR5.out hd8 ?_; intro w10 hc10 hr10 ho10; have HB10 := hid (ho10.below HB9.out HG5.out.2.2.2 HG5.out.2.2.1); have HA10 := hid (ho10.cells HA9.out HG5.out.1); have HC10 := hid (ho10.cells HC9.out HG5.out.2.1); clear hc10 hr10 ho10))
  refine (Climb_ok [] 1 0 oneD (oneD.map vb) _ _ (by rw [plen_one 0 1 (by omega)]; rfl) (by omega) (by omega) (by omega) (DS.nil _) isD_one (HK.out.ups HB10.out)).mono ?_
  rintro e w11 ⟨v11, hd11, rfl, hb11⟩
  rw [clm_one _ _ _ _ (by omega)] at hd11
  have HB11 := hid (below_tr HB10.out hb11); have HA11 := hid (HA10.out.ups hb11); have HC11 := hid (HC10.out.ups hb11)
  have HL11 := hid (show g1 < w11.heap.size ∧ g2 < w11.heap.size from ⟨HA11.out.lt (by intro h; have := hd1.len'; rw [h] at this; simp at this), HC11.out.lt (by intro h; have := hd2.len'; rw [h] at this; simp at this)⟩)
  clear hb11
  go_wp2_with (first | (refine wpl_alloc (some 7) rfl rfl rfl ?_; intro w12 g7 hg7 hr7 hb12 hs12; have HR7 := hid hr7; have HB12 := hid (below_tr HB11.out hb12); have HA12 := hid (HA11.out.ups hb12); have HC12 := hid (HC11.out.ups hb12); have HG7 := hid (show g1 ≠ g7 ∧ g2 ≠ g7 ∧ w.heap.size ≤ g7 ∧ w.heap.size ≤ w12.heap.size from ⟨by have := HL11.out; omega, by have := HL11.out; omega, by have := HB11.out.size; omega, by have := HB11.out.size; omega⟩); clear hr7 hb12 hs12 hg7) | (refine wpl_put (.tmp 7) (.tmp 26) rfl rfl g7 v11 (tagd leafS oneD) rfl rfl HR7.out hd11 ?_; intro w13 hc13 hr13 ho13; have HB13 := hid (ho13.below HB12.out HG7.out.2.2.2 HG7.out.2.2.1); have hA := ho13.cells HA12.out HG7.out.1; have hC := ho13.cells HC12.out HG7.out.2.1; have HC13 := hid hc13; obtain ⟨ha0, ha1, ha2, ha3⟩ := abc_bytes hA hd1; obtain ⟨hb0, hb1, hb2, hb3⟩ := nil_bytes hC hd2; clear hc13 hr13 ho13 hA hC))
  have hu := Tryd.underlying26
  have hi7 := info26 hd11.len'
  have HK13 := hid (HK.out.ups HB13.out)
  clear ha0 ha1 ha2 ha3 hb0 hb1 hb2 hb3 HC11 HA11 HB12 HC12 HA12 HR7
  obtain ⟨mk, hmk'⟩ := Classical.axiomOfChoice (fun W => make_bytes W 64 64 rfl (by omega))
  have hmk := fun W => (hmk' W).1
  have HMK := hid (fun W => (hmk' W).2)
  clear hmk'
  go_region_held3 (fun W => W.rangeAt g7 0 v11) (first | exact HC13.out.range | exact (Cells.ups (w := w13.drew) HC13.out (below_al _ _)).range | exact HC14.out.range | exact HC15.out.range | exact HC16.out.range | exact (Cells.ups HC16.out (HMK.out _).2.1).range | exact HC17.out.range | exact (Cells.ups HC17.out (HMK.out _).2.1).range | exact HC18.out.range) ((first
    | (go_at_call 22; refine (Chain_any zerosD zerosD (zerosD.map vb) (zerosD.map vb) w16 isD_zeros isD_zeros HK16.out).mono ?_; rintro e w17 ⟨v17, hd17, rfl, hb17⟩; have HB17 := hid (below_tr HB16.out hb17); have HC17 := hid (HC16.out.ups hb17); have HK17 := hid (HK16.out.ups hb17); have HZ := hid (bs64 (HMK.out w17).1); clear hb17)
    | (go_at_call 22; refine (Chain_any zerosD zerosD (zerosD.map vb) (zerosD.map vb) (mk w16) isD_zeros isD_zeros (HK16.out.ups (HMK.out w16).2.1)).mono ?_; rintro e w17 ⟨v17, hd17, rfl, hb17'⟩; have hb17 := below_tr (HMK.out w16).2.1 hb17'; have HB17 := hid (below_tr HB16.out hb17); have HC17 := hid (HC16.out.ups hb17); have HK17 := hid (HK16.out.ups hb17); have HZ := hid ((bs64 (HMK.out w16).1).ups hb17'); clear hb17 hb17')
    | (go_at_call_of 15 (Value.slice none 0 0); refine (tree_any 0 [] _ _ (by simp) (DS.nil _) HK14.out).mono ?_; rintro e w15 ⟨v15, hd15, rfl, hb15⟩; rw [tree_nil] at hd15; have HB15 := hid (below_tr HB14.out hb15); have HC15 := hid (HC14.out.ups hb15); have HK15 := hid (HK14.out.ups hb15); clear hb15)
    | (go_at_call 15; refine calls_alloc_drew (w := w13) (zs := oneD.map vb) ?_; intro W hc hb hs; refine (tree_any 1 [oneD] _ W (by simp) ⟨by simp [oneD], .inr ⟨_, 0, 1, rfl, by simp, by omega, by simpa using hc, by rw [hs]; omega⟩⟩ (HK13.out.ups hb)).mono ?_; rintro e w14 ⟨v14, hd14, rfl, hb14⟩; rw [tree_one] at hd14; have HB14 := hid (below_tr HB13.out (below_tr hb hb14)); have HC14 := hid (HC13.out.ups (below_tr hb hb14)); have HK14 := hid (HK13.out.ups (below_tr hb hb14)); have hq1 := eqD_true hd11 hd14 rfl; clear hb14 hc hb hs)
    | (go_at_call_of 12 (Value.slice none 0 0); refine (Tagged_any ⟨#[101, 109, 112, 116, 121]⟩ (.slice none 0 0) [] _ (.inl ⟨rfl, rfl⟩) HK15.out (by decide) (by simp)).mono ?_; rintro e w16 ⟨v16, hd16, rfl, hb16⟩; have HB16 := hid (below_tr HB15.out hb16); have HC16 := hid (HC15.out.ups hb16); have HK16 := hid (HK15.out.ups hb16); have hq2 := eqD_true hd15 hd16 rfl; clear hb16)
    | (go_at_call 12; refine (Tagged_any ⟨#[99, 104, 97, 105, 110]⟩ _ (zerosD ++ zerosD) (mk w17) HZ.out (HK17.out.ups (HMK.out w17).2.1) (by decide) (by simp [zerosD])).mono ?_; rintro e w18 ⟨v18, hd18, rfl, hb18'⟩; have hb18 := below_tr (HMK.out w17).2.1 hb18'; have HB18 := hid (below_tr HB17.out hb18); have HC18 := hid (HC17.out.ups hb18); have hq3 := eqD_true hd17 hd18 rfl; clear hb18 hb18')
    | (go_at_call 12; refine (Tagged_any ⟨#[99, 104, 97, 105, 110]⟩ _ (zerosD ++ zerosD) w17 HZ.out HK17.out (by decide) (by simp [zerosD])).mono ?_; rintro e w18 ⟨v18, hd18, rfl, hb18⟩; have HB18 := hid (below_tr HB17.out hb18); have HC18 := hid (HC17.out.ups hb18); have hq3 := eqD_true hd17 hd18 rfl; clear hb18)))
  all_goals
    go_wp2
    go_ret
    exact ⟨rfl, HB18.out⟩
end Go.Proofs.YtilnecckgjjcgaaDoor.Dg

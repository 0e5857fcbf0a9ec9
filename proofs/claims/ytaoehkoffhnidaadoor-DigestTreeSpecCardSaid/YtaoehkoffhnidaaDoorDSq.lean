/- Steps that make or write the cells of a digest, with the world behind each under a name of its own. -/
import Derived.Test.YtaoehkoffhnidaaDoorDT
import Derived.Test.YtaoehkoffhnidaaDoorDPure
import Derived.Test.YtaoehkoffhnidaaDoorDEqs
import Derived.Test.YtaoehkoffhnidaaDoorRE
import Derived.Lib.SlBytesConst
import Derived.Test.YtaoehkoffhnidaaDoorDOb
namespace Go.Proofs.YtaoehkoffhnidaaDoor.Dg
open Go.RowKit Go
set_option linter.unusedVariables false
set_option maxRecDepth 20000
set_option linter.unusedSimpArgs false
theorem Only.konst {w W : World} {g : Nat} (h : Only g w W) (hk : Konst w) (h0 : 2 < g) : Konst W := hk.grown h.1 h0
theorem Only.below {w W w0 : World} {g B : Nat} (h : Only g w W) (hb : Below B w0 w) (hB : B ≤ w.heap.size) (hg : B ≤ g) : Below B w0 W := hb.grown h.1 hB (fun i e => by cases e; exact hg)
theorem Only.ds {w W : World} {g : Nat} {v : Value} {ds : List (List UInt8)} (h : Only g w W) (hd : DS w v ds) (hv : ∀ gl o cap n, v = .slice (some ⟨gl, o, none⟩) n cap → gl ≠ g) : DS W v ds := by
  obtain ⟨h1, h2 | ⟨gl, o, cap, h3, h4, h5, h6, h7⟩⟩ := hd
  · exact ⟨h1, .inl h2⟩
  · exact ⟨h1, .inr ⟨gl, o, cap, h3, h4, h5, h.cells h6 (hv _ _ _ _ h3), by rw [h.2]; exact h7⟩⟩
section
variable {ops : Array Oper} {rest : List Oper} {o : Oper} {a : Act} {w : World} {Q : Exit → Act → World → Prop}
/-- a new variable for a digest -/
theorem wpl_alloc (d : Option Tmp) (hg : o.guard = none) (ho : o.op = .alloc 35) (hd : o.dst = d)
    (h : ∀ W g, g = w.heap.size → Room W g → Below w.heap.size w W → W.heap.size = w.heap.size + 1 → wpList Tryd.prog ops Q rest (a.put d (.pointer (some ⟨g, 0, none⟩))) W) : wpList Tryd.prog ops Q (o :: rest) a w := by
  subst hd
  refine wpList_plain hg fun K hK => ?_
  have hh := hK _ _ (h (w.alloc (.cells (zerosD.map vb).toArray 35)) _ rfl (Room.mk (cells_alloc _ _ _) (by simp [zerosD]) (free_alloc _ _ _) (by simp)) (below_al _ _) (by simp))
  unfold Oper.wp
  go_simp
  exact hh
/-- a digest is written -/
theorem wpl_put (p x : Operand) (hg : o.guard = none) (ho : o.op = .store 35 p x) (g : Nat) (us : List Value) (l : List UInt8) (hp : a.eval p = .pointer (some ⟨g, 0, none⟩)) (hx : a.eval x = .agg us.toArray) (hr : Room w g) (hd : IsD l us)
    (h : ∀ W, Cells W ⟨g, 0, none⟩ us → Room W g → Only g w W → wpList Tryd.prog ops Q rest (a.put o.dst undef) W) : wpList Tryd.prog ops Q (o :: rest) a w := by
  obtain ⟨h1, h2, _⟩ := hr.put hd
  refine wpList_store_mid hg 35 p x ho g 0 us.toArray hp hx (by rw [List.size_toArray, hd.len']; exact hr.there) (by rw [List.size_toArray]; exact info26 hd.len') hd.one ?_
  exact h _ h1 h2 (only_sets us 0)
end
end Go.Proofs.YtaoehkoffhnidaaDoor.Dg
namespace Go.Proofs.YtaoehkoffhnidaaDoor.Dg
open Go.RowKit Go
set_option linter.unusedVariables false
set_option maxRecDepth 20000
set_option linter.unusedSimpArgs false
def oneD : List UInt8 := 1 :: List.replicate 31 0
theorem isD_one : IsD oneD (oneD.map vb) := isD_of (by simp [oneD])
theorem bs_abc {w W : World} (h : Cells W ⟨w.heap.size, 0, none⟩ ([97, 98, 99].map vb)) (hs : w.heap.size < W.heap.size) : BS W (.slice (some ⟨w.heap.size, 0, none⟩) 3 3) [97, 98, 99] := .inr ⟨_, 3, rfl, by simp, by unfold maxLen; omega, h, hs⟩
theorem byte_of {W : World} {g : Nat} {l : List UInt8} {us : List Value} (h : Cells W ⟨g, 0, none⟩ us) (hd : IsD l us) {j : Nat} {c : UInt8} (hc : (l.take 4)[j]? = some c) : W.cell? ⟨g, j, none⟩ = some (.int .u8 c.toNat) := by
  rw [hd.eq] at h
  have h1 : l[j]? = some c := by
    rw [List.getElem?_take] at hc
    split at hc
    · exact hc
    · cases hc
  exact h.at0 (by rw [List.getElem?_map, h1]; rfl)
theorem calls_alloc_drew {P : Program} {f : FuncId} {args : Array Value} {w : World} {zs : List Value} {t : TypeId} {Q : Ending → World → Prop}
    (h : ∀ W, Cells W ⟨w.heap.size, 0, none⟩ zs → Below w.heap.size w W → W.heap.size = w.heap.size + 1 → Calls P f args W Q) : Calls P f args (w.alloc (.cells zs.toArray t)).drew Q :=
  h _ (cells_alloc w zs t).drew (below_al _ _).drew (by simp)
theorem abc_bytes {W : World} {g : Nat} {v : List Value} (h : Cells W ⟨g, 0, none⟩ v) (hd : IsD (sha [97, 98, 99]) v) : W.cell? ⟨g, 0, none⟩ = some (.int .u8 186) ∧ W.cell? ⟨g, 1, none⟩ = some (.int .u8 120) ∧ W.cell? ⟨g, 2, none⟩ = some (.int .u8 22) ∧ W.cell? ⟨g, 3, none⟩ = some (.int .u8 191) :=
  ⟨byte_of h hd (c := 0xba) (by rw [sha_abc]; rfl), byte_of h hd (c := 0x78) (by rw [sha_abc]; rfl), byte_of h hd (c := 0x16) (by rw [sha_abc]; rfl), byte_of h hd (c := 0xbf) (by rw [sha_abc]; rfl)⟩
theorem nil_bytes {W : World} {g : Nat} {v : List Value} (h : Cells W ⟨g, 0, none⟩ v) (hd : IsD (sha []) v) : W.cell? ⟨g, 0, none⟩ = some (.int .u8 227) ∧ W.cell? ⟨g, 1, none⟩ = some (.int .u8 176) ∧ W.cell? ⟨g, 2, none⟩ = some (.int .u8 196) ∧ W.cell? ⟨g, 3, none⟩ = some (.int .u8 66) :=
  ⟨byte_of h hd (c := 0xe3) (by rw [sha_nil]; rfl), byte_of h hd (c := 0xb0) (by rw [sha_nil]; rfl), byte_of h hd (c := 0xc4) (by rw [sha_nil]; rfl), byte_of h hd (c := 0x42) (by rw [sha_nil]; rfl)⟩
theorem calls_mark {P : Program} {f : FuncId} {args : Array Value} {w : World} {zs : List Value} {t : TypeId} {fr : Nat × Nat} {Q : Ending → World → Prop}
    (h : ∀ W, Cells W ⟨w.heap.size, 0, none⟩ zs → Below w.heap.size w W → W.heap.size = w.heap.size + 1 → Calls P f args W Q) : Calls P f args (w.alloc (.cells zs.toArray t fr)) Q :=
  h _ (fun j v hj => by rw [lit_add, Nat.zero_add, World.cell?_alloc_mark]; simpa using hj) (below_al _ _) (by simp)
theorem bs64 {W : World} {g : Nat} (h : W.heap[g]? = some (.cells ((List.replicate 64 (0 : UInt8)).map vb).toArray 5 (0, 0))) : BS W (.slice (some ⟨g, 0, none⟩) 64 64) (zerosD ++ zerosD) := by
  have hc := cells_of_block h
  have e : zerosD ++ zerosD = List.replicate 64 (0 : UInt8) := by decide
  rw [e]
  exact .inr ⟨_, 64, by rw [List.length_replicate], by rw [List.length_replicate]; omega, by unfold maxLen; omega, hc, hc.lt (by simp)⟩
set_option maxRecDepth 100000 in
set_option maxHeartbeats 4000000 in
theorem sane_any (w : World) (hk : Konst w) : Calls Tryd.prog 32 #[] w fun e w' => e = .returned (.bool true) ∧ Below w.heap.size w w' := by
  have HK := hid hk; clear hk
  have hcv := Lib.run_convert_bytes_const (P := Tryd.prog) w 22 5 #[.int .u8 97, .int .u8 98, .int .u8 99] 3 3 Tryd.underlying22 Tryd.underlying5
  go_enter Tryd.func32, Tryd.ntmps32
  go_wp2_with fail
  refine calls_mark (zs := [.int .u8 97, .int .u8 98, .int .u8 99]) ?_
  intro W0 hc0 hb0 hs0
  have HC0 := hid hc0; have HB0 := hid hb0; have HS0 := hid hs0
  clear hc0 hb0 hs0 hcv
  refine (Sum_d _ [97, 98, 99] _ (bs_abc HC0.out (by rw [HS0.out]; omega)) (HK.out.ups HB0.out) (by simp)).mono ?_
  rintro e w1 ⟨v1, hd1, rfl, hb1⟩
  have HB1 := hid (below_tr HB0.out hb1)
  clear hb1
  go_wp2_with fail
  refine (Sum_d _ [] _ (.inl ⟨rfl, rfl⟩) (HK.out.ups HB1.out) (by simp)).mono ?_
  rintro e w2 ⟨v2, hd2, rfl, hb2⟩
  have HB2 := hid (below_tr HB1.out hb2)
  clear hb2
  go_wp2_with (first | (refine wpl_alloc (some 1) rfl rfl rfl ?_; intro w3 g1 hg1 hr1 hb3 hs3; have HR1 := hid hr1; have HB3 := hid (below_tr HB2.out hb3); have HG1 := hid hg1; have HS3 := hid hs3; clear hr1 hs3 hg1 hb3) | (refine wpl_alloc (some 2) rfl rfl rfl ?_; intro w4 g2 hg2 hr2 hb4 hs4; have HR2 := hid hr2; have HR1' := hid (HR1.out.ups hb4); have HB4 := hid (below_tr HB3.out hb4); have HG2 := hid hg2; clear hr2 hb4 hs4 hg2) | (refine wpl_put (.tmp 1) (.tmp 12) rfl rfl g1 v1 (sha [97, 98, 99]) rfl rfl HR1'.out hd1 ?_; intro w5 hc5 hr5 ho5; have HC5 := hid hc5; have HO5 := hid ho5; clear hc5 hr5 ho5) | (refine wpl_put (.tmp 2) (.tmp 13) rfl rfl g2 v2 (sha []) rfl rfl (HO5.out.room HR2.out (by have h1 := HG1.out; have h2 := HG2.out; have h3 := HS3.out; omega)) hd2 ?_; intro w6 hc6 hr6 ho6; have HC6 := hid hc6; have HO6 := hid ho6; clear hc6 hr6 ho6))
  have HG12 := hid (show g1 ≠ g2 by have h1 := HG1.out; have h2 := HG2.out; have h3 := HS3.out; omega)
  have HGW := hid (show w.heap.size ≤ g1 ∧ w.heap.size ≤ g2 ∧ w.heap.size ≤ w4.heap.size by have h1 := HG1.out; have h2 := HG2.out; have h3 := HB2.out.size; have h4 := HB3.out.size; have h5 := HB4.out.size; omega)
  have HB5 := hid (HO5.out.below HB4.out HGW.out.2.2 HGW.out.1)
  have HB6 := hid (HO6.out.below HB5.out (by rw [HO5.out.2]; exact HGW.out.2.2) HGW.out.2.1)
  have HA := hid (HO6.out.cells HC5.out HG12.out)
  clear HC5 HO5 HO6 HB5 HB4 HB3 HR1' HR2 HR1
  refine (Path_bad [] _ 0 _ (.inr (by simp)) (DS.nil _)).mono ?_
  rintro e w7 ⟨rfl, rfl⟩
  go_wp2_with fail
  refine (Climb_bad 0 2 0 zerosD (zerosD.map vb) none 0 _ (.inr (.inr (.inr (.inr (by rw [show (0 : Int).toNat = 0 from rfl, show (2 : Int).toNat = 2 from rfl, plen_lo 0 2 (by omega) (by decide)]; omega))))) isD_zeros (by omega) (by omega)).mono ?_
  rintro e w8 ⟨v8, hd8, rfl, hb8⟩
  have HB8 := hid (below_tr HB6.out hb8); have HA8 := hid (HA.out.ups hb8); have HC8 := hid (HC6.out.ups hb8)
  have HL8 := hid (show g1 < w8.heap.size ∧ g2 < w8.heap.size from ⟨HA8.out.lt (by intro h; have := hd1.len'; rw [h] at this; simp at this), HC8.out.lt (by intro h; have := hd2.len'; rw [h] at this; simp at this)⟩)
  clear hb8 HA HC6
  go_wp2_with (first | (refine wpl_alloc (some 5) rfl rfl rfl ?_; intro w9 g5 hg5 hr5 hb9 hs9; have HR5 := hid hr5; have HB9 := hid (below_tr HB8.out hb9); have HA9 := hid (HA8.out.ups hb9); have HC9 := hid (HC8.out.ups hb9); have HG5 := hid (show g1 ≠ g5 ∧ g2 ≠ g5 ∧ w.heap.size ≤ g5 ∧ w.heap.size ≤ w9.heap.size from ⟨by have := HL8.out; omega, by have := HL8.out; omega, by have := HB8.out.size; omega, by have := HB8.out.size; omega⟩); clear hr5 hb9 hs9 hg5) | (refine wpl_put (.tmp 5) (.tmp 21) rfl rfl g5 v8 zerosD rfl rfl HR5.out hd8 ?_; intro w10 hc10 hr10 ho10; have HB10 := hid (ho10.below HB9.out HG5.out.2.2.2 HG5.out.2.2.1); have HA10 := hid (ho10.cells HA9.out HG5.out.1); have HC10 := hid (ho10.cells HC9.out HG5.out.2.1); clear hc10 hr10 ho10))
  refine (Climb_ok [] 1 0 oneD (oneD.map vb) _ _ (by rw [plen_one 0 1 (by omega)]; rfl) (by omega) (by omega) (by omega) (DS.nil _) isD_one (HK.out.ups HB10.out)).mono ?_
  rintro e w11 ⟨v11, hd11, rfl, hb11⟩
  rw [clm_one _ _ _ _ (by omega)] at hd11
  have HB11 := hid (below_tr HB10.out hb11); have HA11 := hid (HA10.out.ups hb11); have HC11 := hid (HC10.out.ups hb11)
  have HL11 := hid (show g1 < w11.heap.size ∧ g2 < w11.heap.size from ⟨HA11.out.lt (by intro h; have := hd1.len'; rw [h] at this; simp at this), HC11.out.lt (by intro h; have := hd2.len'; rw [h] at this; simp at this)⟩)
  clear hb11
  go_wp2_with (first | (refine wpl_alloc (some 7) rfl rfl rfl ?_; intro w12 g7 hg7 hr7 hb12 hs12; have HR7 := hid hr7; have HB12 := hid (below_tr HB11.out hb12); have HA12 := hid (HA11.out.ups hb12); have HC12 := hid (HC11.out.ups hb12); have HG7 := hid (show g1 ≠ g7 ∧ g2 ≠ g7 ∧ w.heap.size ≤ g7 ∧ w.heap.size ≤ w12.heap.size from ⟨by have := HL11.out; omega, by have := HL11.out; omega, by have := HB11.out.size; omega, by have := HB11.out.size; omega⟩); clear hr7 hb12 hs12 hg7) | (refine wpl_put (.tmp 7) (.tmp 26) rfl rfl g7 v11 (tagd leafS oneD) rfl rfl HR7.out hd11 ?_; intro w13 hc13 hr13 ho13; have HB13 := hid (ho13.below HB12.out HG7.out.2.2.2 HG7.out.2.2.1); have hA := ho13.cells HA12.out HG7.out.1; have hC := ho13.cells HC12.out HG7.out.2.1; have HC13 := hid hc13; obtain ⟨ha0, ha1, ha2, ha3⟩ := abc_bytes hA hd1; obtain ⟨hb0, hb1, hb2, hb3⟩ := nil_bytes hC hd2; clear hc13 hr13 ho13 hA hC))
  have hu := Tryd.underlying35
  have hi7 := info26 hd11.len'
  have HK13 := hid (HK.out.ups HB13.out)
  clear ha0 ha1 ha2 ha3 hb0 hb1 hb2 hb3 HC11 HA11 HB12 HC12 HA12 HR7
  obtain ⟨mk, hmk'⟩ := Classical.axiomOfChoice (fun W => make_bytes W 64 64 rfl (by omega))
  have hmk := fun W => (hmk' W).1
  have HMK := hid (fun W => (hmk' W).2)
  clear hmk'
  go_region_held3 (fun W => W.rangeAt g7 0 v11) (first | exact HC13.out.range | exact (Cells.ups (w := w13.drew) HC13.out (below_al _ _)).range | exact HC14.out.range | exact HC15.out.range | exact HC16.out.range | exact (Cells.ups HC16.out (HMK.out _).2.1).range | exact HC17.out.range | exact (Cells.ups HC17.out (HMK.out _).2.1).range | exact HC18.out.range) ((first
    | (go_at_call 65; refine (Chain_any zerosD zerosD (zerosD.map vb) (zerosD.map vb) w16 isD_zeros isD_zeros HK16.out).mono ?_; rintro e w17 ⟨v17, hd17, rfl, hb17⟩; have HB17 := hid (below_tr HB16.out hb17); have HC17 := hid (HC16.out.ups hb17); have HK17 := hid (HK16.out.ups hb17); have HZ := hid (bs64 (HMK.out w17).1); clear hb17)
    | (go_at_call 65; refine (Chain_any zerosD zerosD (zerosD.map vb) (zerosD.map vb) (mk w16) isD_zeros isD_zeros (HK16.out.ups (HMK.out w16).2.1)).mono ?_; rintro e w17 ⟨v17, hd17, rfl, hb17'⟩; have hb17 := below_tr (HMK.out w16).2.1 hb17'; have HB17 := hid (below_tr HB16.out hb17); have HC17 := hid (HC16.out.ups hb17); have HK17 := hid (HK16.out.ups hb17); have HZ := hid ((bs64 (HMK.out w16).1).ups hb17'); clear hb17 hb17')
    | (go_at_call_of 34 (Value.slice none 0 0); refine (tree_any 0 [] _ _ (by simp) (DS.nil _) HK14.out).mono ?_; rintro e w15 ⟨v15, hd15, rfl, hb15⟩; rw [tree_nil] at hd15; have HB15 := hid (below_tr HB14.out hb15); have HC15 := hid (HC14.out.ups hb15); have HK15 := hid (HK14.out.ups hb15); clear hb15)
    | (go_at_call 34; refine calls_alloc_drew (w := w13) (zs := oneD.map vb) ?_; intro W hc hb hs; refine (tree_any 1 [oneD] _ W (by simp) ⟨by simp [oneD], .inr ⟨_, 0, 1, rfl, by simp, by omega, by simpa using hc, by rw [hs]; omega⟩⟩ (HK13.out.ups hb)).mono ?_; rintro e w14 ⟨v14, hd14, rfl, hb14⟩; rw [tree_one] at hd14; have HB14 := hid (below_tr HB13.out (below_tr hb hb14)); have HC14 := hid (HC13.out.ups (below_tr hb hb14)); have HK14 := hid (HK13.out.ups (below_tr hb hb14)); have hq1 := eqD_true hd11 hd14 rfl; clear hb14 hc hb hs)
    | (go_at_call_of 63 (Value.slice none 0 0); refine (Tagged_any ⟨#[101, 109, 112, 116, 121]⟩ (.slice none 0 0) [] _ (.inl ⟨rfl, rfl⟩) HK15.out (by decide) (by simp)).mono ?_; rintro e w16 ⟨v16, hd16, rfl, hb16⟩; have HB16 := hid (below_tr HB15.out hb16); have HC16 := hid (HC15.out.ups hb16); have HK16 := hid (HK15.out.ups hb16); have hq2 := eqD_true hd15 hd16 rfl; clear hb16)
    | (go_at_call 63; refine (Tagged_any ⟨#[99, 104, 97, 105, 110]⟩ _ (zerosD ++ zerosD) (mk w17) HZ.out (HK17.out.ups (HMK.out w17).2.1) (by decide) (by simp [zerosD])).mono ?_; rintro e w18 ⟨v18, hd18, rfl, hb18'⟩; have hb18 := below_tr (HMK.out w17).2.1 hb18'; have HB18 := hid (below_tr HB17.out hb18); have HC18 := hid (HC17.out.ups hb18); have hq3 := eqD_true hd17 hd18 rfl; clear hb18 hb18')
    | (go_at_call 63; refine (Tagged_any ⟨#[99, 104, 97, 105, 110]⟩ _ (zerosD ++ zerosD) w17 HZ.out HK17.out (by decide) (by simp [zerosD])).mono ?_; rintro e w18 ⟨v18, hd18, rfl, hb18⟩; have HB18 := hid (below_tr HB17.out hb18); have HC18 := hid (HC17.out.ups hb18); have hq3 := eqD_true hd17 hd18 rfl; clear hb18)))
  all_goals
    go_wp2
    go_ret
    exact ⟨rfl, HB18.out⟩
end Go.Proofs.YtaoehkoffhnidaaDoor.Dg
namespace Go.Proofs.YtaoehkoffhnidaaDoor.Dg
open Go.RowKit Go
set_option linter.unusedVariables false
set_option maxRecDepth 20000
set_option linter.unusedSimpArgs false
/-- a list of digests in a row of the call's own, or nothing yet -/
def OE (w : World) (base : Nat) (v : Value) (ds : List (List UInt8)) : Prop := OD w base v ds ∨ (ds = [] ∧ ∃ ad, v = .slice (some ad) 0 0)
theorem OE.ups {w w' : World} {base : Nat} {v : Value} {ds : List (List UInt8)} (h : OE w base v ds) (hb : Below w.heap.size w w') : OE w' base v ds := by
  rcases h with h | h
  · exact .inl (h.ups hb)
  · exact .inr h
theorem OE.ds {w : World} {base : Nat} {v : Value} {ds : List (List UInt8)} (h : OE w base v ds) : DS w v ds := by
  rcases h with h | ⟨rfl, ad, rfl⟩
  · exact h.ds
  · exact ⟨by simp, .inl ⟨rfl, some ad, 0, rfl, by omega⟩⟩
/-- what is appended: nil, or a row of digests -/
def DA (w : World) (u : Value) (es : List (List UInt8)) : Prop := (u = .slice none 0 0 ∧ es = []) ∨ ∃ a c, u = .slice (some a) es.length c ∧ (∀ d ∈ es, d.length = 32) ∧ Cells w a (es.flatten.map vb)
theorem DA.ups {w w' : World} {v : Value} {ds : List (List UInt8)} (h : DA w v ds) (hb : Below w.heap.size w w') : DA w' v ds := by
  rcases h with h | ⟨a, c, h1, h2, h3⟩
  · exact .inl h
  · exact .inr ⟨a, c, h1, h2, h3.ups hb⟩
theorem DS.da {w : World} {v : Value} {ds : List (List UInt8)} (h : DS w v ds) (h0 : 0 < ds.length) : DA w v ds := by
  obtain ⟨g, o, cap, h1, h2, h3, h4, h5, h6⟩ := h.pos h0
  exact .inr ⟨_, cap, h1, h6, h4⟩
theorem OD.da {w : World} {base : Nat} {v : Value} {ds : List (List UInt8)} (h : OD w base v ds) : DA w v ds := by
  have hc := h.2
  rcases h.2.2 with ⟨rfl, h3⟩ | ⟨g, cap, cur, rfl, _⟩
  · exact .inl ⟨rfl, List.eq_nil_of_length_eq_zero h3⟩
  · exact .inr ⟨_, cap, rfl, h.1, fun j v hj => World.ownsRow.cells hc rfl j v hj⟩
theorem isD_da {w : World} {g : Nat} {d : List UInt8} {us : List Value} {c : Nat} (hd : IsD d us) (h : Cells w ⟨g, 0, none⟩ us) : DA w (.slice (some ⟨g, 0, none⟩) 1 c) [d] :=
  .inr ⟨_, c, rfl, by intro x hx; simp at hx; subst hx; exact hd.len, by rw [List.flatten_cons, List.flatten_nil, List.append_nil, ← hd.eq]; exact h⟩
theorem append_oe {w : World} {base : Nat} {v u : Value} {ds es : List (List UInt8)} (h : OE w base v ds) (hv : DA w u es) (hn : ds.length + es.length ≤ 1000000000) (hb : base ≤ w.heap.size) :
    ∃ v' w', (Builtin.append_ #[46, 46] 46 #[v, u]).run Tryd.prog w = .ok v' w' ∧ OE w' base v' (ds ++ es) ∧ Below base w w' := by
  obtain ⟨i, hi, hf⟩ := Option.map_eq_some_iff.1 info26s
  simp only [Prod.mk.injEq] at hf
  obtain ⟨hz, hs, hby⟩ := hf
  obtain ⟨z, hz, hzs⟩ := Option.map_eq_some_iff.1 hz
  rcases h with h | ⟨rfl, ad, rfl⟩
  · rcases hv with ⟨rfl, rfl⟩ | ⟨a, hv⟩
    · have hr := run_append_owned_none (P := Tryd.prog) (w := w) base 46 46 35 i 32 Tryd.underlying46 hi _ _ _ h.2
      exact ⟨v, w, hr, .inl (by rw [List.append_nil]; exact h), Below.refl _ _⟩
    · obtain ⟨cap, rfl, h6, h4⟩ := hv
      obtain ⟨v', w', h7, h8, h9⟩ := append_od (c := cap) h h6 rfl h4 (by omega) hb
      exact ⟨v', w', h7, .inl h8, h9⟩
  · rcases hv with ⟨rfl, rfl⟩ | ⟨a, hv⟩
    · refine ⟨.slice (some ad) 0 0, w, ?_, .inr ⟨rfl, ad, rfl⟩, Below.refl _ _⟩
      simp [Builtin.append_, run_underlying Tryd.underlying46, sizeOf, typeInfo, hi, hs, Builtin.lenOf, Builtin.firstCells, loadCellsFrom, storeCells]
    · obtain ⟨cap, rfl, h6, h4⟩ := hv
      by_cases h0 : es.length = 0
      · obtain rfl := List.eq_nil_of_length_eq_zero h0
        have e0 : (loadCells a 0).run Tryd.prog w = .ok #[] w := by simpa using run_loadCells_list (P := Tryd.prog) w a [] (by simp)
        refine ⟨.slice (some ad) 0 0, w, ?_, .inr ⟨rfl, ad, rfl⟩, Below.refl _ _⟩
        simp [e0, Builtin.append_, run_underlying Tryd.underlying46, sizeOf, typeInfo, hi, hs, Builtin.lenOf, Builtin.firstCells, loadCellsFrom, storeCells]
      have hl : (es.flatten.map vb).length = es.length * 32 := by rw [List.length_map, flat_length es h6]
      obtain ⟨v', w', h7, h8, h9⟩ := run_append_arg_grows (P := Tryd.prog) w 46 46 35 i z 32 32 Tryd.underlying46 hi hz hs hby hzs (by omega) ad 0 0 [] (by simp) (fun j v hj => by simp at hj) a es.length cap (es.flatten.map vb) hl h4 (by omega) (by unfold maxLen; omega) (by omega)
      refine ⟨v', w', h7, .inl (OD.mono (b := base) ⟨by simpa using h6, ?_⟩ hb), ?_⟩
      · simpa using h8
      · have hb' : Below w.heap.size w w' := ⟨h9.os, h9.tape, h9.output, h9.size, fun k hk => h9.block k hk (by intro e; cases e)⟩
        exact hb'.mono hb
section
variable {ops : Array Oper} {o : Oper} {a : Act} {w : World} {K : Act → World → Prop} {Q : Exit → Act → World → Prop} {E : Prop}
/-- append of bytes as a step of a region -/
theorem step_ob (hg : o.guard = none) (s x : Operand) (hop : o.op = Op.call { callee := Callee.builtin Builtin.append, args := #[s, x], argTypes := #[22, 22] }) (ht : o.type = 22)
    (base : Nat) (l b : List UInt8) (hs : OB w base (a.eval s) l) (hx : BS w (a.eval x) b) (hn : l.length + b.length ≤ 70368744000000) (hb : base ≤ w.heap.size)
    (hK : ∀ v' W, OB W base v' (l ++ b) → Below base w W → K (a.put o.dst v') W) : if Region.wanted o (yielded ops a.tmps) = true then Oper.wp Tryd.prog o a w K Q else E := by
  obtain ⟨v', w', h1, h2, h3⟩ := append_ob hs hx hn hb
  exact step_append_run hg s x 22 22 hop _ _ v' rfl rfl (by rw [ht]; exact h1) (hK v' w' h2 h3)
/-- append of digests as a step of a region -/
theorem step_oe (hg : o.guard = none) (s x : Operand) (hop : o.op = Op.call { callee := Callee.builtin Builtin.append, args := #[s, x], argTypes := #[46, 46] }) (ht : o.type = 46)
    (base : Nat) (ds es : List (List UInt8)) (hs : OE w base (a.eval s) ds) (hx : DA w (a.eval x) es) (hn : ds.length + es.length ≤ 1000000000) (hb : base ≤ w.heap.size)
    (hK : ∀ v' W, OE W base v' (ds ++ es) → Below base w W → K (a.put o.dst v') W) : if Region.wanted o (yielded ops a.tmps) = true then Oper.wp Tryd.prog o a w K Q else E := by
  obtain ⟨v', w', h1, h2, h3⟩ := append_oe hs hx hn hb
  exact step_append_run hg s x 46 46 hop _ _ v' rfl rfl (by rw [ht]; exact h1) (hK v' w' h2 h3)
end
end Go.Proofs.YtaoehkoffhnidaaDoor.Dg
namespace Go.Proofs.YtaoehkoffhnidaaDoor.Dg
open Go.RowKit Go
set_option linter.unusedVariables false
set_option maxRecDepth 20000
set_option linter.unusedSimpArgs false
/-- the digest that a byte at a place determines -/
def dg (c : UInt8) (i : Nat) : List UInt8 := UInt8.ofNat (c.toNat % 4) :: UInt8.ofNat (i / 8) :: List.replicate 30 0
theorem dg_len (c : UInt8) (i : Nat) : (dg c i).length = 32 := by simp [dg]
theorem isD_dg (c : UInt8) (i : Nat) (hi : i < 24) (x y : Int) (hx : x = (c.toNat : Int) % 4) (hy : y = (i : Int) / 8) : IsD (dg c i) (.int .u8 x :: .int .u8 y :: (List.replicate 30 (0 : UInt8)).map vb) := by
  have h := isD_of (dg_len c i)
  have e : (dg c i).map vb = .int .u8 x :: .int .u8 y :: (List.replicate 30 (0 : UInt8)).map vb := by
    rw [dg, List.map_cons, List.map_cons]
    have e1 : vb (UInt8.ofNat (c.toNat % 4)) = .int .u8 x := by rw [vb, hx]; congr 1; rw [byte_ofNat]; push_cast; omega
    have e2 : vb (UInt8.ofNat (i / 8)) = .int .u8 y := by rw [vb, hy]; congr 1; rw [byte_ofNat]; push_cast; omega
    rw [e1, e2]
  rwa [e] at h
def dgs (l : List UInt8) : Nat → List (List UInt8)
  | 0 => []
  | k + 1 => dgs l k ++ [dg (l.getD k 0) k]
theorem dgs_len (l : List UInt8) (k : Nat) : (dgs l k).length = k := by
  induction k with
  | zero => rfl
  | succ k ih => rw [dgs, List.length_append, ih]; rfl
theorem dgs_32 (l : List UInt8) (k : Nat) : ∀ d ∈ dgs l k, d.length = 32 := by
  induction k with
  | zero => intro d hd; simp [dgs] at hd
  | succ k ih =>
    intro d hd
    rw [dgs] at hd
    rcases List.mem_append.1 hd with hd | hd
    · exact ih d hd
    · simp at hd; subst hd; exact dg_len _ _
/-- the whole list -/
def digs (l : List UInt8) : List (List UInt8) := dgs l (min l.length 24)
theorem digs_len (l : List UInt8) : (digs l).length ≤ 24 := by rw [digs, dgs_len]; omega
section
variable {ops : Array Oper} {rest : List Oper} {o : Oper} {a : Act} {w : World} {Q : Exit → Act → World → Prop}
/-- append of digests at the list of a plain region's operations -/
theorem wpl_oe (hg : o.guard = none) (s x : Operand) (hop : o.op = Op.call { callee := Callee.builtin Builtin.append, args := #[s, x], argTypes := #[46, 46] }) (ht : o.type = 46)
    (base : Nat) (ds es : List (List UInt8)) (hs : OE w base (a.eval s) ds) (hx : DA w (a.eval x) es) (hn : ds.length + es.length ≤ 1000000000) (hb : base ≤ w.heap.size)
    (h : ∀ v' W, OE W base v' (ds ++ es) → Below base w W → wpList Tryd.prog ops Q rest (a.put o.dst v') W) : wpList Tryd.prog ops Q (o :: rest) a w := by
  obtain ⟨v', w', h1, h2, h3⟩ := append_oe hs hx hn hb
  exact wpList_append_run hg s x 46 46 hop _ _ v' rfl rfl (by rw [ht]; exact h1) (h v' w' h2 h3)
end
set_option maxRecDepth 100000 in
set_option maxHeartbeats 4000000 in
theorem digestsOf_any (v : Value) (b : List UInt8) (w : World) (hv : BS w v b) : Calls Tryd.prog 33 #[v] w fun e w' => ∃ v', e = .returned v' ∧ OE w' w.heap.size v' (digs b) ∧ Below w.heap.size w w' := by
  have HV := hid hv
  obtain ⟨p, cap, rfl⟩ := hv.form
  have hcl : ∀ k, k < b.length → ∃ a, p = some a ∧ b.length < 9223372036854775808 ∧ ∀ W, Below w.heap.size w W → W.cell? (a.add k) = some (.int .u8 ((b.getD k 0).toNat : Int)) := by
    intro k hk
    rcases hv with ⟨_, h⟩ | ⟨a, c, h1, h2, h3, h4, h5⟩
    · rw [h] at hk; simp at hk
    · simp only [Value.slice.injEq] at h1
      refine ⟨a, h1.1, by unfold maxLen at h3; omega, fun W hb => ?_⟩
      have := (h4.ups hb) k _ (by rw [List.getElem?_map, List.getElem?_eq_getElem hk]; rfl)
      rw [this, vb, List.getD_eq_getElem?_getD, List.getElem?_eq_getElem hk]; rfl
  have hbl : b.length < 9223372036854775808 := by
    rcases HV.out with ⟨_, h⟩ | ⟨a, c, _, h1, h2, _⟩
    · rw [h]; simp
    · unfold maxLen at h2; omega
  have HC := hid hcl
  clear hv hcl
  obtain ⟨n, hn⟩ : ∃ n, n = b.length := ⟨_, rfl⟩
  rw [← hn] at hbl ⊢
  have HN := hid hn
  clear hn
  go_enter Tryd.func33, Tryd.ntmps33
  go_wp2
  go_loopw [3, 4] (fun s i w1 => ∃ k : Nat, k ≤ n ∧ k ≤ 24 ∧ i = .int .i64 k ∧ OE w1 w.heap.size s (dgs b k) ∧ Below w.heap.size w w1) (fun _ i _ => 24 - (intOf i).toNat)
  case atStart => exact ⟨0, by omega, by omega, rfl, .inr ⟨rfl, _, rfl⟩, below_al _ _⟩
  case round =>
    obtain ⟨k, hk, hk24, rfl, hoe, hb⟩ := hrel
    have HOE := hid hoe; have HB := hid hb
    by_cases h1 : k < n
    · by_cases h2 : k < 24
      · obtain ⟨a, rfl, _, hcell⟩ := HC.out k (by rw [← HN.out]; exact h1)
        have hce := hcell wr hb
        clear hoe hb hcell
        go_wp2_with (refine wpl_oe rfl (.tmp 16) (.tmp 26) rfl rfl w.heap.size (dgs b k) [dg (b.getD k 0) k] (HOE.out.ups (below_al _ _)) (isD_da (isD_dg (b.getD k 0) k h2 _ _ (by simp) rfl) (cells_alloc _ _ _)) (by rw [dgs_len]; simp; omega) (by have := HB.out.size; simp; omega) ?_; intro v' W hoe' hb'; have HOE' := hid hoe'; have HB' := hid ((HB.out.trans ((below_al wr _).mono HB.out.size)).trans hb'); clear hoe' hb')
        go_roundw
        case rel => exact ⟨k + 1, by omega, by omega, by go_num, HOE'.out, HB'.out⟩
        case measure => simp [intOf]; omega
      · clear hoe hb
        go_wp2
        go_ret
        refine ⟨_, rfl, ?_, HB.out⟩
        have e : digs b = dgs b k := by rw [digs, ← HN.out]; congr 1; omega
        rw [e]; exact HOE.out
    · clear hoe hb
      go_wp2
      go_ret
      refine ⟨_, rfl, ?_, HB.out⟩
      have e : digs b = dgs b k := by rw [digs, ← HN.out]; congr 1; omega
      rw [e]; exact HOE.out
end Go.Proofs.YtaoehkoffhnidaaDoor.Dg

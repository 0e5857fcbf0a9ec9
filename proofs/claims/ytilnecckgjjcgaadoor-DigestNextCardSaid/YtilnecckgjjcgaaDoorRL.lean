/- The law of chains: each element of the chain is the hash under a tag of the element before and the digest. -/
import Derived.Test.YtilnecckgjjcgaaDoorRK
import Derived.Test.YtilnecckgjjcgaaDoorDRun
namespace Go.Proofs.YtilnecckgjjcgaaDoor.Dg
open Go.RowKit Go
set_option linter.unusedVariables false
set_option linter.unusedSimpArgs false
section
variable {P : Program} {ops : Array Oper} {Q : Exit → Act → World → Prop} {S : World → Prop} {fuel : Nat} {listed : Array Bool} {a : Act} {w : World}
/-- an operation that is wanted now and yields v wherever S holds is taken first -/
theorem wa_tkw (i : Nat) (dt : Option Tmp) {oi : Oper} (v : Value) (hi : ops[i]? = some oi) (hb : (Region.noSelect ops && Region.free .any ops listed i && (Region.ready .any ops listed).contains i) = true)
    (hw : Region.wanted oi (yielded ops a.tmps) = true) (hdt : oi.dst = dt) (hS : S w) (hy : ∀ w, S w → (execOp a.eval oi).run P w = .ok (.value v) w)
    (h : WA P ops Q S fuel (listed.setIfInBounds i true) (a.put dt v) w) : WA P ops Q S (fuel + 1) listed a w := by
  subst hdt
  rw [Bool.and_eq_true, Bool.and_eq_true] at hb
  exact ⟨wpAnyH_take hi hb.1.1 hb.1.2 hb.2 (fun _ _ _ h => False.elim h) (.inl ⟨hw, hy⟩) hS h.out⟩
theorem wa_loadw (i : Nat) (dt : Option Tmp) {oi : Oper} (ty : TypeId) (x : Operand) (hi : ops[i]? = some oi) (ho : oi.op = .load ty x) (b o : Nat) (hx : a.eval x = .pointer (some ⟨b, o, none⟩)) (cs : List Value) (d : TypeDesc) (hc : ∀ w, S w → w.rangeAt b o cs)
    (hu : P.underlying ty = some d) (hd : d.isRow = true) (hs : (P.info? ty).map (·.size) = some cs.length) (hb : (Region.noSelect ops && Region.free .any ops listed i && (Region.ready .any ops listed).contains i) = true)
    (hw : Region.wanted oi (yielded ops a.tmps) = true) (hdt : oi.dst = dt) (hS : S w)
    (h : WA P ops Q S fuel (listed.setIfInBounds i true) (a.put dt (.agg cs.toArray)) w) : WA P ops Q S (fuel + 1) listed a w := by
  subst hdt
  rw [Bool.and_eq_true, Bool.and_eq_true] at hb
  exact ⟨wpAnyH_take hi hb.1.1 hb.1.2 hb.2 (fun _ _ _ h => False.elim h) (yieldsIf_load_mid hw ty x ho b o hx cs d hc hu hd hs) hS h.out⟩
theorem ar_opw (i : Nat) {o : Oper} {rs : List Nat} (ho : ops[i]? = some o) (hw : Region.wanted o (yielded ops a.tmps) = true)
    (h : ∀ K : Act → World → Prop, Shut (∀ a w, S w → WA P ops Q S fuel (listed.setIfInBounds i true) a w → K a w) → Oper.wp P o a w K (NoPanic Q))
    (hs : AR P ops Q S fuel listed a w rs) : AR P ops Q S fuel listed a w (i :: rs) := by
  refine ⟨AllReadyH.cons ho (fun K hK => ?_) hs.out⟩
  rw [if_pos hw]
  exact h K (fun a w hS hW => hK a w hS (fun _ => hW.out))
end
section
variable {ops : Array Oper} {o : Oper} {a : Act} {w : World} {K : Act → World → Prop} {Q : Exit → Act → World → Prop}
/-- a digest is read -/
theorem st_load (dt : Option Tmp) (hd : o.dst = dt) (x : Operand) (ho : o.op = .load 26 x) (g oo : Nat) (us : List Value) (l : List UInt8) (hx : a.eval x = .pointer (some ⟨g, oo, none⟩)) (hc : Cells w ⟨g, oo, none⟩ us) (hl : IsD l us)
    (h : K (a.put dt (.agg us.toArray)) w) : Oper.wp Tryd.prog o a w K Q := by
  subst hd
  exact wp_load_mid 26 x ho g oo hx us _ hc.range Tryd.underlying26 rfl (info26 hl.len') h
/-- an empty row of bytes begins -/
theorem st_beginb (dt : Option Tmp) (hd : o.dst = dt) (ho : o.op = .buildSlice 22 0 #[])
    (h : ∀ W ad, Below w.heap.size w W → K (a.put dt (.slice (some ad) 0 0)) W) : Oper.wp Tryd.prog o a w K Q := by
  subst hd
  have hh := h (w.alloc (.cells #[] 5)) ⟨w.heap.size, 0, none⟩ (below_al _ _)
  unfold Oper.wp
  go_simp
  exact hh
/-- append of bytes -/
theorem st_ob (dt : Option Tmp) (hd : o.dst = dt) (s x : Operand) (hop : o.op = Op.call { callee := Callee.builtin Builtin.append, args := #[s, x], argTypes := #[22, 22] }) (ht : o.type = 22)
    (base : Nat) (l b : List UInt8) (hs : OB w base (a.eval s) l) (hx : BS w (a.eval x) b) (hn : l.length + b.length ≤ 70368744000000) (hb : base ≤ w.heap.size)
    (h : ∀ v' W, OB W base v' (l ++ b) → Below base w W → K (a.put dt v') W) : Oper.wp Tryd.prog o a w K Q := by
  subst hd
  obtain ⟨v', w', h1, h2, h3⟩ := append_ob hs hx hn hb
  have hk := h v' w' h2 h3
  unfold Oper.wp
  simp [execOp, hop, resolve, invoke, builtin, h1, ht, Result.andThen]
  exact hk
end
theorem od_pos {w : World} {base : Nat} {v : Value} {ds : List (List UInt8)} (h : OD w base v ds) (h0 : 0 < ds.length) : ∃ g cap, v = .slice (some ⟨g, 0, none⟩) ds.length cap ∧ base ≤ g ∧ g < w.heap.size ∧ ds.length ≤ cap ∧ cap < 9223372036854775808 ∧ Cells w ⟨g, 0, none⟩ (ds.flatten.map vb) := by
  have hc := h.2
  obtain ⟨h1, h2, h3⟩ := h
  rcases h3 with ⟨_, h4⟩ | ⟨g, cap, cur, rfl, e2, e3⟩
  · omega
  · have hlt := World.ownsRow.lt hc g rfl
    obtain ⟨g', o, cap', e4, e5, e6, e7, _⟩ := DS.pos (OD.ds ⟨h1, hc⟩) h0
    simp only [Value.slice.injEq, Option.some.injEq, Addr.mk.injEq] at e4
    obtain ⟨⟨rfl, rfl, _⟩, _, rfl⟩ := e4
    exact ⟨_, _, rfl, hlt.1, hlt.2, e5, e6, e7⟩
set_option maxRecDepth 100000 in
set_option maxHeartbeats 4000000 in
theorem chains_any (l0 : List UInt8) (u0 : List Value) (v : Value) (b : List UInt8) (w : World) (hd0 : IsD l0 u0) (hv : BS w v b) (hk : Konst w) : Calls Tryd.prog 6 #[.agg u0.toArray, v] w fun e w' => e = .returned (.bool true) ∧ Below w.heap.size w w' := by
  have HV := hid hv; have HK := hid hk; have HD0 := hid hd0
  clear hv hk hd0
  go_enter Tryd.func6, Tryd.ntmps6
  go_upto_region 1 with (fail)
  refine code_alloc ?_
  intro W hc hf hb hs
  obtain ⟨gb, hgb⟩ : ∃ gb, gb = w.heap.size := ⟨_, rfl⟩
  rw [← hgb] at hc ⊢
  have HC := hid hc; have HB := hid hb
  clear hc hf hs hgb hb
  go_wp2_with fail
  refine (sane_any _ (HK.out.ups HB.out)).mono ?_
  rintro e w1 ⟨rfl, hb1⟩
  have HB1 := hid (below_tr HB.out hb1); have HC1 := hid (HC.out.ups hb1)
  clear hb1 HC HB
  go_wp2_with fail
  have hu := Tryd.underlying26
  have hi0 := info26 HD0.out.len'
  have HS := hid ((Below.refl w1.heap.size w1).drew)
  refine wa_start (S := fun W => Below w1.heap.size w1 W) (by kernel_rfl) HS.out ?_
  refine wa_load 0 (some 12) 26 (.tmp 2) rfl rfl gb 0 rfl u0 _ (fun w h => (HC1.out.ups h).range) hu rfl hi0 (by kernel_rfl) rfl rfl HS.out ?_
  simp only [Act.put, List.setIfInBounds_toArray, List.set_cons_zero, List.set_cons_succ]
  refine wa_load 1 (some 13) 26 (.tmp 2) rfl rfl gb 0 rfl u0 _ (fun w h => (HC1.out.ups h).range) hu rfl hi0 (by kernel_rfl) rfl rfl HS.out ?_
  simp only [Act.put, List.setIfInBounds_toArray, List.set_cons_zero, List.set_cons_succ]
  repeat' (first
    | exact ar_nil
    | (refine ar_op 2 rfl rfl (fun K hK => ?_) ?_; refine st_alloc (some 5) rfl rfl ?_; intro W2 g5 hg hr hb hs2; have HG5 := hid (show w1.heap.size ≤ g5 by rw [hg]; exact HS.out.size); (first | (have HNE := hid (show g5 ≠ g6 by have := HR6.out.2.2; omega)) | skip); have HS := hid (HS.out.trans (hb.mono HS.out.size)); (first | (have HR6 := hid (HR6.out.ups hb)) | skip); have HR5 := hid hr; clear hg hr hs2; refine hK.out _ _ HS.out ?_; clear hK K; clear hb; try simp only [Act.put, List.setIfInBounds_toArray, List.set_cons_zero, List.set_cons_succ])
    | (refine ar_op 3 rfl rfl (fun K hK => ?_) ?_; refine st_alloc (some 6) rfl rfl ?_; intro W3 g6 hg hr hb hs3; have HG6 := hid (show w1.heap.size ≤ g6 by rw [hg]; exact HS.out.size); (first | (have HNE := hid (show g5 ≠ g6 by have := HR5.out.2.2; omega)) | skip); have HS := hid (HS.out.trans (hb.mono HS.out.size)); (first | (have HR5 := hid (HR5.out.ups hb)) | skip); have HR6 := hid hr; clear hg hr hs3; refine hK.out _ _ HS.out ?_; clear hK K; clear hb; try simp only [Act.put, List.setIfInBounds_toArray, List.set_cons_zero, List.set_cons_succ])
    | (refine ar_op 4 rfl rfl (fun K hK => ?_) ?_; refine st_put none rfl (.tmp 5) (.tmp 12) rfl g5 u0 _ rfl rfl HR5.out HD0.out ?_; intro W4 hc4 hr4 ho4; have HS := hid (ho4.below HS.out HS.out.size HG5.out); have HR6 := hid (ho4.room HR6.out (Ne.symm HNE.out)); have HR5 := hid hr4; have HC5 := hid hc4; clear hc4 hr4 ho4; refine hK.out _ _ HS.out ?_; clear hK K; try simp only [Act.put, List.setIfInBounds_toArray, List.set_cons_zero, List.set_cons_succ])
    | (refine ar_op 5 rfl rfl (fun K hK => ?_) ?_; refine st_put none rfl (.tmp 6) (.tmp 13) rfl g6 u0 _ rfl rfl HR6.out HD0.out ?_; intro wC hc5 hr5 ho5; have HS := hid (ho5.below HS.out HS.out.size HG6.out); have HR5 := hid (ho5.room HR5.out HNE.out); have HC5 := hid (ho5.cells HC5.out HNE.out); have HR6 := hid hr5; have HC6 := hid hc5; clear hc5 hr5 ho5; refine hK.out _ _ HS.out ?_; clear hK K; try simp only [Act.put, List.setIfInBounds_toArray, List.set_cons_zero, List.set_cons_succ])
    | (refine wa_branch [2, 3] (by decide +kernel) rfl ?_)
    | (refine wa_branch [2] (by decide +kernel) rfl ?_)
    | (refine wa_branch [3] (by decide +kernel) rfl ?_)
    | (refine wa_branch [4] (by decide +kernel) rfl ?_)
    | (refine wa_branch [5] (by decide +kernel) rfl ?_))
  all_goals
    refine wa_done (by kernel_rfl) ?_
    have HR5c := hid HR5.out; have HR6c := hid HR6.out
    have HBC := hid (HB1.out.trans (HS.out.mono HB1.out.size))
    have HG := hid (show w.heap.size ≤ g5 ∧ w.heap.size ≤ g6 from ⟨Nat.le_trans HB1.out.size HG5.out, Nat.le_trans HB1.out.size HG6.out⟩)
    clear HS HG5 HG6 HC1 HB1 hi0
    go_wp2_with fail
    refine (digestsOf_any v b _ (HV.out.ups HBC.out)).mono ?_
    rintro e w2 ⟨vl, rfl, hoe, hb2⟩
    have HB2 := hid (below_tr HBC.out hb2); have HR5 := hid (HR5.out.ups hb2); have HR6 := hid (HR6.out.ups hb2); have HC5 := hid (HC5.out.ups hb2); have HC6 := hid (HC6.out.ups hb2)
    have HLT := hid (show g5 < wC.heap.size ∧ g6 < wC.heap.size from ⟨HR5c.out.2.2, HR6c.out.2.2⟩)
    have hlen := digs_len b
    clear hb2 HBC HR5c HR6c
    rcases hoe with hoe | ⟨hnil, ad, rfl⟩
    · by_cases h0 : 0 < (digs b).length
      · obtain ⟨gl, cap, rfl, hgl, hgl2, hcap, hcap2, hlc⟩ := od_pos hoe h0
        have h32 := hoe.1
        obtain ⟨len, hln⟩ : ∃ len, len = (digs b).length := ⟨_, rfl⟩
        rw [← hln] at hlen hcap h0 ⊢
        have HLN := hid hln; have HLC := hid hlc; have H32 := hid h32
        have HNL := hid (show g5 ≠ gl ∧ g6 ≠ gl by have := HLT.out; omega)
        have HGL := hid (show w.heap.size ≤ gl by have := HLT.out; have := HG.out; omega)
        clear hln hlc h32 hoe hgl hgl2 HLT
        go_wp2
        go_loopw [17] (fun t wr => ∃ (k : Nat) (l : List UInt8) (ue uw : List Value), k ≤ len ∧ t = .int .i64 k ∧ Hid (IsD l ue) ∧ Hid (IsD l uw) ∧ Hid (Cells wr ⟨g5, 0, none⟩ ue) ∧ Hid (Cells wr ⟨g6, 0, none⟩ uw) ∧ Hid (Room wr g5) ∧ Hid (Room wr g6) ∧ Hid (Cells wr ⟨gl, 0, none⟩ ((digs b).flatten.map vb)) ∧ Hid (Below w.heap.size w wr)) (fun t _ => len - (intOf t).toNat)
        case atStart => exact ⟨0, l0, u0, u0, by omega, rfl, HD0, HD0, HC5, HC6, HR5, HR6, HLC, HB2⟩
        case round =>
          clear HC5 HC6 HR5 HR6 HLC HB2
          obtain ⟨k, l, ue, uw, hkl, rfl, HDE, HDW, HC5, HC6, HR5, HR6, HLC, HB⟩ := hrel
          by_cases hlt : k < len
          · obtain ⟨d, hd⟩ : ∃ d, (digs b)[k]? = some d := ⟨_, List.getElem?_eq_getElem (by rw [← HLN.out]; exact hlt)⟩
            obtain ⟨ud, hdc, hdd⟩ : ∃ ds, Cells wr ⟨gl, k * 32, none⟩ ds ∧ IsD d ds := by have h := cells_elem HLC.out H32.out hd; rw [Nat.zero_add] at h; exact ⟨_, h⟩
            have HDC := hid hdc; have HD := hid hdd
            have hl1 := info26 hdd.len'
            have hle := info26 HDE.out.len'
            clear hd hdc hdd
            have HC5a := HC5; have HC6a := HC6; have HR5a := HR5; have HR6a := HR6; have HLCa := HLC
            have HLT := hid (show g5 < wr.heap.size ∧ g6 < wr.heap.size ∧ gl < wr.heap.size from ⟨HR5.out.2.2, HR6.out.2.2, HLC.out.lt (by intro h; have := HDC.out.lt (by intro h2; have := HD.out.len'; rw [h2] at this; simp at this); have h3 := congrArg List.length h; rw [List.length_map, flat_length _ H32.out, ← HLN.out] at h3; simp at h3; omega)⟩)
            go_wp2_with (first
              | (refine wpList_load_mid rfl 26 (.tmp 19) rfl gl (k * 32) rfl ud _ HDC.out.range Tryd.underlying26 rfl hl1 ?_)
              | (refine wpl_alloc (some 8) rfl rfl rfl ?_; intro w6 g8 hg8 hr8 hb8 hs8; have HR8 := hid hr8; have HB8 := hid (below_tr HB.out hb8); have HG8 := hid (show w.heap.size ≤ g8 ∧ g5 ≠ g8 ∧ g6 ≠ g8 ∧ gl ≠ g8 from ⟨by rw [hg8]; exact HB.out.size, by have := HLT.out; omega, by have := HLT.out; omega, by have := HLT.out; omega⟩); have HC5 := hid (HC5.out.ups hb8); have HC6 := hid (HC6.out.ups hb8); have HR5 := hid (HR5.out.ups hb8); have HR6 := hid (HR6.out.ups hb8); have HLC := hid (HLC.out.ups hb8); clear hg8 hr8 hb8 hs8)
              | (refine wpl_put (.tmp 8) (.tmp 20) rfl rfl g8 ud _ rfl rfl HR8.out HD.out ?_; intro w7 hc7 hr7 ho7; have HC8 := hid hc7; have HR8 := hid hr7; have HB8 := hid (ho7.below HB8.out HB8.out.size HG8.out.1); have HC5 := hid (ho7.cells HC5.out HG8.out.2.1); have HC6 := hid (ho7.cells HC6.out HG8.out.2.2.1); have HR5 := hid (ho7.room HR5.out HG8.out.2.1); have HR6 := hid (ho7.room HR6.out HG8.out.2.2.1); have HLC := hid (ho7.cells HLC.out HG8.out.2.2.2); clear hc7 hr7 ho7)
              | (refine wpList_load_mid rfl 26 (.tmp 5) rfl g5 0 rfl ue _ HC5.out.range Tryd.underlying26 rfl hle ?_)
              | (refine wpl_alloc (some 9) rfl rfl rfl ?_; intro w8 g9 hg9 hr9 hb9 hs9; have HG9 := hid (show w.heap.size ≤ g9 ∧ g5 ≠ g9 ∧ g6 ≠ g9 ∧ gl ≠ g9 ∧ g8 ≠ g9 from ⟨by rw [hg9]; exact HB8.out.size, by have := HR5.out.2.2; omega, by have := HR6.out.2.2; omega, by have := HLT.out; have := HR5.out.2.2; have h8 := HLC.out.lt (by intro h; have h3 := congrArg List.length h; rw [List.length_map, flat_length _ H32.out, ← HLN.out] at h3; simp at h3; omega); simp at h8; omega, by have := HR8.out.2.2; omega⟩); have HR9 := hid hr9; have HB9 := hid (below_tr HB8.out hb9); have HC5 := hid (HC5.out.ups hb9); have HC6 := hid (HC6.out.ups hb9); have HR5 := hid (HR5.out.ups hb9); have HR6 := hid (HR6.out.ups hb9); have HLC := hid (HLC.out.ups hb9); have HC8 := hid (HC8.out.ups hb9); have HR8 := hid (HR8.out.ups hb9); clear hg9 hr9 hb9 hs9)
              | (refine wpl_put (.tmp 9) (.tmp 21) rfl rfl g9 ue _ rfl rfl HR9.out HDE.out ?_; intro w9 hc9 hr9 ho9; have HC9 := hid hc9; have HR9 := hid hr9; have HB9 := hid (ho9.below HB9.out HB9.out.size HG9.out.1); have HC5 := hid (ho9.cells HC5.out HG9.out.2.1); have HC6 := hid (ho9.cells HC6.out HG9.out.2.2.1); have HR5 := hid (ho9.room HR5.out HG9.out.2.1); have HR6 := hid (ho9.room HR6.out HG9.out.2.2.1); have HLC := hid (ho9.cells HLC.out HG9.out.2.2.2.1); have HC8 := hid (ho9.cells HC8.out HG9.out.2.2.2.2); have HR8 := hid (ho9.room HR8.out HG9.out.2.2.2.2); clear hc9 hr9 ho9))
            have hdr : Below w9.heap.size w9 w9.drew := (Below.refl _ _).drew
            have HC5 := hid (HC5.out.ups hdr); have HC6 := hid (HC6.out.ups hdr); have HR5 := hid (HR5.out.ups hdr); have HR6 := hid (HR6.out.ups hdr); have HLC := hid (HLC.out.ups hdr); have HC8 := hid (HC8.out.ups hdr); have HC9 := hid (HC9.out.ups hdr)
            have HS := hid (show Below w.heap.size w w9.drew ∧ w9.drew.rangeAt g8 0 ud from ⟨HB9.out.drew, HC8.out.range⟩)
            clear hdr HC5a HC6a HR5a HR6a HLCa HDC HB HB8 HB9 HR9 HR8
            refine wa_start (S := fun W => Below w.heap.size w W ∧ W.rangeAt g8 0 ud) (by kernel_rfl) HS.out ?_
            refine wa_load 1 (some 23) 26 (.tmp 8) rfl rfl g8 0 rfl ud _ (fun w h => h.2) hu rfl hl1 (by kernel_rfl) rfl rfl HS.out ?_
            simp only [Act.put, List.setIfInBounds_toArray, List.set_cons_zero, List.set_cons_succ]
            refine wa_load 4 (some 26) 26 (.tmp 8) rfl rfl g8 0 rfl ud _ (fun w h => h.2) hu rfl hl1 (by kernel_rfl) rfl rfl HS.out ?_
            simp only [Act.put, List.setIfInBounds_toArray, List.set_cons_zero, List.set_cons_succ]
            repeat' (first
              | exact ar_nil
              | (refine ar_op 0 rfl rfl (fun K hK => ?_) ?_; refine st_load (some 22) rfl (.tmp 5) rfl g5 0 ue l rfl HC5.out HDE.out ?_; refine hK.out _ _ HS.out ?_; clear hK K; try simp only [Act.put, List.setIfInBounds_toArray, List.set_cons_zero, List.set_cons_succ])
              | (refine ar_op 3 rfl rfl (fun K hK => ?_) ?_; refine st_load (some 25) rfl (.tmp 6) rfl g6 0 uw l rfl HC6.out HDW.out ?_; refine hK.out _ _ HS.out ?_; clear hK K; try simp only [Act.put, List.setIfInBounds_toArray, List.set_cons_zero, List.set_cons_succ])
              | (refine ar_op 2 rfl rfl (fun K hK => ?_) ?_; go_simp; go_at_call 22; refine (Chain_any l d ue ud _ HDE.out HD.out (HK.out.ups HS.out.1)).mono ?_; rintro e W2 ⟨v2, hd2, rfl, hb⟩; have HC8 := hid (HC8.out.ups hb); have HC5 := hid (HC5.out.ups hb); have HC6 := hid (HC6.out.ups hb); have HR5 := hid (HR5.out.ups hb); have HR6 := hid (HR6.out.ups hb); have HLC := hid (HLC.out.ups hb); have HC9 := hid (HC9.out.ups hb); have HS := hid (show _ ∧ _ from ⟨HS.out.1.trans (hb.mono HS.out.1.size), HC8.out.range⟩); refine hK.out _ _ HS.out ?_; clear hK K; clear hb; try simp only [Act.put, List.setIfInBounds_toArray, List.set_cons_zero, List.set_cons_succ])
              | (refine ar_op 5 rfl rfl (fun K hK => ?_) ?_; go_simp; go_at_call 23; refine (rChain_any l d uw ud _ HDW.out HD.out).mono ?_; rintro e W3 ⟨v3, hd3, rfl, hb⟩; have HC8 := hid (HC8.out.ups hb); have HC5 := hid (HC5.out.ups hb); have HC6 := hid (HC6.out.ups hb); have HR5 := hid (HR5.out.ups hb); have HR6 := hid (HR6.out.ups hb); have HLC := hid (HLC.out.ups hb); have HC9 := hid (HC9.out.ups hb); have HS := hid (show _ ∧ _ from ⟨HS.out.1.trans (hb.mono HS.out.1.size), HC8.out.range⟩); refine hK.out _ _ HS.out ?_; clear hK K; clear hb; try simp only [Act.put, List.setIfInBounds_toArray, List.set_cons_zero, List.set_cons_succ])
              | (refine ar_op 6 rfl rfl (fun K hK => ?_) ?_; refine st_put none rfl (.tmp 5) (.tmp 24) rfl g5 v2 _ rfl rfl HR5.out hd2 ?_; intro W6 hc6 hr6 ho6; have HC8 := hid (ho6.cells HC8.out (Ne.symm HG8.out.2.1)); have HS := hid (show _ ∧ _ from ⟨ho6.below HS.out.1 HS.out.1.size HG.out.1, HC8.out.range⟩); have HR6 := hid (ho6.room HR6.out (Ne.symm HNE.out)); have HR5 := hid hr6; have HC5 := hid hc6; have HLC := hid (ho6.cells HLC.out (Ne.symm HNL.out.1)); have HC9 := hid (ho6.cells HC9.out (Ne.symm HG9.out.2.1)); clear hc6 hr6 ho6; refine hK.out _ _ HS.out ?_; clear hK K; try simp only [Act.put, List.setIfInBounds_toArray, List.set_cons_zero, List.set_cons_succ])
              | (refine ar_op 7 rfl rfl (fun K hK => ?_) ?_; refine st_put none rfl (.tmp 6) (.tmp 27) rfl g6 v3 _ rfl rfl HR6.out hd3 ?_; intro wE hc7 hr7 ho7; have HC8 := hid (ho7.cells HC8.out (Ne.symm HG8.out.2.2.1)); have HS := hid (show _ ∧ _ from ⟨ho7.below HS.out.1 HS.out.1.size HG.out.2, HC8.out.range⟩); have HR5 := hid (ho7.room HR5.out HNE.out); have HC5 := hid (ho7.cells HC5.out HNE.out); have HR6 := hid hr7; have HC6 := hid hc7; have HLC := hid (ho7.cells HLC.out (Ne.symm HNL.out.2)); have HC9 := hid (ho7.cells HC9.out (Ne.symm HG9.out.2.2.1)); clear hc7 hr7 ho7; refine hK.out _ _ HS.out ?_; clear hK K; try simp only [Act.put, List.setIfInBounds_toArray, List.set_cons_zero, List.set_cons_succ])
              | (refine wa_branch [0, 3] (by decide +kernel) rfl ?_)
              | (refine wa_branch [2, 3] (by decide +kernel) rfl ?_)
              | (refine wa_branch [0] (by decide +kernel) rfl ?_)
              | (refine wa_branch [2] (by decide +kernel) rfl ?_)
              | (refine wa_branch [3] (by decide +kernel) rfl ?_)
              | (refine wa_branch [5] (by decide +kernel) rfl ?_)
              | (refine wa_branch [6] (by decide +kernel) rfl ?_)
              | (refine wa_branch [7] (by decide +kernel) rfl ?_))
            all_goals
              refine wa_done (by kernel_rfl) ?_
              have HBE := hid HS.out.1
              have HLTE := hid (show g8 < wE.heap.size ∧ g9 < wE.heap.size from ⟨HC8.out.lt (by intro h; have := HD.out.len'; rw [h] at this; simp at this), HC9.out.lt (by intro h; have := HDE.out.len'; rw [h] at this; simp at this)⟩)
              clear HS hl1 hle
              have hl2 := info26 hd2.len'
              have hl3 := info26 hd3.len'
              have HS := hid ((Below.refl wE.heap.size wE).drew)
              have hq := eqD_true hd2 hd3 rfl
              go_wp2_with fail
              refine wa_start (S := fun W => Below wE.heap.size wE W) (by kernel_rfl) HS.out ?_
              refine wa_load 0 (some 28) 26 (.tmp 5) rfl rfl g5 0 rfl v2 _ (fun w h => (HC5.out.ups h).range) hu rfl hl2 (by kernel_rfl) rfl rfl HS.out ?_
              simp only [Act.put, List.setIfInBounds_toArray, List.set_cons_zero, List.set_cons_succ]
              refine wa_load 1 (some 29) 26 (.tmp 6) rfl rfl g6 0 rfl v3 _ (fun w h => (HC6.out.ups h).range) hu rfl hl3 (by kernel_rfl) rfl rfl HS.out ?_
              simp only [Act.put, List.setIfInBounds_toArray, List.set_cons_zero, List.set_cons_succ]
              refine wa_tk 2 (some 30) (.bool false) rfl (by kernel_rfl) rfl rfl HS.out (fun w _ => by go_simp) ?_
              simp only [Act.put, List.setIfInBounds_toArray, List.set_cons_zero, List.set_cons_succ]
              refine wa_move 3 (some 31) (.tmp 30) (.bool false) rfl rfl rfl (by kernel_rfl) rfl rfl HS.out ?_
              simp only [Act.put, List.setIfInBounds_toArray, List.set_cons_zero, List.set_cons_succ]
              refine wa_loadw 4 (some 32) 26 (.tmp 5) rfl rfl g5 0 rfl v2 _ (fun w h => (HC5.out.ups h).range) hu rfl hl2 (by kernel_rfl) rfl rfl HS.out ?_
              simp only [Act.put, List.setIfInBounds_toArray, List.set_cons_zero, List.set_cons_succ]
              refine wa_tkw 6 (some 34) (.slice (some ⟨g9, 0, none⟩) 32 32) rfl (by kernel_rfl) rfl rfl HS.out (fun w _ => by go_simp) ?_
              simp only [Act.put, List.setIfInBounds_toArray, List.set_cons_zero, List.set_cons_succ]
              refine wa_tkw 8 (some 36) (.slice (some ⟨g8, 0, none⟩) 32 32) rfl (by kernel_rfl) rfl rfl HS.out (fun w _ => by go_simp) ?_
              simp only [Act.put, List.setIfInBounds_toArray, List.set_cons_zero, List.set_cons_succ]
              clear hq
              refine wa_branch [5] (by decide +kernel) rfl (ar_opw 5 rfl rfl (fun K hK => ?_) ar_nil)
              refine st_beginb (some 33) rfl rfl ?_
              intro W5 ad hb
              have HS := hid (HS.out.trans (hb.mono HS.out.size)); clear hb
              refine hK.out _ _ HS.out ?_; clear hK K
              try simp only [Act.put, List.setIfInBounds_toArray, List.set_cons_zero, List.set_cons_succ]
              refine wa_branch [7] (by decide +kernel) rfl (ar_opw 7 rfl rfl (fun K hK => ?_) ar_nil)
              refine st_ob (some 35) rfl (.tmp 33) (.tmp 34) rfl rfl wE.heap.size [] l (.inr ⟨rfl, _, rfl⟩) (HDE.out.bs (HC9.out.ups HS.out) (Nat.lt_of_lt_of_le HLTE.out.2 HS.out.size)) (by rw [HDE.out.len]; simp) HS.out.size ?_
              intro v7 W7 ho hb
              have HS := hid (HS.out.trans hb); clear hb
              have HO := hid ho; clear ho
              refine hK.out _ _ HS.out ?_; clear hK K
              try simp only [Act.put, List.setIfInBounds_toArray, List.set_cons_zero, List.set_cons_succ]
              refine wa_branch [9] (by decide +kernel) rfl (ar_opw 9 rfl rfl (fun K hK => ?_) ar_nil)
              refine st_ob (some 37) rfl (.tmp 35) (.tmp 36) rfl rfl wE.heap.size _ d HO.out (HD.out.bs (HC8.out.ups HS.out) (Nat.lt_of_lt_of_le HLTE.out.1 HS.out.size)) (by rw [List.length_append, HDE.out.len, HD.out.len]; simp) HS.out.size ?_
              intro v8 W8 ho hb
              have HS := hid (HS.out.trans hb); clear hb HO
              have HO := hid ho; clear ho
              refine hK.out _ _ HS.out ?_; clear hK K
              try simp only [Act.put, List.setIfInBounds_toArray, List.set_cons_zero, List.set_cons_succ]
              refine wa_branch [10] (by decide +kernel) rfl (ar_opw 10 rfl rfl (fun K hK => ?_) ar_nil)
              go_simp
              go_at_call 12
              refine (Tagged_any ⟨#[99, 104, 97, 105, 110]⟩ _ (l ++ d) _ (by have h := HO.out.bs (by rw [List.length_append, List.length_append, HDE.out.len, HD.out.len]; simp); rwa [List.nil_append] at h) ((HK.out.ups HBE.out).ups HS.out) (by decide) (by rw [List.length_append, HDE.out.len, HD.out.len]; omega)).mono ?_
              rintro e W10 ⟨v10, hd10, rfl, hb⟩
              have HS := hid (HS.out.trans (hb.mono HS.out.size)); clear hb
              refine hK.out _ _ HS.out ?_; clear hK K
              try simp only [Act.put, List.setIfInBounds_toArray, List.set_cons_zero, List.set_cons_succ]
              have hq := eqD_true hd2 hd10 rfl
              refine wa_tkw 11 (some 39) (.bool false) rfl (by kernel_rfl) rfl rfl HS.out (fun w _ => by go_simp) ?_
              simp only [Act.put, List.setIfInBounds_toArray, List.set_cons_zero, List.set_cons_succ]
              refine wa_tk 12 (some 40) (.bool false) rfl (by kernel_rfl) rfl rfl HS.out (fun w _ => by go_simp) ?_
              simp only [Act.put, List.setIfInBounds_toArray, List.set_cons_zero, List.set_cons_succ]
              refine wa_done (by kernel_rfl) ?_
              clear hq
              go_wp2
              go_roundw
              case rel => exact ⟨k + 1, _, v2, v3, by omega, by go_num, hd2, hd3, hid (HC5.out.ups HS.out), hid (HC6.out.ups HS.out), hid (HR5.out.ups HS.out), hid (HR6.out.ups HS.out), hid (HLC.out.ups HS.out), hid (HBE.out.trans (HS.out.mono HBE.out.size))⟩
              case measure => simp [intOf]; omega
          · go_wp2
            go_ret
            exact ⟨rfl, HB.out⟩
      · obtain ⟨p, cap, rfl, _, _⟩ := hoe.ds.form
        have h00 : (digs b).length = 0 := by omega
        rw [h00]
        clear hoe h0 h00 hlen
        go_wp2
        go_loopw [17] (fun t wr => t = .int .i64 0 ∧ w2 = wr) (fun _ _ => 0)
        case atStart => exact ⟨rfl, rfl⟩
        case round =>
          obtain ⟨rfl, rfl⟩ := hrel
          go_wp2
          go_ret
          exact ⟨rfl, HB2.out⟩
    · go_wp2
      go_loopw [17] (fun t wr => t = .int .i64 0 ∧ w2 = wr) (fun _ _ => 0)
      case atStart => exact ⟨rfl, rfl⟩
      case round =>
        obtain ⟨rfl, rfl⟩ := hrel
        go_wp2
        go_ret
        exact ⟨rfl, HB2.out⟩
end Go.Proofs.YtilnecckgjjcgaaDoor.Dg

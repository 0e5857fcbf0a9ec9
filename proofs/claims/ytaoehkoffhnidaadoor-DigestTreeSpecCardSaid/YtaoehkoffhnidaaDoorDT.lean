/- Contract of Climb: the digest to which a path leads, or the refusal. -/
import Derived.Test.YtaoehkoffhnidaaDoorDO
import Derived.Laws.ResultCell
namespace Go.Proofs.YtaoehkoffhnidaaDoor.Dg
open Go.RowKit Go
set_option linter.unusedVariables false
set_option maxRecDepth 20000
set_option linter.unusedSimpArgs false
set_option maxRecDepth 100000 in
set_option maxHeartbeats 4000000 in
theorem climb_one (i n : Nat) (d : List UInt8) (vs : List Value) (q : Option Addr) (len cap : Nat) (w : World) (hk : Konst w) (hn : n = 1) (hd : IsD d vs) : Calls Tryd.prog 75 #[.agg vs.toArray, .int .i64 i, .int .i64 n, .slice q len cap] w (RetD w (tagd leafS d)) := by
  have HK := hid hk; have HD := hid hd
  clear hk hd
  go_enter Tryd.func75, Tryd.ntmps75
  go_upto_region 1 with (fail)
  refine code_box1 ?_
  intro W hcv hz hf hb hs
  obtain ⟨g, hg⟩ : ∃ g, g = w.heap.size := ⟨_, rfl⟩
  rw [← hg] at hcv hz hf hs ⊢
  have HR := hid (Room.mk' hz rfl hf (by omega)); have HB := hid hb; have HCV := hid hcv
  have hgg : w.heap.size ≤ g := by omega
  have hl1 := info26 HD.out.len'
  clear hz hf hb hs hg hcv
  go_wp2_with (first | (refine wpList_load_mid rfl 35 (.tmp 4) rfl g 0 rfl vs _ HCV.out.range Tryd.underlying35 rfl hl1 ?_) | (go_at_call 66; refine (leaf_any d vs _ HD.out (HK.out.ups HB.out)).mono ?_; rintro e w1 ⟨us, hd1, rfl, hb1⟩; obtain ⟨w2, hst, hc2, hbb⟩ := (HR.out.ups hb1).store hd1; have hlen := hd1.len'; have HB2 := hid (hbb _ _ (by omega) (below_tr HB.out hb1)); have HC2 := hid hc2; clear hb1 hbb hc2))
  exact bodyPost_ret (v := .agg us.toArray) (results_cell_mid Tryd.results75 _ _ (g + 1) us _ (by simp only [Array.getD]; rfl) HC2.out.range Tryd.underlying35 rfl (info26 hlen)) rfl ⟨us, hd1, rfl, HB2.out⟩
theorem climb_any (L : Nat) : ∀ (p : List (List UInt8)) (n i : Nat) (d : List UInt8) (vs : List Value) (v : Value) (w : World), p.length = L → plen i n = L → 1 ≤ n → n < 9223372036854775808 → i < n → DS w v p → IsD d vs → Konst w →
    Calls Tryd.prog 75 #[.agg vs.toArray, .int .i64 i, .int .i64 n, v] w (RetD w (clm d i n p)) := by
  induction L with
  | zero =>
    intro p n i d vs v w hp hl h1 hn hi hv hd hk
    have h2 : n = 1 := by
      apply Classical.byContradiction
      intro h
      by_cases hlo : i < fp n
      · rw [plen_lo i n (by omega) hlo] at hl; omega
      · rw [plen_hi i n (by omega) hlo] at hl; omega
    obtain ⟨q, cap, rfl, _, _⟩ := hv.form
    rw [clm_one d i n p (by omega)]
    exact climb_one i n d vs q _ cap w hk h2 hd
  | succ L ih =>
    intro p n i d vs v w hp hl h1 hn hi hv hd hk
    have h2 : 2 ≤ n := by
      apply Classical.byContradiction
      intro h
      rw [plen_one i n (by omega)] at hl; omega
    obtain ⟨gp, op, cap, rfl, h4, h5, h6, h7, h8⟩ := hv.pos (by omega)
    have h9 := fp_lt n h2; have h10 := fp_pos n h2
    have hx : p[L]? = some (p.getLastD []) := by
      rw [List.getLastD_eq_getLast?, List.getLast?_eq_getElem?, hp, Nat.add_sub_cancel, List.getElem?_eq_getElem (by omega)]; rfl
    obtain ⟨hxc, hxd⟩ := cells_elem h6 h8 hx
    have hdl : p.dropLast = p.take L := by rw [List.dropLast_eq_take, hp, Nat.add_sub_cancel]
    rw [hp]
    by_cases hlo : i < fp n
    · rw [clm_lo d i n p h2 hlo]
      rw [plen_lo i n h2 hlo] at hl
      exact climb_lo n _ cap gp op i L (L + 1) rfl _ _ vs _ w hk rfl h2 hn h9 h10 (by omega) h5 hlo hd.len' hxd _ rfl hxc h7
        (fun W hb => by rw [hdl]; exact ih _ _ _ d vs _ W (by rw [List.length_take]; omega) (by omega) (by omega) (by omega) hlo ((DS.take h6 h7 h8 L (by omega) (by omega) h5).ups hb) hd (hk.ups hb))
    · rw [clm_hi d i n p h2 hlo]
      rw [plen_hi i n h2 hlo] at hl
      exact climb_hi n _ cap gp op i L (L + 1) rfl _ _ vs _ w hk rfl h2 hn h9 h10 (by omega) h5 hlo hi hd.len' hxd _ rfl hxc h7
        (fun W hb => by rw [hdl]; exact ih _ _ _ d vs _ W (by rw [List.length_take]; omega) (by omega) (by omega) (by omega) (by omega) ((DS.take h6 h7 h8 L (by omega) (by omega) h5).ups hb) hd (hk.ups hb))
/-- the outcome 'this digest and this error number' -/
def RetC (w : World) (l : List UInt8) (e : Int) (en : Ending) (w' : World) : Prop := ∃ vs, IsD l vs ∧ en = .returned (.tuple #[.agg vs.toArray, .int .i64 e]) ∧ Below w.heap.size w w'
def zerosD : List UInt8 := List.replicate 32 0
theorem results_cell_two {P : Program} {fn : Func} {p u : Tmp} {ty : TypeId} (h : fn.results = #[.cell p ty, .tmp u]) (tmps : Array Value) (w : World) (g : Nat) (cs : List Value) (d : TypeDesc) (e : Value)
    (hp : tmps.getD p undef = .pointer (some ⟨g, 0, none⟩)) (hc : w.rangeAt g 0 cs) (hu : P.underlying ty = some d) (hd : d.isRow = true) (hi : (P.info? ty).map (·.size) = some cs.length) (he : tmps.getD u undef = e) :
    (results fn tmps).run P w = .ok (.tuple #[.agg cs.toArray, e]) w := by
  have hp' : tmps[p]?.getD undef = .pointer (some ⟨g, 0, none⟩) := by simpa using hp
  have he' : tmps[u]?.getD undef = e := by simpa using he
  rw [results_cell_tmp h]
  simp [hp', he', asAddr, run_loadVar_mid w g 0 ty cs d hc hu hd hi]
set_option maxRecDepth 100000 in
set_option maxHeartbeats 4000000 in
theorem Climb_ok (p : List (List UInt8)) (n i : Nat) (d : List UInt8) (vs : List Value) (v : Value) (w : World) (hl : p.length = plen i n) (h1 : 1 ≤ n) (hn : n ≤ 1099511627776) (hi : i < n) (hv : DS w v p) (hd : IsD d vs) (hk : Konst w) :
    Calls Tryd.prog 39 #[.agg vs.toArray, .int .i64 i, .int .i64 n, v] w (RetC w (clm d i n p) 0) := by
  have HV := hid hv
  obtain ⟨q, cap, rfl, h4, h5⟩ := hv.form
  have hb64 := plen_le 63 i n (by omega)
  have HK := hid hk; have HD := hid hd
  generalize hm : p.length = m at *
  have HL := hid hl; have HM := hid hm
  clear hk hd hv hl hm
  go_enter Tryd.func39, Tryd.ntmps39
  go_upto_region 1 with (fail)
  refine code_box1 ?_
  intro W hcv hz hf hb hs
  obtain ⟨g, hg⟩ : ∃ g, g = w.heap.size := ⟨_, rfl⟩
  rw [← hg] at hcv hz hf hs ⊢
  have HR := hid (Room.mk' hz rfl hf (by omega)); have HB := hid hb; have HCV := hid hcv
  have hgg : w.heap.size ≤ g := by omega
  have hl1 := info26 HD.out.len'
  have f1 : ¬ ((n : Int) < 1) := by omega
  have f2 : ¬ ((1099511627776 : Int) < n) := by omega
  have f3 : (i : Int) < n := by omega
  clear hz hf hb hs hg hcv
  go_wp2_with fail
  refine (pathLength_any i n _ hi (by omega)).mono ?_
  rintro e w' ⟨rfl, rfl⟩
  rw [← HL.out]
  go_wp2_with (first | (refine wpList_load_mid rfl 35 (.tmp 4) rfl g 0 rfl vs _ HCV.out.range Tryd.underlying35 rfl hl1 ?_) | (go_at_call 75; refine (climb_any m p n i d vs _ _ HM.out HL.out.symm h1 (by omega) hi (HV.out.ups HB.out) HD.out (HK.out.ups HB.out)).mono ?_; rintro e w1 ⟨us, hd1, rfl, hb1⟩; obtain ⟨w2, hst, hc2, hbb⟩ := (HR.out.ups hb1).store hd1; have hlen := hd1.len'; have HB2 := hid (hbb _ _ (by omega) (below_tr HB.out hb1)); have HC2 := hid hc2; clear hb1 hbb hc2))
  exact bodyPost_ret (v := .tuple #[.agg us.toArray, .int .i64 0]) (results_cell_two Tryd.results39 _ _ (g + 1) us _ _ (by simp only [Array.getD]; rfl) HC2.out.range Tryd.underlying35 rfl (info26 hlen) (by simp only [Array.getD]; rfl)) rfl ⟨us, hd1, rfl, HB2.out⟩
theorem isD_zeros : IsD zerosD (zerosD.map vb) := isD_of (by simp [zerosD])
set_option maxRecDepth 100000 in
set_option maxHeartbeats 4000000 in
theorem Climb_bad (m : Nat) (n i : Int) (d : List UInt8) (vs : List Value) (q : Option Addr) (cap : Nat) (w : World) (hbad : n < 1 ∨ 1099511627776 < n ∨ i < 0 ∨ n ≤ i ∨ m ≠ plen i.toNat n.toNat) (hd : IsD d vs) (hm : m < 9223372036854775808) (hn : n < 9223372036854775808) :
    Calls Tryd.prog 39 #[.agg vs.toArray, .int .i64 i, .int .i64 n, .slice q m cap] w (RetC w zerosD 1) := by
  have HD := hid hd
  clear hd
  go_enter Tryd.func39, Tryd.ntmps39
  go_upto_region 1 with (fail)
  refine code_box1 ?_
  intro W hcv hz hf hb hs
  obtain ⟨g, hg⟩ : ∃ g, g = w.heap.size := ⟨_, rfl⟩
  rw [← hg] at hcv hz hf hs ⊢
  have hgg : w.heap.size ≤ g := by omega
  have HR := hid (Room.mk' hz rfl hf (by omega))
  obtain ⟨hc2, _, hbb⟩ := HR.out.put isD_zeros
  have HC2 := hid hc2; have HB2 := hid (hbb _ _ (by omega) hb)
  have ht : W.there (g + 1) 0 (zerosD.map vb).toArray.size := by rw [List.size_toArray, List.length_map, show zerosD.length = 32 from by simp [zerosD]]; exact HR.out.there
  have HT := hid ht; have HB := hid hb
  have hi26 : (Tryd.prog.info? 35).map (·.size) = some (zerosD.map vb).toArray.size := by kernel_rfl
  have hlen : (zerosD.map vb).length = 32 := by simp [zerosD]
  have H1 := hid (isD_zeros.one)
  have H26 := hid hi26; have HL := hid (info26 hlen)
  clear hz hf hb hs hg hcv hc2 hbb ht hi26 hlen
  by_cases c1 : n < 1
  · clear hbad
    go_wp2_with (refine wpList_store_mid rfl 35 (.tmp 8) (.tmp 33) rfl (g + 1) 0 (zerosD.map vb).toArray rfl rfl HT.out H26.out H1.out ?_)
    exact bodyPost_ret (v := .tuple #[.agg (zerosD.map vb).toArray, .int .i64 1]) (results_cell_two Tryd.results39 _ _ (g + 1) (zerosD.map vb) _ _ (by simp only [Array.getD]; rfl) HC2.out.range Tryd.underlying35 rfl HL.out (by simp only [Array.getD]; rfl)) rfl ⟨_, isD_zeros, rfl, HB2.out⟩
  by_cases c2 : 1099511627776 < n
  · clear hbad
    go_wp2_with (refine wpList_store_mid rfl 35 (.tmp 8) (.tmp 33) rfl (g + 1) 0 (zerosD.map vb).toArray rfl rfl HT.out H26.out H1.out ?_)
    exact bodyPost_ret (v := .tuple #[.agg (zerosD.map vb).toArray, .int .i64 1]) (results_cell_two Tryd.results39 _ _ (g + 1) (zerosD.map vb) _ _ (by simp only [Array.getD]; rfl) HC2.out.range Tryd.underlying35 rfl HL.out (by simp only [Array.getD]; rfl)) rfl ⟨_, isD_zeros, rfl, HB2.out⟩
  by_cases c3 : i < 0
  · clear hbad
    go_wp2_with (refine wpList_store_mid rfl 35 (.tmp 8) (.tmp 33) rfl (g + 1) 0 (zerosD.map vb).toArray rfl rfl HT.out H26.out H1.out ?_)
    exact bodyPost_ret (v := .tuple #[.agg (zerosD.map vb).toArray, .int .i64 1]) (results_cell_two Tryd.results39 _ _ (g + 1) (zerosD.map vb) _ _ (by simp only [Array.getD]; rfl) HC2.out.range Tryd.underlying35 rfl HL.out (by simp only [Array.getD]; rfl)) rfl ⟨_, isD_zeros, rfl, HB2.out⟩
  by_cases c4 : n ≤ i
  · clear hbad
    go_wp2_with (refine wpList_store_mid rfl 35 (.tmp 8) (.tmp 33) rfl (g + 1) 0 (zerosD.map vb).toArray rfl rfl HT.out H26.out H1.out ?_)
    exact bodyPost_ret (v := .tuple #[.agg (zerosD.map vb).toArray, .int .i64 1]) (results_cell_two Tryd.results39 _ _ (g + 1) (zerosD.map vb) _ _ (by simp only [Array.getD]; rfl) HC2.out.range Tryd.underlying35 rfl HL.out (by simp only [Array.getD]; rfl)) rfl ⟨_, isD_zeros, rfl, HB2.out⟩
  obtain ⟨n', rfl⟩ := Int.eq_ofNat_of_zero_le (by omega : 0 ≤ n)
  obtain ⟨i', rfl⟩ := Int.eq_ofNat_of_zero_le (by omega : 0 ≤ i)
  have c5 : ¬ m = plen i' n' := by
    intro h; rcases hbad with h1 | h1 | h1 | h1 | h1
    all_goals first | omega | exact h1 h
  have hp64 := plen_le 63 i' n' (by omega)
  clear hbad
  go_wp2_with fail
  refine (pathLength_any i' n' _ (by omega) (by omega)).mono ?_
  rintro e w' ⟨rfl, rfl⟩
  obtain ⟨u, hu⟩ : ∃ u, u = plen i' n' := ⟨_, rfl⟩
  rw [← hu] at c5 hp64 ⊢
  clear hu
  have hne : ((m : Int) == (u : Int)) = false := by simp; omega
  have hne2 : ¬ ((m : Int) = (u : Int)) := by omega
  clear hp64 hm hn c1 c2 c3 c4
  go_wp2_with (refine wpList_store_mid rfl 35 (.tmp 8) (.tmp 33) rfl (g + 1) 0 (zerosD.map vb).toArray rfl rfl HT.out H26.out H1.out ?_)
  exact bodyPost_ret (v := .tuple #[.agg (zerosD.map vb).toArray, .int .i64 1]) (results_cell_two Tryd.results39 _ _ (g + 1) (zerosD.map vb) _ _ (by simp only [Array.getD]; rfl) HC2.out.range Tryd.underlying35 rfl HL.out (by simp only [Array.getD]; rfl)) rfl ⟨_, isD_zeros, rfl, HB2.out⟩
end Go.Proofs.YtaoehkoffhnidaaDoor.Dg

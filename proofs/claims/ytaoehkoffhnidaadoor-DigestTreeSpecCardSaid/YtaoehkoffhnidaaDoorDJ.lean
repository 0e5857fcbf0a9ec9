/- Contracts of leaves, pairs, nodes and chains: hashes under their tags; only new memory is written. -/
import Derived.Test.YtaoehkoffhnidaaDoorDI
import Derived.Test.YtaoehkoffhnidaaDoorDPure
import Derived.ArgAppend
import Derived.Deep.RegionLaw
namespace Go.Proofs.YtaoehkoffhnidaaDoor.Dg
open Go.RowKit Go
set_option linter.unusedVariables false
set_option maxRecDepth 20000
set_option linter.unusedSimpArgs false
theorem Own.of_row {w : World} {base n : Nat} {v : Value} {l : List UInt8} (h : w.ownsRow base 5 1 v n (l.map vb)) (h0 : 0 < l.length) : ∃ g cap, v = .slice (some ⟨g, 0, none⟩) l.length cap ∧ Own w base g cap l := by
  have hn : l.length = n := by have := h.1; simpa using this
  rcases h.2 with ⟨rfl, h2⟩ | ⟨g, cap, cur, rfl, _⟩
  · omega
  · refine ⟨g, cap, by rw [hn], ?_⟩
    unfold Own; rw [hn]; exact h
theorem append_grow {w : World} {a1 a2 : Addr} {l1 l2 : List UInt8} {cap c : Nat} (h1 : Cells w a1 (l1.map vb)) (h2 : Cells w a2 (l2.map vb)) (hg : cap < l1.length + l2.length) (hb : l1.length + l2.length ≤ 140737488355328) :
    ∃ g cap' w', (Builtin.append_ #[22, 22] 22 #[.slice (some a1) l1.length cap, .slice (some a2) l2.length c]).run Tryd.prog w = .ok (.slice (some ⟨g, 0, none⟩) (l1 ++ l2).length cap') w' ∧ Own w' w.heap.size g cap' (l1 ++ l2) ∧ Below w.heap.size w w' := by
  obtain ⟨i, hi, hf⟩ := Option.map_eq_some_iff.1 Tryd.info5
  simp only [Prod.mk.injEq] at hf
  obtain ⟨hz, hs, hby⟩ := hf
  obtain ⟨v', w', h3, h4, h5⟩ := run_append_arg_grows (P := Tryd.prog) w 22 22 5 i (.int .u8 0) 1 1 Tryd.underlying22 hi hz hs hby rfl (by omega) a1 l1.length cap (l1.map vb) (by simp) h1 a2 l2.length c (l2.map vb) (by simp) h2 hg (by unfold maxLen; omega) (by omega)
  rw [← List.map_append] at h4
  obtain ⟨g, cap', rfl, h6⟩ := Own.of_row h4 (by rw [List.length_append]; omega)
  exact ⟨g, cap', w', h3, h6, ⟨h5.os, h5.tape, h5.output, h5.size, fun k hk => h5.block k hk (by intro e; cases e)⟩⟩
theorem step_append_run {P : Program} {w w' : World} {ops : Array Oper} {o : Oper} {a : Act} {K : Act → World → Prop} {Q : Exit → Act → World → Prop} {E : Prop}
    (hg : o.guard = none) (s x : Operand) (t u : TypeId) (hop : o.op = Op.call { callee := Callee.builtin Builtin.append, args := #[s, x], argTypes := #[t, u] })
    (vs vx r : Value) (hs : a.eval s = vs) (hx : a.eval x = vx) (hrun : (Builtin.append_ #[t, u] o.type #[vs, vx]).run P w = .ok r w') (hK : K (a.put o.dst r) w') :
    if Region.wanted o (yielded ops a.tmps) = true then Oper.wp P o a w K Q else E := by
  have hw : Region.wanted o (yielded ops a.tmps) = true := by simp [Region.wanted, hg]
  rw [if_pos hw]
  unfold Oper.wp
  simp [execOp, hop, resolve, invoke, builtin, hs, hx, hrun, Result.andThen]
  exact hK
theorem code_box1 {P : Program} {c : Code} {Q : Exit → Act → World → Prop} {a : Act} {w : World} {us zs : List Value} {u t : TypeId}
    (h : ∀ W, Cells W ⟨w.heap.size, 0, none⟩ us → Cells W ⟨w.heap.size + 1, 0, none⟩ zs → Free W (w.heap.size + 1) → Below w.heap.size w W → W.heap.size = w.heap.size + 2 → c.wp P Q a W) :
    c.wp P Q a ((w.alloc (.cells us.toArray u)).alloc (.cells zs.toArray t)) := by
  have e : (w.alloc (.cells us.toArray u)).heap.size = w.heap.size + 1 := by simp
  have h2 := cells_alloc (w.alloc (.cells us.toArray u)) zs t
  have h3 := free_alloc (w.alloc (.cells us.toArray u)) zs.toArray t
  rw [e] at h2 h3
  exact h _ ((cells_alloc w us u).ups (below_al _ _)) h2 h3 (below_tr (below_al _ _) (below_al _ _)) (by simp)
theorem code_box2 {P : Program} {c : Code} {Q : Exit → Act → World → Prop} {a : Act} {w : World} {us ss zs : List Value} {u s t : TypeId}
    (h : ∀ W, Cells W ⟨w.heap.size, 0, none⟩ us → Cells W ⟨w.heap.size + 1, 0, none⟩ ss → Cells W ⟨w.heap.size + 1 + 1, 0, none⟩ zs → Free W (w.heap.size + 1 + 1) → Below w.heap.size w W → W.heap.size = w.heap.size + 3 → c.wp P Q a W) :
    c.wp P Q a (((w.alloc (.cells us.toArray u)).alloc (.cells ss.toArray s)).alloc (.cells zs.toArray t)) := by
  have e : (w.alloc (.cells us.toArray u)).heap.size = w.heap.size + 1 := by simp
  have e2 : ((w.alloc (.cells us.toArray u)).alloc (.cells ss.toArray s)).heap.size = w.heap.size + 1 + 1 := by simp
  have h1 := cells_alloc (w.alloc (.cells us.toArray u)) ss s
  have h2 := cells_alloc ((w.alloc (.cells us.toArray u)).alloc (.cells ss.toArray s)) zs t
  have h3 := free_alloc ((w.alloc (.cells us.toArray u)).alloc (.cells ss.toArray s)) zs.toArray t
  rw [e2] at h2 h3
  rw [e] at h1
  exact h _ (((cells_alloc w us u).ups (below_al _ _)).ups (below_al _ _)) (h1.ups (below_al _ _)) h2 h3 (below_tr (below_tr (below_al _ _) (below_al _ _)) (below_al _ _)) (by simp)
theorem Room.mk' {W : World} {g : Nat} {zs : List Value} (h1 : Cells W ⟨g, 0, none⟩ zs) (h2 : zs.length = 32) (h3 : Free W g) (h4 : g < W.heap.size) : Room W g := ⟨⟨zs, h1, h2⟩, h3, h4⟩
theorem Konst.room {w w' : World} (h : Konst w) (hb : Below w.heap.size w w') : Konst w' := h.ups hb
set_option maxRecDepth 100000 in
set_option maxHeartbeats 4000000 in
theorem leaf_any (l : List UInt8) (vs : List Value) (w : World) (hd : IsD l vs) (hk : Konst w) : Calls Tryd.prog 66 #[.agg vs.toArray] w (RetD w (tagd leafS l)) := by
  have HK := hid hk; clear hk
  go_enter Tryd.func66, Tryd.ntmps66
  go_upto_region 1 with (fail)
  refine code_box1 ?_
  intro W hc hz hf hb hs
  obtain ⟨g, hg⟩ : ∃ g, g = w.heap.size := ⟨_, rfl⟩
  rw [← hg] at hc hz hf hs ⊢
  have HR := hid (Room.mk' hz rfl hf (by omega)); have HB := hid hb
  have HS := hid (hd.bs hc (by omega))
  have hgg : w.heap.size ≤ g := by omega
  clear hc hz hf hb hs hg
  go_wp2_with fail
  refine (Tagged_any ⟨#[108, 101, 97, 102]⟩ _ l _ HS.out (HK.out.ups HB.out) (by decide) (by rw [hd.len]; omega)).mono ?_
  rintro e w1 ⟨us, hd1, rfl, hb1⟩
  obtain ⟨w2, hst, hc2, hbb⟩ := (HR.out.ups hb1).store hd1
  have HC2 := hid hc2
  have HB2 := hid (hbb _ _ (by omega) (below_tr HB.out hb1))
  have hlen := hd1.len'
  clear hb1 hbb hc2
  go_wp2
  exact bodyPost_ret (v := .agg us.toArray) (results_cell_mid Tryd.results66 _ _ (g + 1) us _ (by simp only [Array.getD]; rfl) HC2.out.range Tryd.underlying35 rfl (info26 hlen)) rfl ⟨us, hd1, rfl, HB2.out⟩
set_option maxRecDepth 100000 in
set_option maxHeartbeats 4000000 in
theorem pair_any (tag : ByteArray) (l1 l2 : List UInt8) (v1 v2 : List Value) (w : World) (hd1 : IsD l1 v1) (hd2 : IsD l2 v2) (hk : Konst w) (ht : tag.size ≤ 1000000000) : Calls Tryd.prog 93 #[.string tag, .agg v1.toArray, .agg v2.toArray] w (RetD w (tagd tag.data.toList (l1 ++ l2))) := by
  have HK := hid hk; clear hk
  have HT := hid ht; clear ht
  go_enter Tryd.func93, Tryd.ntmps93
  go_upto_region 1 with (fail)
  refine code_box2 ?_
  intro W hc1 hc2 hz hf hb hs
  obtain ⟨g, hg⟩ : ∃ g, g = w.heap.size := ⟨_, rfl⟩
  rw [← hg] at hc1 hc2 hz hf hs ⊢
  have HR := hid (Room.mk' hz rfl hf (by omega)); have HB := hid hb
  have HC1 := hid hc1; have HC2 := hid hc2
  have hgg : w.heap.size ≤ g := by omega
  clear hc1 hc2 hz hf hb hs hg
  go_wp2_with fail
  obtain ⟨W3, hW3⟩ : ∃ W3, W3 = W.drew := ⟨_, rfl⟩
  have HW3 := hid hW3
  obtain ⟨ga, ca, w4, happ, hown, hb4⟩ := append_grow (w := W3) (a1 := ⟨g, 0, none⟩) (a2 := ⟨g + 1, 0, none⟩) (l1 := l1) (l2 := l2) (cap := 32) (c := 32) (by rw [HW3.out, ← hd1.eq]; exact HC1.out) (by rw [HW3.out, ← hd2.eq]; exact HC2.out) (by rw [hd1.len, hd2.len]; omega) (by rw [hd1.len, hd2.len]; omega)
  have h64 : (l1 ++ l2).length = 64 := by rw [List.length_append, hd1.len, hd2.len]
  have hbs := hown.bs
  rw [h64] at hbs
  rw [h64, hd1.len, hd2.len] at happ
  have HO := hid hbs
  clear hbs h64
  have hb3 : Below W.heap.size W W3 := by rw [HW3.out]; exact (Below.refl _ _).drew
  have HB4 := hid (below_tr (below_tr HB.out hb3) hb4)
  have HR4 := hid ((HR.out.ups hb3).ups hb4)
  have HAPP := hid happ
  rw [hW3] at HAPP
  clear happ hown hb4 hb3 hW3
  go_region_law (first | (refine step_append_run rfl (.tmp 8) (.tmp 9) 22 22 rfl _ _ _ rfl rfl HAPP.out ?_) | (go_simp; go_at_call 63; refine (Tagged_any tag _ (l1 ++ l2) _ HO.out (HK.out.ups HB4.out) HT.out (by rw [List.length_append, hd1.len, hd2.len]; omega)).mono ?_; rintro e w5 ⟨us, hd, rfl, hb5⟩; obtain ⟨w6, hst, hc6, hbb⟩ := (HR4.out.ups hb5).store hd; have hlen := hd.len'; have HB6 := hid (hbb _ _ (by omega) (below_tr HB4.out hb5)); have HC6 := hid hc6; clear hb5 hbb hc6))
  all_goals
    go_wp2
    exact bodyPost_ret (v := .agg us.toArray) (results_cell_mid Tryd.results93 _ _ (g + 1 + 1) us _ (by simp only [Array.getD]; rfl) HC6.out.range Tryd.underlying35 rfl (info26 hlen)) rfl ⟨us, hd, rfl, HB6.out⟩
set_option maxRecDepth 100000 in
set_option maxHeartbeats 4000000 in
theorem node_any (l1 l2 : List UInt8) (v1 v2 : List Value) (w : World) (hd1 : IsD l1 v1) (hd2 : IsD l2 v2) (hk : Konst w) : Calls Tryd.prog 68 #[.agg v1.toArray, .agg v2.toArray] w (RetD w (tagd nodeS (l1 ++ l2))) := by
  have HK := hid hk; clear hk
  go_enter Tryd.func68, Tryd.ntmps68
  go_upto_region 1 with (fail)
  refine code_box2 ?_
  intro W hc1 hc2 hz hf hb hs
  obtain ⟨g, hg⟩ : ∃ g, g = w.heap.size := ⟨_, rfl⟩
  rw [← hg] at hc1 hc2 hz hf hs ⊢
  have HR := hid (Room.mk' hz rfl hf (by omega)); have HB := hid hb
  have HC1 := hid hc1; have HC2 := hid hc2
  have hgg : w.heap.size ≤ g := by omega
  have hl1 := info26 hd1.len'; have hl2 := info26 hd2.len'
  clear hc1 hc2 hz hf hb hs hg
  go_wp2_with (first | (refine wpList_load_mid rfl 35 (.tmp 2) rfl g 0 rfl v1 _ HC1.out.range Tryd.underlying35 rfl hl1 ?_) | (refine wpList_load_mid rfl 35 (.tmp 3) rfl (g + 1) 0 rfl v2 _ HC2.out.range Tryd.underlying35 rfl hl2 ?_) | (go_at_call 93; refine (pair_any ⟨#[110, 111, 100, 101]⟩ l1 l2 v1 v2 _ hd1 hd2 (HK.out.ups HB.out) (by decide)).mono ?_; rintro e w5 ⟨us, hd, rfl, hb5⟩; obtain ⟨w6, hst, hc6, hbb⟩ := (HR.out.ups hb5).store hd; have hlen := hd.len'; have HB6 := hid (hbb _ _ (by omega) (below_tr HB.out hb5)); have HC6 := hid hc6; clear hb5 hbb hc6))
  exact bodyPost_ret (v := .agg us.toArray) (results_cell_mid Tryd.results68 _ _ (g + 1 + 1) us _ (by simp only [Array.getD]; rfl) HC6.out.range Tryd.underlying35 rfl (info26 hlen)) rfl ⟨us, hd, rfl, HB6.out⟩
set_option maxRecDepth 100000 in
set_option maxHeartbeats 4000000 in
theorem Chain_any (l1 l2 : List UInt8) (v1 v2 : List Value) (w : World) (hd1 : IsD l1 v1) (hd2 : IsD l2 v2) (hk : Konst w) : Calls Tryd.prog 65 #[.agg v1.toArray, .agg v2.toArray] w (RetD w (tagd chainS (l1 ++ l2))) := by
  have HK := hid hk; clear hk
  go_enter Tryd.func65, Tryd.ntmps65
  go_upto_region 1 with (fail)
  refine code_box2 ?_
  intro W hc1 hc2 hz hf hb hs
  obtain ⟨g, hg⟩ : ∃ g, g = w.heap.size := ⟨_, rfl⟩
  rw [← hg] at hc1 hc2 hz hf hs ⊢
  have HR := hid (Room.mk' hz rfl hf (by omega)); have HB := hid hb
  have HC1 := hid hc1; have HC2 := hid hc2
  have hgg : w.heap.size ≤ g := by omega
  have hl1 := info26 hd1.len'; have hl2 := info26 hd2.len'
  clear hc1 hc2 hz hf hb hs hg
  go_wp2_with (first | (refine wpList_load_mid rfl 35 (.tmp 2) rfl g 0 rfl v1 _ HC1.out.range Tryd.underlying35 rfl hl1 ?_) | (refine wpList_load_mid rfl 35 (.tmp 3) rfl (g + 1) 0 rfl v2 _ HC2.out.range Tryd.underlying35 rfl hl2 ?_) | (go_at_call 93; refine (pair_any ⟨#[99, 104, 97, 105, 110]⟩ l1 l2 v1 v2 _ hd1 hd2 (HK.out.ups HB.out) (by decide)).mono ?_; rintro e w5 ⟨us, hd, rfl, hb5⟩; obtain ⟨w6, hst, hc6, hbb⟩ := (HR.out.ups hb5).store hd; have hlen := hd.len'; have HB6 := hid (hbb _ _ (by omega) (below_tr HB.out hb5)); have HC6 := hid hc6; clear hb5 hbb hc6))
  exact bodyPost_ret (v := .agg us.toArray) (results_cell_mid Tryd.results65 _ _ (g + 1 + 1) us _ (by simp only [Array.getD]; rfl) HC6.out.range Tryd.underlying35 rfl (info26 hlen)) rfl ⟨us, hd, rfl, HB6.out⟩
end Go.Proofs.YtaoehkoffhnidaaDoor.Dg

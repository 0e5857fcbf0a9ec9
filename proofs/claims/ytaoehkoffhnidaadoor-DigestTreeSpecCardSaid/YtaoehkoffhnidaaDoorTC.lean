/- The reference of layer 2: the path of an element. -/
import Derived.Test.YtaoehkoffhnidaaDoorTB
namespace Go.Proofs.YtaoehkoffhnidaaDoor.Dg
open Go.RowKit Go
set_option linter.unusedVariables false
set_option maxRecDepth 20000
set_option linter.unusedSimpArgs false
/-- the outcome 'a new list of these digests', be it an empty one that is not nil -/
def RetE (w : World) (ds : List (List UInt8)) (e : Ending) (w' : World) : Prop := ∃ v, e = .returned v ∧ OE w' w.heap.size v ds ∧ Below w.heap.size w w'
theorem OE.mono {w : World} {b b' : Nat} {v : Value} {ds : List (List UInt8)} (h : OE w b' v ds) (hb : b ≤ b') : OE w b v ds := by
  rcases h with h | h
  · exact .inl (h.mono hb)
  · exact .inr h
section
variable {o : Oper} {a : Act} {w : World} {K : Act → World → Prop} {Q : Exit → Act → World → Prop}
/-- append to a list of the call's own, or to an empty one -/
theorem st_oe (dt : Option Tmp) (hd : o.dst = dt) (s x : Operand) (hop : o.op = Op.call { callee := Callee.builtin Builtin.append, args := #[s, x], argTypes := #[46, 46] }) (ht : o.type = 46)
    (base : Nat) (ds es : List (List UInt8)) (hs : OE w base (a.eval s) ds) (hx : DA w (a.eval x) es) (hn : ds.length + es.length ≤ 1000000000) (hb : base ≤ w.heap.size)
    (h : ∀ v' W, OE W base v' (ds ++ es) → Below base w W → K (a.put dt v') W) : Oper.wp Tryd.prog o a w K Q := by
  subst hd
  obtain ⟨v', w', h1, h2, h3⟩ := append_oe hs hx hn hb
  have hk := h v' w' h2 h3
  unfold Oper.wp
  simp [execOp, hop, resolve, invoke, builtin, h1, ht, Result.andThen]
  exact hk
end
set_option maxRecDepth 100000 in
set_option maxHeartbeats 4000000 in
theorem rpath_lo (n k cap gl o i : Nat) (t : List UInt8) (p : List (List UInt8)) (w : World) (hf : fp n = k) (h2 : 2 ≤ n) (hn : n ≤ 4398046511104) (h3 : k < n) (h0 : 0 < k) (h4 : n ≤ cap) (h5 : cap < 9223372036854775808) (hi : i < k) (hp : p.length ≤ 1000)
    (c1 : ∀ W, Below w.heap.size w W → Calls Tryd.prog 73 #[.slice (some ⟨gl, o, none⟩) k cap, .int .i64 i] W (RetE W p))
    (c2 : ∀ W, Below w.heap.size w W → Calls Tryd.prog 35 #[.slice (some ⟨gl, o + k * 32, none⟩) (n - k) (cap - k)] W (RetD W t)) :
    Calls Tryd.prog 73 #[.slice (some ⟨gl, o, none⟩) n cap, .int .i64 i] w (RetE w (p ++ [t])) := by
  have HF := hid hf; have C1 := hid c1; have C2 := hid c2; have HP := hid hp
  clear hf c1 c2 hp
  have hd1 : ((n : Int) == 1) = false := by simp; omega
  go_enter Tryd.func73, Tryd.ntmps73
  go_wp2_with fail
  refine (half_any n k _ h2 hn HF).mono ?_
  rintro e w' ⟨rfl, rfl⟩
  have e1 : k ≤ cap := by omega
  have e2 : ¬ cap = k := by omega
  have e3 : k ≤ n := by omega
  have hla := lit_add
  go_upto_region 5 with fail
  have HS := hid ((Below.refl w.heap.size w).drew)
  refine wa_start (S := fun W' => Below w.heap.size w W') (by kernel_rfl) HS.out ?_
  refine wa_tk 0 (some 16) (.slice (some ⟨gl, o, none⟩) n cap) rfl (by kernel_rfl) rfl rfl HS.out (fun w h0 => by go_simp) ?_
  try simp only [Act.put, List.setIfInBounds_toArray, List.set_cons_zero, List.set_cons_succ]
  refine wa_tk 1 (some 17) (.int .i64 k) rfl (by kernel_rfl) rfl rfl HS.out (fun w h0 => by go_simp) ?_
  try simp only [Act.put, List.setIfInBounds_toArray, List.set_cons_zero, List.set_cons_succ]
  refine wa_tk 2 (some 18) (.slice (some ⟨gl, o, none⟩) k cap) rfl (by kernel_rfl) rfl rfl HS.out (fun w h0 => by go_simp) ?_
  try simp only [Act.put, List.setIfInBounds_toArray, List.set_cons_zero, List.set_cons_succ]
  refine wa_tk 3 (some 19) (.int .i64 i) rfl (by kernel_rfl) rfl rfl HS.out (fun w h0 => by go_simp) ?_
  try simp only [Act.put, List.setIfInBounds_toArray, List.set_cons_zero, List.set_cons_succ]
  refine wa_tk 5 (some 21) (.slice (some ⟨gl, o, none⟩) n cap) rfl (by kernel_rfl) rfl rfl HS.out (fun w h0 => by go_simp) ?_
  try simp only [Act.put, List.setIfInBounds_toArray, List.set_cons_zero, List.set_cons_succ]
  refine wa_tk 6 (some 22) (.int .i64 k) rfl (by kernel_rfl) rfl rfl HS.out (fun w h0 => by go_simp) ?_
  try simp only [Act.put, List.setIfInBounds_toArray, List.set_cons_zero, List.set_cons_succ]
  refine wa_tk 7 (some 23) (.slice (some ⟨gl, o + k * 32, none⟩) (n - k) (cap - k)) rfl (by kernel_rfl) rfl rfl HS.out (fun w h0 => by go_simp) ?_
  try simp only [Act.put, List.setIfInBounds_toArray, List.set_cons_zero, List.set_cons_succ]
  refine wa_branch [4] (by decide +kernel) rfl ?_
  refine ar_op 4 rfl rfl (fun K hK => ?_) ar_nil
  go_simp
  go_at_call 73
  refine (C1.out _ HS.out).mono ?_
  rintro e w1 ⟨v1, rfl, ho1, hb1⟩
  have HO := hid (OE.mono (b := w.heap.size) ho1 HS.out.size)
  have HS := hid (below_tr HS.out hb1); clear hb1 ho1
  refine hK.out _ _ HS.out ?_
  clear hK K
  try simp only [Act.put, List.setIfInBounds_toArray, List.set_cons_zero, List.set_cons_succ]
  refine wa_branch [8] (by decide +kernel) rfl ?_
  refine ar_op 8 rfl rfl (fun K hK => ?_) ar_nil
  go_simp
  go_at_call 35
  refine (C2.out _ HS.out).mono ?_
  rintro e w2 ⟨ut, hdt, rfl, hb2⟩
  have HO := hid (HO.out.ups hb2)
  have HS := hid (below_tr HS.out hb2); clear hb2
  refine hK.out _ _ HS.out ?_
  clear hK K
  try simp only [Act.put, List.setIfInBounds_toArray, List.set_cons_zero, List.set_cons_succ]
  refine wa_branch [9] (by decide +kernel) rfl ?_
  refine ar_op 9 rfl rfl (fun K hK => ?_) ar_nil
  refine st_one (some 25) rfl (.tmp 24) rfl ut t rfl hdt ?_
  intro W3 g3 hda hb3
  have HO := hid (HO.out.ups hb3); have HD := hid hda
  have HS := hid (below_tr HS.out hb3); clear hb3 hda
  refine hK.out _ _ HS.out ?_
  clear hK K
  try simp only [Act.put, List.setIfInBounds_toArray, List.set_cons_zero, List.set_cons_succ]
  refine wa_branch [10] (by decide +kernel) rfl ?_
  refine ar_op 10 rfl rfl (fun K hK => ?_) ar_nil
  refine st_oe (some 26) rfl (.tmp 20) (.tmp 25) rfl rfl w.heap.size p [t] HO.out HD.out (by have := HP.out; simp; omega) HS.out.size ?_
  intro v4 W4 ho4 hb4
  have HO := hid ho4
  have HS := hid (HS.out.trans hb4); clear hb4 ho4
  refine hK.out _ _ HS.out ?_
  clear hK K
  try simp only [Act.put, List.setIfInBounds_toArray, List.set_cons_zero, List.set_cons_succ]
  refine wa_tk 11 (some 4) (v4) rfl (by kernel_rfl) rfl rfl HS.out (fun w h0 => by go_simp) ?_
  try simp only [Act.put, List.setIfInBounds_toArray, List.set_cons_zero, List.set_cons_succ]
  refine wa_done (by decide +kernel) ?_
  go_wp2
  go_ret
  exact ⟨_, rfl, HO.out, HS.out⟩
set_option maxRecDepth 100000 in
set_option maxHeartbeats 4000000 in
theorem rpath_hi (n k cap gl o i : Nat) (t : List UInt8) (p : List (List UInt8)) (w : World) (hf : fp n = k) (h2 : 2 ≤ n) (hn : n ≤ 4398046511104) (h3 : k < n) (h0 : 0 < k) (h4 : n ≤ cap) (h5 : cap < 9223372036854775808) (hi : ¬ i < k) (hin : i < n) (hp : p.length ≤ 1000)
    (c1 : ∀ W, Below w.heap.size w W → Calls Tryd.prog 73 #[.slice (some ⟨gl, o + k * 32, none⟩) (n - k) (cap - k), .int .i64 ((i - k : Nat) : Int)] W (RetE W p))
    (c2 : ∀ W, Below w.heap.size w W → Calls Tryd.prog 35 #[.slice (some ⟨gl, o, none⟩) k cap] W (RetD W t)) :
    Calls Tryd.prog 73 #[.slice (some ⟨gl, o, none⟩) n cap, .int .i64 i] w (RetE w (p ++ [t])) := by
  have HF := hid hf; have C1 := hid c1; have C2 := hid c2; have HP := hid hp
  clear hf c1 c2 hp
  have hd1 : ((n : Int) == 1) = false := by simp; omega
  go_enter Tryd.func73, Tryd.ntmps73
  go_wp2_with fail
  refine (half_any n k _ h2 hn HF).mono ?_
  rintro e w' ⟨rfl, rfl⟩
  have e1 : k ≤ cap := by omega
  have e2 : ¬ cap = k := by omega
  have e3 : k ≤ n := by omega
  have e4 : IntKind.i64.wrap ((i : Int) - k) = ((i - k : Nat) : Int) := by rw [IntWalk.i64_in _ (by omega)]; omega
  have hla := lit_add
  go_upto_region 6 with fail
  have HS := hid ((Below.refl w.heap.size w).drew)
  refine wa_start (S := fun W' => Below w.heap.size w W') (by kernel_rfl) HS.out ?_
  refine wa_tk 0 (some 27) (.slice (some ⟨gl, o, none⟩) n cap) rfl (by kernel_rfl) rfl rfl HS.out (fun w h0 => by go_simp) ?_
  try simp only [Act.put, List.setIfInBounds_toArray, List.set_cons_zero, List.set_cons_succ]
  refine wa_tk 1 (some 28) (.int .i64 k) rfl (by kernel_rfl) rfl rfl HS.out (fun w h0 => by go_simp) ?_
  try simp only [Act.put, List.setIfInBounds_toArray, List.set_cons_zero, List.set_cons_succ]
  refine wa_tk 2 (some 29) (.slice (some ⟨gl, o + k * 32, none⟩) (n - k) (cap - k)) rfl (by kernel_rfl) rfl rfl HS.out (fun w h0 => by go_simp) ?_
  try simp only [Act.put, List.setIfInBounds_toArray, List.set_cons_zero, List.set_cons_succ]
  refine wa_tk 3 (some 30) (.int .i64 i) rfl (by kernel_rfl) rfl rfl HS.out (fun w h0 => by go_simp) ?_
  try simp only [Act.put, List.setIfInBounds_toArray, List.set_cons_zero, List.set_cons_succ]
  refine wa_tk 4 (some 31) (.int .i64 k) rfl (by kernel_rfl) rfl rfl HS.out (fun w h0 => by go_simp) ?_
  try simp only [Act.put, List.setIfInBounds_toArray, List.set_cons_zero, List.set_cons_succ]
  refine wa_tk 5 (some 32) (.int .i64 ((i - k : Nat) : Int)) rfl (by kernel_rfl) rfl rfl HS.out (fun w h0 => by go_simp) ?_
  try simp only [Act.put, List.setIfInBounds_toArray, List.set_cons_zero, List.set_cons_succ]
  refine wa_tk 7 (some 34) (.slice (some ⟨gl, o, none⟩) n cap) rfl (by kernel_rfl) rfl rfl HS.out (fun w h0 => by go_simp) ?_
  try simp only [Act.put, List.setIfInBounds_toArray, List.set_cons_zero, List.set_cons_succ]
  refine wa_tk 8 (some 35) (.int .i64 k) rfl (by kernel_rfl) rfl rfl HS.out (fun w h0 => by go_simp) ?_
  try simp only [Act.put, List.setIfInBounds_toArray, List.set_cons_zero, List.set_cons_succ]
  refine wa_tk 9 (some 36) (.slice (some ⟨gl, o, none⟩) k cap) rfl (by kernel_rfl) rfl rfl HS.out (fun w h0 => by go_simp) ?_
  try simp only [Act.put, List.setIfInBounds_toArray, List.set_cons_zero, List.set_cons_succ]
  refine wa_branch [6] (by decide +kernel) rfl ?_
  refine ar_op 6 rfl rfl (fun K hK => ?_) ar_nil
  go_simp
  go_at_call 73
  refine (C1.out _ HS.out).mono ?_
  rintro e w1 ⟨v1, rfl, ho1, hb1⟩
  have HO := hid (OE.mono (b := w.heap.size) ho1 HS.out.size)
  have HS := hid (below_tr HS.out hb1); clear hb1 ho1
  refine hK.out _ _ HS.out ?_
  clear hK K
  try simp only [Act.put, List.setIfInBounds_toArray, List.set_cons_zero, List.set_cons_succ]
  refine wa_branch [10] (by decide +kernel) rfl ?_
  refine ar_op 10 rfl rfl (fun K hK => ?_) ar_nil
  go_simp
  go_at_call 35
  refine (C2.out _ HS.out).mono ?_
  rintro e w2 ⟨ut, hdt, rfl, hb2⟩
  have HO := hid (HO.out.ups hb2)
  have HS := hid (below_tr HS.out hb2); clear hb2
  refine hK.out _ _ HS.out ?_
  clear hK K
  try simp only [Act.put, List.setIfInBounds_toArray, List.set_cons_zero, List.set_cons_succ]
  refine wa_branch [11] (by decide +kernel) rfl ?_
  refine ar_op 11 rfl rfl (fun K hK => ?_) ar_nil
  refine st_one (some 38) rfl (.tmp 37) rfl ut t rfl hdt ?_
  intro W3 g3 hda hb3
  have HO := hid (HO.out.ups hb3); have HD := hid hda
  have HS := hid (below_tr HS.out hb3); clear hb3 hda
  refine hK.out _ _ HS.out ?_
  clear hK K
  try simp only [Act.put, List.setIfInBounds_toArray, List.set_cons_zero, List.set_cons_succ]
  refine wa_branch [12] (by decide +kernel) rfl ?_
  refine ar_op 12 rfl rfl (fun K hK => ?_) ar_nil
  refine st_oe (some 39) rfl (.tmp 33) (.tmp 38) rfl rfl w.heap.size p [t] HO.out HD.out (by have := HP.out; simp; omega) HS.out.size ?_
  intro v4 W4 ho4 hb4
  have HO := hid ho4
  have HS := hid (HS.out.trans hb4); clear hb4 ho4
  refine hK.out _ _ HS.out ?_
  clear hK K
  try simp only [Act.put, List.setIfInBounds_toArray, List.set_cons_zero, List.set_cons_succ]
  refine wa_tk 13 (some 4) (v4) rfl (by kernel_rfl) rfl rfl HS.out (fun w h0 => by go_simp) ?_
  try simp only [Act.put, List.setIfInBounds_toArray, List.set_cons_zero, List.set_cons_succ]
  refine wa_done (by decide +kernel) ?_
  go_wp2
  go_ret
  exact ⟨_, rfl, HO.out, HS.out⟩
set_option maxHeartbeats 4000000 in
theorem rpath_one (d : List UInt8) (v : Value) (i : Nat) (w : World) (hv : DS w v [d]) : Calls Tryd.prog 73 #[v, .int .i64 i] w (RetE w []) := by
  obtain ⟨p, cap, rfl, h1, h2⟩ := hv.form
  rw [show [d].length = 1 from rfl]
  have hal := below_al w (.cells #[] 35)
  clear hv h1
  go_enter Tryd.func73, Tryd.ntmps73
  go_wp2
  go_ret
  exact ⟨_, rfl, .inr ⟨rfl, _, rfl⟩, hal⟩
theorem rpathTo_any (N : Nat) : ∀ (ds : List (List UInt8)) (v : Value) (i : Nat) (w : World), ds.length ≤ N → ds.length ≤ 4398046511104 → i < ds.length → DS w v ds → Calls Tryd.prog 73 #[v, .int .i64 i] w (RetE w (pathOf ds i)) := by
  induction N with
  | zero => intro ds v i w hn hm hi hv; omega
  | succ N ih =>
    intro ds v i w hn hm hi hv
    by_cases h2 : ds.length < 2
    · match ds, h2, hi with
      | [d], _, _ => rw [pathOf_one _ _ (by simp)]; exact rpath_one d v i w hv
    · obtain ⟨gl, o, cap, rfl, h3, h4, h5, h6, h7⟩ := hv.pos (by omega)
      have h8 := fp_lt ds.length (by omega); have h9 := fp_pos ds.length (by omega)
      have hl : ∀ l j, l.length < 9223372036854775808 → (pathOf l j).length ≤ 1000 := fun l j hl => by
        rw [pathOf_length l.length l j (Nat.le_refl _)]
        have := plen_le 63 j l.length (by omega); omega
      by_cases hlo : i < fp ds.length
      · rw [pathOf_lo ds i (by omega) hlo]
        exact rpath_lo ds.length _ cap gl o i _ _ w rfl (by omega) hm h8 h9 h3 h4 hlo (hl _ _ (by rw [List.length_take]; omega))
          (fun W hb => ih _ _ i W (by rw [List.length_take]; omega) (by rw [List.length_take]; omega) (by rw [List.length_take]; omega) ((DS.take h5 h6 h7 _ (by omega) (by omega) h4).ups hb))
          (fun W hb => rtree_any ds.length _ _ W (by rw [List.length_drop]; omega) (by rw [List.length_drop]; omega) ((DS.drop h5 h6 h7 _ h3 h4).ups hb))
      · rw [pathOf_hi ds i (by omega) hlo]
        exact rpath_hi ds.length _ cap gl o i _ _ w rfl (by omega) hm h8 h9 h3 h4 hlo hi (hl _ _ (by rw [List.length_drop]; omega))
          (fun W hb => ih _ _ (i - fp ds.length) W (by rw [List.length_drop]; omega) (by rw [List.length_drop]; omega) (by rw [List.length_drop]; omega) ((DS.drop h5 h6 h7 _ h3 h4).ups hb))
          (fun W hb => rtree_any ds.length _ _ W (by rw [List.length_take]; omega) (by rw [List.length_take]; omega) ((DS.take h5 h6 h7 _ (by omega) (by omega) h4).ups hb))
/-- the outcome 'a new list of these digests, and no error' -/
def RetQ (w : World) (ds : List (List UInt8)) (e : Ending) (w' : World) : Prop := ∃ v, e = .returned (.tuple #[v, .int .i64 0]) ∧ OE w' w.heap.size v ds ∧ Below w.heap.size w w'
theorem rPath_ok (ds : List (List UInt8)) (v : Value) (i : Nat) (w : World) (hm : ds.length ≤ 4398046511104) (hi : i < ds.length) (hv : DS w v ds) : Calls Tryd.prog 37 #[v, .int .i64 i] w (RetQ w (pathOf ds i)) := by
  obtain ⟨p, cap, rfl, h1, h2⟩ := hv.form
  have HV := hid hv; have HI := hid hi; have HM := hid hm
  clear hv hm
  generalize hn : ds.length = n at *
  have HN := hid hn; clear hn
  go_enter Tryd.func37, Tryd.ntmps37
  go_wp2_with fail
  refine (rpathTo_any n ds _ i _ (by rw [HN.out]; exact Nat.le_refl _) (by rw [HN.out]; exact HM.out) (by rw [HN.out]; exact HI.out) HV.out).mono ?_
  rintro e w1 ⟨v1, rfl, ho, hb⟩
  have HO := hid ho; have HB := hid hb; clear ho hb
  go_wp2
  go_ret2
  exact ⟨_, rfl, HO.out, HB.out⟩
theorem rPath_bad (ds : List (List UInt8)) (v : Value) (i : Int) (w : World) (hi : i < 0 ∨ (ds.length : Int) ≤ i) (hv : DS w v ds) : Calls Tryd.prog 37 #[v, .int .i64 i] w fun e w' => e = .returned (.tuple #[.slice none 0 0, .int .i64 1]) ∧ w' = w := by
  obtain ⟨p, cap, rfl, h1, h2⟩ := hv.form
  clear hv
  generalize hn : ds.length = n at *
  clear hn
  by_cases h0 : i < 0
  · go_enter Tryd.func37, Tryd.ntmps37
    go_wp2
    go_ret2
    exact ⟨rfl, rfl⟩
  · have h3 : (n : Int) ≤ i := by omega
    clear hi
    go_enter Tryd.func37, Tryd.ntmps37
    go_wp2
    go_ret2
    exact ⟨rfl, rfl⟩
end Go.Proofs.YtaoehkoffhnidaaDoor.Dg

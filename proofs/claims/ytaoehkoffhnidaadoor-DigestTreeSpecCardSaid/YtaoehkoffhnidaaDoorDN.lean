/- Contract of the path of an element: its digests, in new memory. -/
import Derived.Test.YtaoehkoffhnidaaDoorDL
import Derived.Great.BuildSlice
import Derived.Laws.AppendOwn
namespace Go.Proofs.YtaoehkoffhnidaaDoor.Dg
open Go.RowKit Go
set_option linter.unusedVariables false
set_option maxRecDepth 20000
set_option linter.unusedSimpArgs false
/-- a list of digests in a row of the call's own (no block below base) -/
def OD (w : World) (base : Nat) (v : Value) (ds : List (List UInt8)) : Prop := (∀ d ∈ ds, d.length = 32) ∧ w.ownsRow base 35 32 v ds.length (ds.flatten.map vb)
theorem OD.nil (w : World) (base : Nat) : OD w base (.slice none 0 0) [] := ⟨by simp, by simpa using World.ownsRow_nil w base 35 32⟩
theorem OD.mono {w : World} {b b' : Nat} {v : Value} {ds : List (List UInt8)} (h : OD w b' v ds) (hb : b ≤ b') : OD w b v ds := by
  obtain ⟨h0, h1, h2⟩ := h
  refine ⟨h0, h1, ?_⟩
  rcases h2 with h2 | ⟨g, cap, cur, e1, e2, e3⟩
  · exact .inl h2
  · exact .inr ⟨g, cap, cur, e1, by omega, e3⟩
theorem OD.grown {w w' : World} {base : Nat} {v : Value} {ds : List (List UInt8)} {r : Option Nat} (h : OD w base v ds) (hg : w.grownBy w' r) (hr : v.ownBlock = none ∨ v.ownBlock ≠ r) : OD w' base v ds := ⟨h.1, World.ownsRow.kept h.2 hg hr⟩
theorem OD.ups {w w' : World} {base : Nat} {v : Value} {ds : List (List UInt8)} (h : OD w base v ds) (hb : Below w.heap.size w w') : OD w' base v ds := by
  refine OD.grown h (grown_of_below (r := none) hb) ?_
  cases v.ownBlock with
  | none => exact .inl rfl
  | some k => exact .inr (by simp)
theorem OD.ds {w : World} {base : Nat} {v : Value} {ds : List (List UInt8)} (h : OD w base v ds) : DS w v ds := by
  have hc := h.2
  obtain ⟨h0, h1, h2⟩ := h
  refine ⟨h0, ?_⟩
  rcases h2 with ⟨rfl, h3⟩ | ⟨g, cap, cur, rfl, e2, e3, e4, e5, e6, e7⟩
  · exact .inl ⟨List.eq_nil_of_length_eq_zero h3, none, 0, rfl, by omega⟩
  · unfold maxLen at e5
    exact .inr ⟨g, 0, cap, rfl, e4, by omega, fun j v hj => World.ownsRow.cells hc rfl j v hj, (World.ownsRow.lt hc g rfl).2⟩
theorem info26s : (Tryd.prog.info? 35).map (fun i => (i.zero.map (fun z => z.cells.size), i.size, i.bytes)) = some (some 32, 32, 32) := by kernel_rfl
theorem append_od {w : World} {base : Nat} {v : Value} {ds es : List (List UInt8)} {a : Addr} {c m : Nat} (h : OD w base v ds) (he : ∀ d ∈ es, d.length = 32) (hm : m = es.length) (hc : Cells w a (es.flatten.map vb)) (hn : ds.length + es.length ≤ 4000000000000) (hb : base ≤ w.heap.size) :
    ∃ v' w', (Builtin.append_ #[46, 46] 46 #[v, .slice (some a) m c]).run Tryd.prog w = .ok v' w' ∧ OD w' base v' (ds ++ es) ∧ Below base w w' := by
  subst hm
  obtain ⟨i, hi, hf⟩ := Option.map_eq_some_iff.1 info26s
  simp only [Prod.mk.injEq] at hf
  obtain ⟨hz, hs, hby⟩ := hf
  obtain ⟨z, hz, hzs⟩ := Option.map_eq_some_iff.1 hz
  obtain ⟨v', w', h1, h2, h3, h4⟩ := run_append_own (P := Tryd.prog) w base 46 46 35 i z 32 32 Tryd.underlying46 hi hz hs hby hzs (by omega) v ds.length _ h.2 a es.length c (es.flatten.map vb) (by rw [List.length_map, flat_length es he]) hc (one_vb _) (by unfold maxLen; omega) (by omega) hb
  refine ⟨v', w', h1, ⟨?_, ?_⟩, ?_⟩
  · intro d hd
    rcases List.mem_append.1 hd with hd | hd
    · exact h.1 d hd
    · exact he d hd
  · rw [List.length_append, List.flatten_append, List.map_append]; exact h2
  · refine (Below.refl base w).grown h3 hb (fun k hk => ?_)
    exact (World.ownsRow.lt h.2 k hk).1
/-- the outcome 'a new list of these digests' -/
def RetL (w : World) (ds : List (List UInt8)) (e : Ending) (w' : World) : Prop := ∃ v, e = .returned v ∧ OD w' w.heap.size v ds ∧ Below w.heap.size w w'
/-- the cells of a slice with one digest, as the walk leaves them -/
def foldD (vs : List Value) : Array Value := List.foldl (fun cs x => cs.setIfInBounds x.2 x.1) #[.int .u8 0, .int .u8 0, .int .u8 0, .int .u8 0, .int .u8 0, .int .u8 0, .int .u8 0, .int .u8 0, .int .u8 0, .int .u8 0, .int .u8 0, .int .u8 0, .int .u8 0, .int .u8 0, .int .u8 0, .int .u8 0, .int .u8 0, .int .u8 0, .int .u8 0, .int .u8 0, .int .u8 0, .int .u8 0, .int .u8 0, .int .u8 0, .int .u8 0, .int .u8 0, .int .u8 0, .int .u8 0, .int .u8 0, .int .u8 0, .int .u8 0, .int .u8 0] vs.zipIdx
theorem foldD_eq {vs : List Value} (h : vs.length = 32) : foldD vs = vs.toArray := by
  have h1 := Great.foldl_set 0 vs 0 #[.int .u8 0, .int .u8 0, .int .u8 0, .int .u8 0, .int .u8 0, .int .u8 0, .int .u8 0, .int .u8 0, .int .u8 0, .int .u8 0, .int .u8 0, .int .u8 0, .int .u8 0, .int .u8 0, .int .u8 0, .int .u8 0, .int .u8 0, .int .u8 0, .int .u8 0, .int .u8 0, .int .u8 0, .int .u8 0, .int .u8 0, .int .u8 0, .int .u8 0, .int .u8 0, .int .u8 0, .int .u8 0, .int .u8 0, .int .u8 0, .int .u8 0, .int .u8 0]
  simp only [Nat.zero_add] at h1
  apply Array.ext_getElem?
  intro k
  refine (h1.2 k).trans ?_
  by_cases hk : k < 32
  · rw [if_pos ⟨Nat.zero_le _, by omega, hk⟩]; simp
  · rw [if_neg (fun x => hk (by have := x.2.1; omega)), Array.getElem?_eq_none (by simp; omega), List.getElem?_toArray, List.getElem?_eq_none (by omega)]
theorem od_push {w1 w2 W3 : World} {base g : Nat} {v : Value} {p : List (List UInt8)} {t : List UInt8} {ut : List Value} (ho : OD w1 base v p) (hb2 : Below w1.heap.size w1 w2) (hb3 : Below w2.heap.size w2 W3) (hd : IsD t ut) (hc : Cells W3 ⟨g, 0, none⟩ ut) (hp : p.length ≤ 1000) (hb : base ≤ w1.heap.size) :
    ∃ v' w', (Builtin.append_ #[46, 46] 46 #[v, .slice (some ⟨g, 0, none⟩) 1 1]).run Tryd.prog W3 = .ok v' w' ∧ OD w' base v' (p ++ [t]) ∧ Below base w1 w' := by
  have hb13 := below_tr hb2 hb3
  obtain ⟨v4, w4, h1, h2, h3⟩ := append_od (m := 1) (c := 1) (es := [t]) (a := ⟨g, 0, none⟩) (ho.ups hb13) (by intro d h; simp at h; subst h; exact hd.len) rfl (by rw [List.flatten_cons, List.flatten_nil, List.append_nil, ← hd.eq]; exact hc) (by simp; omega) (Nat.le_trans hb hb13.size)
  exact ⟨v4, w4, h1, h2, (hb13.mono hb).trans h3⟩
set_option maxRecDepth 100000 in
set_option maxHeartbeats 4000000 in
theorem path_lo (n k cap gl o i : Nat) (t : List UInt8) (p : List (List UInt8)) (w : World) (hk : Konst w) (hf : fp n = k) (h2 : 2 ≤ n) (h3 : k < n) (h0 : 0 < k) (h4 : n ≤ cap) (h5 : cap < 9223372036854775808) (hi : i < k) (hp : p.length ≤ 1000)
    (c1 : ∀ W, Below w.heap.size w W → Calls Tryd.prog 72 #[.slice (some ⟨gl, o, none⟩) k cap, .int .i64 i] W (RetL W p))
    (c2 : ∀ W, Below w.heap.size w W → Calls Tryd.prog 34 #[.slice (some ⟨gl, o + k * 32, none⟩) (n - k) (cap - k)] W (RetD W t)) :
    Calls Tryd.prog 72 #[.slice (some ⟨gl, o, none⟩) n cap, .int .i64 i] w (RetL w (p ++ [t])) := by
  have HK := hid hk; have HF := hid hf; have C1 := hid c1; have C2 := hid c2; have HP := hid hp
  clear hk hf c1 c2 hp
  have hd1 : ((n : Int) == 1) = false := by simp; omega
  go_enter Tryd.func72, Tryd.ntmps72
  go_wp2_with fail
  refine (firstPart_any n _ h2 (by omega)).mono ?_
  rintro e w' ⟨rfl, rfl⟩
  rw [HF.out]
  have e1 : k ≤ cap := by omega
  have e2 : ¬ cap = k := by omega
  have e3 : k ≤ n := by omega
  go_wp2_with fail
  go_region_law (first
    | (refine step_append_run rfl (.tmp 19) (.tmp 24) 46 46 rfl _ _ _ rfl rfl HAPP.out ?_)
    | (go_simp; go_at_call 72; refine (C1.out _ (Below.refl _ _).drew).mono ?_; rintro e w1 ⟨v1, rfl, ho1, hb1⟩; have HO1 := hid (OD.mono (b := w.heap.size) ho1 (Nat.le_refl _)); have HB1 := hid (below_tr (Below.refl w.heap.size w).drew hb1); clear hb1 ho1)
    | (go_simp; go_at_call 34; refine (C2.out _ HB1.out).mono ?_; rintro e w2 ⟨ut, hdt, rfl, hb2⟩; obtain ⟨v4, w4, happ, ho4, hb4⟩ := od_push (g := w2.heap.size) HO1.out hb2 (below_al w2 (.cells (foldD ut) 35)) hdt (by rw [foldD_eq hdt.len']; exact cells_alloc _ _ _) HP.out (HB1.out.size); have HAPP := hid happ; have HO4 := hid ho4; have HB4 := hid (HB1.out.trans hb4); have hlen := hdt.len'; clear happ ho4 hb4 hb2))
  all_goals
    go_wp2
    go_ret
    exact ⟨_, rfl, HO4.out, HB4.out⟩
set_option maxRecDepth 100000 in
set_option maxHeartbeats 4000000 in
theorem path_hi (n k cap gl o i : Nat) (t : List UInt8) (p : List (List UInt8)) (w : World) (hk : Konst w) (hf : fp n = k) (h2 : 2 ≤ n) (h3 : k < n) (h0 : 0 < k) (h4 : n ≤ cap) (h5 : cap < 9223372036854775808) (hi : ¬ i < k) (hin : i < n) (hp : p.length ≤ 1000)
    (c1 : ∀ W, Below w.heap.size w W → Calls Tryd.prog 72 #[.slice (some ⟨gl, o + k * 32, none⟩) (n - k) (cap - k), .int .i64 ((i - k : Nat) : Int)] W (RetL W p))
    (c2 : ∀ W, Below w.heap.size w W → Calls Tryd.prog 34 #[.slice (some ⟨gl, o, none⟩) k cap] W (RetD W t)) :
    Calls Tryd.prog 72 #[.slice (some ⟨gl, o, none⟩) n cap, .int .i64 i] w (RetL w (p ++ [t])) := by
  have HK := hid hk; have HF := hid hf; have C1 := hid c1; have C2 := hid c2; have HP := hid hp
  clear hk hf c1 c2 hp
  have hd1 : ((n : Int) == 1) = false := by simp; omega
  go_enter Tryd.func72, Tryd.ntmps72
  go_wp2_with fail
  refine (firstPart_any n _ h2 (by omega)).mono ?_
  rintro e w' ⟨rfl, rfl⟩
  rw [HF.out]
  have e1 : k ≤ cap := by omega
  have e2 : ¬ cap = k := by omega
  have e3 : k ≤ n := by omega
  have e4 : IntKind.i64.wrap ((i : Int) - k) = ((i - k : Nat) : Int) := by rw [IntWalk.i64_in _ (by omega)]; omega
  go_wp2_with fail
  go_region_law (first
    | (refine step_append_run rfl (.tmp 32) (.tmp 37) 46 46 rfl _ _ _ rfl rfl HAPP.out ?_)
    | (go_simp; go_at_call 72; refine (C1.out _ (Below.refl _ _).drew).mono ?_; rintro e w1 ⟨v1, rfl, ho1, hb1⟩; have HO1 := hid (OD.mono (b := w.heap.size) ho1 (Nat.le_refl _)); have HB1 := hid (below_tr (Below.refl w.heap.size w).drew hb1); clear hb1 ho1)
    | (go_simp; go_at_call 34; refine (C2.out _ HB1.out).mono ?_; rintro e w2 ⟨ut, hdt, rfl, hb2⟩; obtain ⟨v4, w4, happ, ho4, hb4⟩ := od_push (g := w2.heap.size) HO1.out hb2 (below_al w2 (.cells (foldD ut) 35)) hdt (by rw [foldD_eq hdt.len']; exact cells_alloc _ _ _) HP.out (HB1.out.size); have HAPP := hid happ; have HO4 := hid ho4; have HB4 := hid (HB1.out.trans hb4); have hlen := hdt.len'; clear happ ho4 hb4 hb2))
  all_goals
    go_wp2
    go_ret
    exact ⟨_, rfl, HO4.out, HB4.out⟩
set_option maxHeartbeats 4000000 in
theorem path_one (d : List UInt8) (v : Value) (i : Nat) (w : World) (hv : DS w v [d]) : Calls Tryd.prog 72 #[v, .int .i64 i] w (RetL w []) := by
  obtain ⟨p, cap, rfl, h1, h2⟩ := hv.form
  rw [show [d].length = 1 from rfl]
  clear hv h1
  go_enter Tryd.func72, Tryd.ntmps72
  go_wp2
  go_ret
  exact ⟨_, rfl, OD.nil _ _, Below.refl _ _⟩
theorem pathOf_32 (k : Nat) : ∀ l i, l.length ≤ k → ∀ d ∈ pathOf l i, d.length = 32 := by
  induction k with
  | zero => intro l i h d hd; rw [pathOf_one l i (by omega)] at hd; simp at hd
  | succ k ih =>
    intro l i h d hd
    by_cases hn : l.length < 2
    · rw [pathOf_one l i hn] at hd; simp at hd
    · have h1 := fp_lt l.length (by omega)
      have h2 := fp_pos l.length (by omega)
      by_cases hi : i < fp l.length
      · rw [pathOf_lo l i (by omega) hi] at hd
        rcases List.mem_append.1 hd with hd | hd
        · exact ih _ _ (by rw [List.length_take]; omega) d hd
        · simp at hd; subst hd; exact tree_length _
      · rw [pathOf_hi l i (by omega) hi] at hd
        rcases List.mem_append.1 hd with hd | hd
        · exact ih _ _ (by rw [List.length_drop]; omega) d hd
        · simp at hd; subst hd; exact tree_length _
theorem pathTo_any (N : Nat) : ∀ (ds : List (List UInt8)) (v : Value) (i : Nat) (w : World), ds.length ≤ N → i < ds.length → DS w v ds → Konst w → Calls Tryd.prog 72 #[v, .int .i64 i] w (RetL w (pathOf ds i)) := by
  induction N with
  | zero => intro ds v i w hn hi hv hk; omega
  | succ N ih =>
    intro ds v i w hn hi hv hk
    by_cases h2 : ds.length < 2
    · match ds, h2, hi with
      | [d], _, _ => rw [pathOf_one _ _ (by simp)]; exact path_one d v i w hv
    · obtain ⟨gl, o, cap, rfl, h3, h4, h5, h6, h7⟩ := hv.pos (by omega)
      have h8 := fp_lt ds.length (by omega); have h9 := fp_pos ds.length (by omega)
      have hl : ∀ l j, l.length < 9223372036854775808 → (pathOf l j).length ≤ 1000 := fun l j hl => by
        rw [pathOf_length l.length l j (Nat.le_refl _)]
        have := plen_le 63 j l.length (by omega); omega
      by_cases hlo : i < fp ds.length
      · rw [pathOf_lo ds i (by omega) hlo]
        exact path_lo ds.length _ cap gl o i _ _ w hk rfl (by omega) h8 h9 h3 h4 hlo (hl _ _ (by rw [List.length_take]; omega))
          (fun W hb => ih _ _ i W (by rw [List.length_take]; omega) (by rw [List.length_take]; omega) ((DS.take h5 h6 h7 _ (by omega) (by omega) h4).ups hb) (hk.ups hb))
          (fun W hb => tree_any ds.length _ _ W (by rw [List.length_drop]; omega) ((DS.drop h5 h6 h7 _ h3 h4).ups hb) (hk.ups hb))
      · rw [pathOf_hi ds i (by omega) hlo]
        exact path_hi ds.length _ cap gl o i _ _ w hk rfl (by omega) h8 h9 h3 h4 hlo hi (hl _ _ (by rw [List.length_drop]; omega))
          (fun W hb => ih _ _ (i - fp ds.length) W (by rw [List.length_drop]; omega) (by rw [List.length_drop]; omega) ((DS.drop h5 h6 h7 _ h3 h4).ups hb) (hk.ups hb))
          (fun W hb => tree_any ds.length _ _ W (by rw [List.length_take]; omega) ((DS.take h5 h6 h7 _ (by omega) (by omega) h4).ups hb) (hk.ups hb))
/-- the outcome 'a new list of these digests, and no error' -/
def RetP (w : World) (ds : List (List UInt8)) (e : Ending) (w' : World) : Prop := ∃ v, e = .returned (.tuple #[v, .int .i64 0]) ∧ OD w' w.heap.size v ds ∧ Below w.heap.size w w'
theorem Path_ok (ds : List (List UInt8)) (v : Value) (i : Nat) (w : World) (hi : i < ds.length) (hv : DS w v ds) (hk : Konst w) : Calls Tryd.prog 36 #[v, .int .i64 i] w (RetP w (pathOf ds i)) := by
  obtain ⟨p, cap, rfl, h1, h2⟩ := hv.form
  have HV := hid hv; have HK := hid hk; have HI := hid hi
  clear hv hk
  generalize hn : ds.length = n at *
  have HN := hid hn; clear hn
  go_enter Tryd.func36, Tryd.ntmps36
  go_wp2_with fail
  refine (pathTo_any n ds _ i _ (by rw [HN.out]; exact Nat.le_refl _) (by rw [HN.out]; exact HI.out) HV.out HK.out).mono ?_
  rintro e w1 ⟨v1, rfl, ho, hb⟩
  have HO := hid ho; have HB := hid hb; clear ho hb
  go_wp2
  go_ret2
  exact ⟨_, rfl, HO.out, HB.out⟩
theorem Path_bad (ds : List (List UInt8)) (v : Value) (i : Int) (w : World) (hi : i < 0 ∨ (ds.length : Int) ≤ i) (hv : DS w v ds) : Calls Tryd.prog 36 #[v, .int .i64 i] w fun e w' => e = .returned (.tuple #[.slice none 0 0, .int .i64 1]) ∧ w' = w := by
  obtain ⟨p, cap, rfl, h1, h2⟩ := hv.form
  clear hv
  generalize hn : ds.length = n at *
  clear hn
  by_cases h0 : i < 0
  · go_enter Tryd.func36, Tryd.ntmps36
    go_wp2
    go_ret2
    exact ⟨rfl, rfl⟩
  · have h3 : (n : Int) ≤ i := by omega
    clear hi
    go_enter Tryd.func36, Tryd.ntmps36
    go_wp2
    go_ret2
    exact ⟨rfl, rfl⟩
end Go.Proofs.YtaoehkoffhnidaaDoor.Dg

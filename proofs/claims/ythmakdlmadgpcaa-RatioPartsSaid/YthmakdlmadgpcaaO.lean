/- Mean. -/
import Derived.Test.YthmakdlmadgpcaaN
namespace Go.Proofs.Ythmakdlmadgpcaa
open Go.RowKit Go Go.Shelf
set_option linter.unusedVariables false
set_option linter.unusedSimpArgs false
attribute [local go_sem] Oper.semAt_some
/-- the sum of the products at some places, and of the weights -/
def ps (xs ys : List Int) (L : List Nat) : Int := (L.map fun j => xs.getD j 0 * ys.getD j 0).sum
def ws (ys : List Int) (L : List Nat) : Int := (L.map fun j => ys.getD j 0).sum
theorem ps_snoc (xs ys : List Int) (L : List Nat) (x : Nat) : ps xs ys (L ++ [x]) = ps xs ys L + xs.getD x 0 * ys.getD x 0 := by simp [ps]
theorem ws_snoc (ys : List Int) (L : List Nat) (x : Nat) : ws ys (L ++ [x]) = ws ys L + ys.getD x 0 := by simp [ws]
/-- all places are within the limits -/
def Lim (xs ys : List Int) : Prop := ∀ j, -1048576 ≤ xs.getD j 0 ∧ xs.getD j 0 ≤ 1048576 ∧ 0 ≤ ys.getD j 0 ∧ ys.getD j 0 ≤ 1048576
theorem lim_of {xs ys : List Int} (hl : xs.length = ys.length) (h : goods xs ys) : Lim xs ys := by
  intro j
  by_cases hj : j < xs.length
  · obtain ⟨h1, h2, h3⟩ := h j hj
    exact ⟨by omega, by omega, h2, h3⟩
  · have e1 : xs.getD j 0 = 0 := by rw [List.getD_eq_getElem?_getD, List.getElem?_eq_none (by omega)]; rfl
    have e2 : ys.getD j 0 = 0 := by rw [List.getD_eq_getElem?_getD, List.getElem?_eq_none (by omega)]; rfl
    rw [e1, e2]; omega
theorem ws_bd {xs ys : List Int} (h : Lim xs ys) (L : List Nat) : 0 ≤ ws ys L ∧ ws ys L ≤ 1048576 * (L.length : Int) := by
  induction L with
  | nil => simp [ws]
  | cons x L ih =>
    have h1 := h x
    have e : ws ys (x :: L) = ys.getD x 0 + ws ys L := by simp [ws]
    rw [e]
    obtain ⟨y, hy⟩ : ∃ y, y = ys.getD x 0 := ⟨_, rfl⟩
    rw [← hy] at h1 ⊢
    simp only [List.length_cons]
    omega
theorem ps_bd {xs ys : List Int} (h : Lim xs ys) (L : List Nat) : -(1099511627776 * (L.length : Int)) ≤ ps xs ys L ∧ ps xs ys L ≤ 1099511627776 * (L.length : Int) := by
  induction L with
  | nil => simp [ps]
  | cons x L ih =>
    have h1 := h x
    have e : ps xs ys (x :: L) = xs.getD x 0 * ys.getD x 0 + ps xs ys L := by simp [ps]
    have h2 := mul_bd h1.1 h1.2.1 (show -1048576 ≤ ys.getD x 0 by omega) h1.2.2.2
    rw [e]
    obtain ⟨z, hz⟩ : ∃ z, z = xs.getD x 0 * ys.getD x 0 := ⟨_, rfl⟩
    rw [← hz] at h2 ⊢
    simp only [List.length_cons]
    omega
/-- what Mean answers -/
def mn (xs ys : List Int) : Int × Int × Int :=
  if wchk xs ys = 0 then (if ws ys (List.range xs.length) = 0 then (0, 1, 0) else nw (ps xs ys (List.range xs.length)) (ws ys (List.range xs.length))) else (0, 0, wchk xs ys)
theorem wchk_0 {xs ys : List Int} (h : wchk xs ys = 0) : xs.length = ys.length ∧ Lim xs ys ∧ xs.length ≤ 1048576 := by
  unfold wchk at h
  split at h
  · rename_i hh
    split at h
    · simp at h
    · exact ⟨hh.1, lim_of hh.1 hh.2, by omega⟩
  · simp at h
theorem wchk_cases (xs ys : List Int) : wchk xs ys = 0 ∨ wchk xs ys = 1 ∨ wchk xs ys = 2 := by
  unfold wchk; split
  · split <;> simp
  · simp
theorem kpD_set {n0 n B : Nat} {W : World} {v : Value} (h1 : n0 ≤ B) (h2 : n ≠ B) : KpD n0 n W (W.setCell ⟨B, 0, none⟩ v) :=
  ⟨fun a u ha e => by rw [World.cell?_setCell_other (h := by rintro rfl; simp at ha; omega)]; exact e,
    fun u e => by rw [World.cell?_setCell_other (h := by first | (simp; done) | (simp; omega))]; exact e⟩
theorem FR.set {w : World} {B S : Nat} {p q : Int} {v : Value} (h : FR w B p q) (hn : B ≠ S) : FR (w.setCell ⟨S, 0, none⟩ v) B p q :=
  ⟨by rw [World.cell?_setCell_other (h := by first | (simp; done) | (simp; omega))]; exact h.c0, by rw [World.cell?_setCell_other (h := by first | (simp; done) | (simp; omega))]; exact h.c1, by rw [World.frozen?_setCell]; exact h.f0, by rw [World.frozen?_setCell]; exact h.f1⟩
theorem finL {n : Nat} {p q e : Int} {x : Int × Int × Int} {w W' : World} {B : Nat} {ts : Array Value} (hv : x = (p, q, e)) (hc0 : W'.cell? ⟨B, 0, none⟩ = some (.int .i64 p)) (hc1 : W'.cell? ⟨B, 1, none⟩ = some (.int .i64 q)) (hb : Below w.heap.size w W')
    (h4 : ts[4]? = some (.pointer (some ⟨B, 0, none⟩)) := by rfl) (h5 : ts[5]? = some (.int .i64 e) := by rfl) :
    LeavesIn Fence.wide n Try.prog Try.f22 ts (fun e w' => e = Ending.returned (RR x) ∧ Below w.heap.size w w') [] .returning W' := by
  rw [hv]
  refine ⟨RR (p, q, e), ?_, rfl, hb⟩
  simp [results, Try.results22, go_sem, h4, h5, hc0, hc1]
set_option maxRecDepth 100000 in
set_option maxHeartbeats 4000000 in
theorem Mean_any (v1 v2 : Value) (xs ys : List Int) (hx : Hid (∀ x ∈ xs, I64 x)) (w : World) (hv1 : IS .i64 w v1 xs) (hv2 : IS .i64 w v2 ys) :
    Calls Try.prog 22 #[v1, v2] w fun e w' => e = .returned (RR (mn xs ys)) ∧ Below w.heap.size w w' := by
  refine (callsIn_wide (n := 5)).1 ?_
  refine callsIn_of_wp_marks Try.func22 rfl trivial ?_ rfl
  obtain ⟨p1, c1, e1⟩ := hv1.form
  obtain ⟨p2, c2, e2⟩ := hv2.form
  have hr1 := hv1; have hr2 := hv2
  rw [e1] at hr1; rw [e2] at hr2
  have hr1 := hid hr1.rd; have hr2 := hid hr2.rd
  have hB0 : Below w.heap.size w (w.alloc (.cells #[.int .i64 0, .int .i64 0] 23)) := (Below.refl _ w).alloc (Nat.le_refl _) _
  have HV1 := hid (hv1.ups hB0); have HV2 := hid (hv2.ups hB0)
  have hR := fr_new w 0 0
  have HE1 := hid e1; have HE2 := hid e2
  clear hv1 hv2 e1 e2
  simp only [Try.ntmps22, List.size_toArray, List.length_cons, List.length_nil, Nat.reduceAdd, Nat.reduceSub, Array.replicate_succ, Array.replicate_zero, List.push_toArray, List.append_toArray, List.nil_append, List.cons_append]
  gi_wp2_with fail
  refine ⟨trivial, (callsIn_wide.2 (cw_any v1 v2 xs ys hx.out _ HV1.out HV2.out)).mono ?_⟩
  rintro e w1 ⟨rfl, hb1⟩
  have HB1 := hid (below_t hB0 hb1)
  have hR1 := hid (hR.ups hb1)
  have hmn : mn xs ys = if wchk xs ys = 0 then (if ws ys (List.range xs.length) = 0 then (0, 1, 0) else nw (ps xs ys (List.range xs.length)) (ws ys (List.range xs.length))) else (0, 0, wchk xs ys) := rfl
  have HMN := hid hmn
  clear hb1 hmn hR
  by_cases hc : wchk xs ys = 0
  · obtain ⟨hl, hlim, hlen⟩ := wchk_0 hc
    have HC := hid hc; have HLM := hid hlim
    rw [hc]
    obtain ⟨len, hle⟩ : ∃ len, len = xs.length := ⟨_, rfl⟩
    have hly : len = ys.length := by omega
    rw [← hle] at HE1 HMN hlen
    rw [← hly] at HE2
    have HLX := hid hle; have HLY := hid hly
    obtain rfl := HE1.out
    obtain rfl := HE2.out
    clear hc hlim hl hle hly HV1 HV2
    gi_wp2_with (refine ⟨trivial, ?_⟩; gi_at_call 37; refine (pairs_in _ _ _ _ ⟨_, _, _, rfl⟩ ⟨_, _, _, rfl⟩).mono ?_; rintro e w' ⟨rfl, rfl⟩)
    obtain ⟨S, hS⟩ : ∃ S, S = w1.heap.size := ⟨_, rfl⟩
    have b0 := cell_new_l w1 (.int .i64 0) 3
    have b1 := cell_new_l (w1.alloc (.cells #[.int .i64 0] 3)) (.int .i64 0) 3
    have d1 := cell_new_l ((w1.alloc (.cells #[.int .i64 0] 3)).alloc (.cells #[.int .i64 0] 3)) (.slice p1 len c1) 34
    have d2 := cell_new_l (((w1.alloc (.cells #[.int .i64 0] 3)).alloc (.cells #[.int .i64 0] 3)).alloc (.cells #[.slice p1 len c1] 34)) (.slice p2 len c2) 34
    simp only [World.size_alloc] at b1 d1 d2
    have g0 : Below w1.heap.size w1 ((((w1.alloc (.cells #[.int .i64 0] 3)).alloc (.cells #[.int .i64 0] 3)).alloc (.cells #[.slice p1 len c1] 34)).alloc (.cells #[.slice p2 len c2] 34)) := ((((Below.refl _ w1).alloc (Nat.le_refl _) _).alloc (by simp) _).alloc (by simp; omega) _).alloc (by simp; omega) _
    have e0 := cell_alloc_l (.cells #[.slice p2 len c2] 34) (cell_alloc_l (.cells #[.slice p1 len c1] 34) (cell_alloc_l (.cells #[.int .i64 0] 3) b0.1))
    have e0z := frozen_alloc_l (.cells #[.slice p2 len c2] 34) (cell_alloc_l (.cells #[.slice p1 len c1] 34) (cell_alloc_l (.cells #[.int .i64 0] 3) b0.1)) (frozen_alloc_l (.cells #[.slice p1 len c1] 34) (cell_alloc_l (.cells #[.int .i64 0] 3) b0.1) (frozen_alloc_l (.cells #[.int .i64 0] 3) b0.1 b0.2))
    have e1 := cell_alloc_l (.cells #[.slice p2 len c2] 34) (cell_alloc_l (.cells #[.slice p1 len c1] 34) b1.1)
    have e1z := frozen_alloc_l (.cells #[.slice p2 len c2] 34) (cell_alloc_l (.cells #[.slice p1 len c1] 34) b1.1) (frozen_alloc_l (.cells #[.slice p1 len c1] 34) b1.1 b1.2)
    have e2 := cell_alloc_l (.cells #[.slice p2 len c2] 34) d1.1
    have e3 := d2.1
    have hRW := hR1.out.ups g0
    have hBW := below_t HB1.out g0
    have hsz : ((((w1.alloc (.cells #[.int .i64 0] 3)).alloc (.cells #[.int .i64 0] 3)).alloc (.cells #[.slice p1 len c1] 34)).alloc (.cells #[.slice p2 len c2] 34)).heap.size = S + 4 := by simp [hS]
    generalize (((w1.alloc (.cells #[.int .i64 0] 3)).alloc (.cells #[.int .i64 0] 3)).alloc (.cells #[.slice p1 len c1] 34)).alloc (.cells #[.slice p2 len c2] 34) = W0 at *
    have hwS : w.heap.size ≤ S := by rw [hS]; exact HB1.out.size
    have hRS : w.heap.size < S := by rw [hS]; exact hR1.out.lt
    rw [← hS] at e0 e0z e1 e1z e2 e3 ⊢
    have HWS := hid hwS
    clear b0 b1 d1 d2 g0 hS HB1 hR1 hB0
    refine wpIn_rangeFunc_ownF rfl (by omega) (gf := 40) (lb := #[.pointer (some ⟨S + 1 + 1, 0, none⟩), .pointer (some ⟨S + 1 + 1 + 1, 0, none⟩)]) rfl trivial (enters_of Try.func40 (by kernel_rfl) rfl)
      (prs_stops _ (by omega) (S + 1 + 1) (S + 1 + 1 + 1) w.heap.size p1 p2 c1 c2 xs ys (by rw [← HLX.out, HLY.out]) (by rw [← HLX.out]; omega) W0 (by omega) (by omega) hBW.size
        (by rw [← HLX.out]; exact e2) (by rw [← HLY.out]; exact e3) (hr1.out.up hBW) (hr2.out.up hBW)) kpD_t kpD_b (Below.refl _ _) (fun _ => rfl)
      (fun pre W => ((W.cell? ⟨S, 0, none⟩ = some (.int .i64 (ps xs ys pre)) ∧ W.frozen? ⟨S, 0, none⟩ = false ∧ W.cell? ⟨S + 1, 0, none⟩ = some (.int .i64 (ws ys pre)) ∧ W.frozen? ⟨S + 1, 0, none⟩ = false) ∧ FR W w.heap.size 0 0) ∧ Below w.heap.size w W)
      (fun _ _ _ => False)
      (OwnFrom.and (Own.from (fun s A B row hs hg hr => ⟨⟨cell_kept hs.1.1 hg hr, (frozen_kept hs.1.1 hg hr).trans hs.1.2.1, cell_kept hs.1.2.2.1 hg hr, (frozen_kept hs.1.2.2.1 hg hr).trans hs.1.2.2.2⟩, ⟨cell_kept hs.2.c0 hg hr, cell_kept hs.2.c1 hg hr, (frozen_kept hs.2.c0 hg hr).trans hs.2.f0, (frozen_kept hs.2.c1 hg hr).trans hs.2.f1⟩⟩) _) (ownFrom_below (Nat.le_refl _) (by omega)))
      (fun _ _ _ _ _ hs _ _ => hs)
      ⟨⟨⟨e0, e0z, e1, e1z⟩, hRW⟩, hBW⟩
      (fun x => { tmps := #[.slice p1 len c1, .slice p2 len c2, undef, undef, .pointer (some ⟨w.heap.size, 0, none⟩), .int .i64 0, .int .i64 0, .pointer (some ⟨S, 0, none⟩), .pointer (some ⟨S + 1, 0, none⟩), .int .i64 (xs.getD x 0), .int .i64 (ys.getD x 0), .slice p1 len c1, .slice p2 len c2, .int .i64 0, .int .i64 0, .bool false, undef, undef, .slice p1 len c1, .slice p2 len c2, .func (.func 40) #[] #[.pointer (some ⟨S + 1 + 1, 0, none⟩), .pointer (some ⟨S + 1 + 1 + 1, 0, none⟩)], .int .i64 (xs.getD x 0), .int .i64 (ys.getD x 0), undef, undef, undef, undef, undef, undef, undef, undef, undef, undef, undef, undef, undef, undef, undef, undef], defers := [] }) ?assign ?body ?done ?stop
    case assign =>
      intro l x W K hK
      gi_wp2
      gi_wp2
      exact hK
    case body =>
      rintro l pre x W ⟨⟨⟨ca, cz, cb, cy⟩, hR⟩, hB⟩ hpre
      have hlm := HLM.out x
      have hb1 := ps_bd HLM.out pre
      have hb2 := ws_bd HLM.out pre
      have hpl : (pre.length : Int) ≤ 1048576 := by rw [← HLX.out] at hpre; omega
      have s1 := ps_snoc xs ys pre x
      have s2 := ws_snoc ys pre x
      obtain ⟨X, hX⟩ : ∃ X, X = xs.getD x 0 := ⟨_, rfl⟩
      obtain ⟨Y, hY⟩ : ∃ Y, Y = ys.getD x 0 := ⟨_, rfl⟩
      rw [← hX, ← hY] at hlm s1
      rw [← hY] at s2
      rw [← hX, ← hY]
      obtain ⟨Z, hZ⟩ : ∃ Z, X * Y = Z := ⟨_, rfl⟩
      have hz := mul_bd hlm.1 hlm.2.1 (show -1048576 ≤ Y by omega) hlm.2.2.2
      rw [hZ] at hz s1
      obtain ⟨A, hA⟩ : ∃ A, A = ps xs ys pre := ⟨_, rfl⟩
      obtain ⟨T, hT⟩ : ∃ T, T = ws ys pre := ⟨_, rfl⟩
      rw [← hA] at ca hb1 s1
      rw [← hT] at cb hb2 s2
      have a1 : -2305843009213693952 ≤ A := by omega
      have a2 : A ≤ 2305843009213693952 := by omega
      have t1 : 0 ≤ T := by omega
      have t2 : T ≤ 2305843009213693952 := by omega
      obtain ⟨z1, z2⟩ := hz
      obtain ⟨_, _, y1, y2⟩ := hlm
      have S1 := hid s1; have S2 := hid s2
      have hne : (⟨S + 1, 0, none⟩ : Addr) ≠ ⟨S, 0, none⟩ := by simp
      have hne' : (⟨S, 0, none⟩ : Addr) ≠ ⟨S + 1, 0, none⟩ := by simp
      have cb' : (W.setCell ⟨S, 0, none⟩ (.int .i64 (A + Z))).cell? ⟨S + 1, 0, none⟩ = some (.int .i64 T) := by rw [World.cell?_setCell_other (h := hne')]; exact cb
      clear hb1 hb2 hpl s1 s2 hX hY hA hT e0 e0z e1 e1z e2 e3 hRW hBW hsz hpre
      gi_wp2
      have hn1 : S + 1 + 1 + 1 ≠ S := by omega
      have hn2 : S + 1 + 1 + 1 ≠ S + 1 := by omega
      have hn3 : w.heap.size ≠ S := by omega
      have hn4 : w.heap.size ≠ S + 1 := by omega
      refine ⟨(KeepsOthers.setCell _ _ _).trans (KeepsOthers.setCell _ _ _), kpD_t (kpD_set HWS.out hn1) (kpD_set (by omega) hn2), ⟨⟨?_, ?_, ?_, ?_⟩, (hR.set hn3).set hn4⟩, (hB.setCell (p := ⟨S, 0, none⟩) HWS.out _).setCell (p := ⟨S + 1, 0, none⟩) (by show w.heap.size ≤ S + 1; omega) _⟩
      · rw [S1.out, World.cell?_setCell_other (h := hne)]; exact World.cell?_setCell_same' _ _ _ (by rw [ca]; rfl)
      · rw [World.frozen?_setCell, World.frozen?_setCell]; exact cz
      · rw [S2.out]; exact World.cell?_setCell_same' _ _ _ (by rw [cb']; rfl)
      · rw [World.frozen?_setCell, World.frozen?_setCell]; exact cy
    case done =>
      rintro D zs W hD rfl ⟨⟨⟨ca, cz, cb, cy⟩, hR⟩, hB⟩ hK
      rw [← HLX.out] at ca cb
      have hb1 := ps_bd HLM.out (List.range len)
      have hb2 := ws_bd HLM.out (List.range len)
      rw [List.length_range] at hb1 hb2
      have hmn := HMN.out
      rw [if_pos HC.out] at hmn
      obtain ⟨A, hA⟩ : ∃ A, A = ps xs ys (List.range len) := ⟨_, rfl⟩
      obtain ⟨T, hT⟩ : ∃ T, T = ws ys (List.range len) := ⟨_, rfl⟩
      rw [← hA] at ca hb1 hmn
      rw [← hT] at cb hb2 hmn
      have i1 : I64 A := ⟨by omega, by omega⟩
      have i2 : I64 T := ⟨by omega, by omega⟩
      have I1 := hid i1; have I2 := hid i2
      have hDw : w.heap.size ≤ D := by omega
      have HDW := hid hDw
      clear i1 i2 hb1 hb2 hA hT e0 e0z e1 e1z e2 e3 hRW hBW hDw
      obtain ⟨r0, r1, rz0, rz1⟩ := hR
      by_cases hT0 : T = 0
      · subst hT0
        rw [if_pos rfl] at hmn
        have HV := hid hmn
        clear hmn
        gi_wp2
        obtain ⟨d0, d1⟩ := cells2 (.int .i64 0) (.int .i64 1) r0 r1
        have hK' := (KeepsOthers.setCell (W.setCell ⟨w.heap.size, 0, none⟩ (.int .i64 0)) ⟨w.heap.size, 1, none⟩ (.int .i64 1)).same D _ ((KeepsOthers.setCell W ⟨w.heap.size, 0, none⟩ (.int .i64 0)).same D _ hK rfl) rfl
        refine ⟨by simp, .inl ⟨_, _, rfl, run_takeDeferred hK', ?_⟩⟩
        exact finL (n := 5) HV.out (cell_kept_l d0 hK' rfl (.deferred none)) (cell_kept_l d1 hK' rfl (.deferred none)) (((hB.setCell (p := ⟨w.heap.size, 0, none⟩) (Nat.le_refl _) _).setCell (p := ⟨w.heap.size, 1, none⟩) (Nat.le_refl _) _).trans (belowK_b (w := w) (Nat.le_refl _) _ D _ _ HDW.out hK' rfl rfl))
      · rw [if_neg hT0] at hmn
        have HV := hid hmn
        have hDl : D < W.heap.size := (Array.getElem?_eq_some_iff.1 hK).1
        have hRl : w.heap.size < W.heap.size := by omega
        clear hmn
        gi_wp2_with fail
        refine ⟨trivial, (callsIn_wide.2 (New_any A T I1.out I2.out _)).mono ?_⟩
        rintro e w2 ⟨rfl, hb2⟩
        have q0 := (hb2.cell (p := ⟨w.heap.size, 0, none⟩) hRl).trans r0
        have q1 := (hb2.cell (p := ⟨w.heap.size, 1, none⟩) hRl).trans r1
        have y0 := (hb2.frozen (p := ⟨w.heap.size, 0, none⟩) hRl).trans rz0
        have y1 := (hb2.frozen (p := ⟨w.heap.size, 1, none⟩) hRl).trans rz1
        have hK2 := (hb2.block D hDl).trans hK
        have HK2 := hid hK2
        have HB2 := hid (below_t hB hb2)
        obtain ⟨⟨p, q, e⟩, hx2⟩ : ∃ x, x = nw A T := ⟨_, rfl⟩
        have hv2 : mn xs ys = (p, q, e) := by rw [HV.out, hx2]
        have HV2 := hid hv2
        rw [← hx2]
        clear hx2 hv2 hb2 hK2 hRl hDl r0 r1 rz0 rz1 ca cb cz cy
        gi_wp2
        obtain ⟨d0, d1⟩ := cells2 (.int .i64 p) (.int .i64 q) q0 q1
        have hK' := (KeepsOthers.setCell (w2.setCell ⟨w.heap.size, 0, none⟩ (.int .i64 p)) ⟨w.heap.size, 1, none⟩ (.int .i64 q)).same D _ ((KeepsOthers.setCell w2 ⟨w.heap.size, 0, none⟩ (.int .i64 p)).same D _ HK2.out rfl) rfl
        refine ⟨by simp, .inl ⟨_, _, rfl, run_takeDeferred hK', ?_⟩⟩
        exact finL (n := 5) HV2.out (cell_kept_l d0 hK' rfl (.deferred none)) (cell_kept_l d1 hK' rfl (.deferred none)) (((HB2.out.setCell (p := ⟨w.heap.size, 0, none⟩) (Nat.le_refl _) _).setCell (p := ⟨w.heap.size, 1, none⟩) (Nat.le_refl _) _).trans (belowK_b (w := w) (Nat.le_refl _) _ D _ _ HDW.out hK' rfl rfl))
    case stop =>
      rintro D c pre W hD _ h _
      exact h.elim
  · have hv := HMN.out
    rw [if_neg hc] at hv
    have HV := hid hv
    obtain ⟨c, hcc⟩ : ∃ c, c = wchk xs ys := ⟨_, rfl⟩
    rw [← hcc] at hc HV ⊢
    have HR1 := hR1
    obtain ⟨c0, c1', z0, z1⟩ := hR1.out
    clear hv hcc
    gi_wp2
    obtain ⟨d0, d1⟩ := cells2 (.int .i64 0) (.int .i64 0) HR1.out.c0 HR1.out.c1
    exact finL (n := 5) HV.out d0 d1 ((HB1.out.setCell (p := ⟨w.heap.size, 0, none⟩) (Nat.le_refl _) _).setCell (p := ⟨w.heap.size, 1, none⟩) (Nat.le_refl _) _)
end Go.Proofs.Ythmakdlmadgpcaa

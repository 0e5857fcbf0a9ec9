/- Sums of three fractions. -/
import Derived.Test.YthmakdlmadgpcaaQ
namespace Go.Proofs.Ythmakdlmadgpcaa
open Go.RowKit Go
set_option linter.unusedVariables false
set_option linter.unusedSimpArgs false
theorem both_i64 (an ad bn bd n d : Int) : I64 (both an ad bn bd (nw n d)).1 ∧ I64 (both an ad bn bd (nw n d)).2.1 := by
  unfold both
  split
  · split
    · exact nw_i64 n d
    · exact ⟨⟨by decide, by decide⟩, ⟨by decide, by decide⟩⟩
  · exact ⟨⟨by decide, by decide⟩, ⟨by decide, by decide⟩⟩
theorem both_sm (an ad bn bd : Int) : I64 (both an ad bn bd (sm an ad bn bd)).1 ∧ I64 (both an ad bn bd (sm an ad bn bd)).2.1 := both_i64 _ _ _ _ _ _
theorem both_pr (an ad bn bd : Int) : I64 (both an ad bn bd (pr an ad bn bd)).1 ∧ I64 (both an ad bn bd (pr an ad bn bd)).2.1 := both_i64 _ _ _ _ _ _
theorem both_vd {an ad bn bd : Int} (ha : Vd an ad) (hb : Vd bn bd) (x : Int × Int × Int) : both an ad bn bd x = x := by
  unfold both; rw [if_pos (chk_ok.2 ha), if_pos (chk_ok.2 hb)]
/-- the law's sum of three -/
def sum3 (an ad bn bd cn cd : Int) : (Int × Int × Int) × Bool :=
  let x := both an ad bn bd (sm an ad bn bd)
  let y := both x.1 x.2.1 cn cd (sm x.1 x.2.1 cn cd)
  (y, decide (x.2.2 = 0 ∧ y.2.2 = 0))
theorem fin4 {p q : Int} {b : Bool} {w w1 : World} {x : (Int × Int × Int) × Bool} {x0 y0 : Value} {ts : Array Value} {ds : List Deferred} (hp : x.1.1 = p) (hq : x.1.2.1 = q) (hv : x.2 = b) (hb : Below w.heap.size w w1)
    {B : Nat} (hB : w.heap.size ≤ B) (h0 : w1.cell? ⟨B, 0, none⟩ = some x0) (h1 : w1.cell? ⟨B, 1, none⟩ = some y0)
    (h4 : ts[6]? = some (.pointer (some ⟨B, 0, none⟩)) := by rfl) (h5 : ts[7]? = some (.bool b) := by rfl) (hd : ds = [] := by rfl) :
    bodyPost Try.prog Try.f24 (fun e w' => e = Ending.returned (.tuple #[RV x.1.1 x.1.2.1, .bool x.2]) ∧ Below w.heap.size w w') Exit.ret { tmps := ts, defers := ds } ((w1.setCell ⟨B, 0, none⟩ (.int .i64 p)).setCell ⟨B, 1, none⟩ (.int .i64 q)) := by
  subst hd
  rw [hp, hq, hv]
  obtain ⟨c0, c1⟩ := cells2 (W := w1) (.int .i64 p) (.int .i64 q) h0 h1
  refine bodyPost_ret (v := .tuple #[RV p q, .bool b]) ?_ rfl ⟨rfl, (hb.setCell (p := ⟨B, 0, none⟩) hB _).setCell (p := ⟨B, 1, none⟩) hB _⟩
  simp [results, Try.results24, go_sem, h4, h5, c0, c1]
set_option maxRecDepth 100000 in
set_option maxHeartbeats 4000000 in
theorem sum_any (an ad bn bd cn cd : Int) (i1 : I64 an) (i2 : I64 ad) (i3 : I64 bn) (i4 : I64 bd) (i5 : I64 cn) (i6 : I64 cd) (w : World) :
    Calls Try.prog 24 #[RV an ad, RV bn bd, RV cn cd] w fun e w' => e = .returned (.tuple #[RV (sum3 an ad bn bd cn cd).1.1 (sum3 an ad bn bd cn cd).1.2.1, .bool (sum3 an ad bn bd cn cd).2]) ∧ Below w.heap.size w w' := by
  have I1 := hid i1; have I2 := hid i2; have I3 := hid i3; have I4 := hid i4; have I5 := hid i5; have I6 := hid i6; clear i1 i2 i3 i4 i5 i6
  have hs : sum3 an ad bn bd cn cd = (both (both an ad bn bd (sm an ad bn bd)).1 (both an ad bn bd (sm an ad bn bd)).2.1 cn cd (sm (both an ad bn bd (sm an ad bn bd)).1 (both an ad bn bd (sm an ad bn bd)).2.1 cn cd), decide ((both an ad bn bd (sm an ad bn bd)).2.2 = 0 ∧ (both (both an ad bn bd (sm an ad bn bd)).1 (both an ad bn bd (sm an ad bn bd)).2.1 cn cd (sm (both an ad bn bd (sm an ad bn bd)).1 (both an ad bn bd (sm an ad bn bd)).2.1 cn cd)).2.2 = 0)) := rfl
  obtain ⟨j1, j2⟩ := both_sm an ad bn bd
  obtain ⟨⟨x1, x2, x3⟩, hX⟩ : ∃ x, x = both an ad bn bd (sm an ad bn bd) := ⟨_, rfl⟩
  rw [← hX] at hs j1 j2
  obtain ⟨⟨y1, y2, y3⟩, hY⟩ : ∃ x, x = both x1 x2 cn cd (sm x1 x2 cn cd) := ⟨_, rfl⟩
  simp only at hs j1 j2
  rw [← hY] at hs
  have HX := hid hX; have HY := hid hY; have HS := hid hs; have J1 := hid j1; have J2 := hid j2; clear hX hY hs j1 j2
  have T0 := hid (Below.refl w.heap.size w)
  have A0 : Below (w).heap.size (w) ((w).alloc (.cells #[.int .i64 (an), .int .i64 (ad)] 23)) := (Below.refl _ _).alloc (Nat.le_refl _) _
  have FA := hid (fr_new (w) (an) (ad))
  have T0 := hid (below_t T0.out A0)
  clear A0
  have A0 : Below ((w).alloc (.cells #[.int .i64 (an), .int .i64 (ad)] 23)).heap.size ((w).alloc (.cells #[.int .i64 (an), .int .i64 (ad)] 23)) (((w).alloc (.cells #[.int .i64 (an), .int .i64 (ad)] 23)).alloc (.cells #[.int .i64 (bn), .int .i64 (bd)] 23)) := (Below.refl _ _).alloc (Nat.le_refl _) _
  have FA := hid (FA.out.ups A0)
  have FB := hid (fr_new ((w).alloc (.cells #[.int .i64 (an), .int .i64 (ad)] 23)) (bn) (bd))
  simp only [World.size_alloc] at FB
  have T0 := hid (below_t T0.out A0)
  clear A0
  have A0 : Below (((w).alloc (.cells #[.int .i64 (an), .int .i64 (ad)] 23)).alloc (.cells #[.int .i64 (bn), .int .i64 (bd)] 23)).heap.size (((w).alloc (.cells #[.int .i64 (an), .int .i64 (ad)] 23)).alloc (.cells #[.int .i64 (bn), .int .i64 (bd)] 23)) ((((w).alloc (.cells #[.int .i64 (an), .int .i64 (ad)] 23)).alloc (.cells #[.int .i64 (bn), .int .i64 (bd)] 23)).alloc (.cells #[.int .i64 (cn), .int .i64 (cd)] 23)) := (Below.refl _ _).alloc (Nat.le_refl _) _
  have FA := hid (FA.out.ups A0)
  have FB := hid (FB.out.ups A0)
  have FC := hid (fr_new (((w).alloc (.cells #[.int .i64 (an), .int .i64 (ad)] 23)).alloc (.cells #[.int .i64 (bn), .int .i64 (bd)] 23)) (cn) (cd))
  simp only [World.size_alloc] at FC
  have T0 := hid (below_t T0.out A0)
  clear A0
  have A0 : Below ((((w).alloc (.cells #[.int .i64 (an), .int .i64 (ad)] 23)).alloc (.cells #[.int .i64 (bn), .int .i64 (bd)] 23)).alloc (.cells #[.int .i64 (cn), .int .i64 (cd)] 23)).heap.size ((((w).alloc (.cells #[.int .i64 (an), .int .i64 (ad)] 23)).alloc (.cells #[.int .i64 (bn), .int .i64 (bd)] 23)).alloc (.cells #[.int .i64 (cn), .int .i64 (cd)] 23)) (((((w).alloc (.cells #[.int .i64 (an), .int .i64 (ad)] 23)).alloc (.cells #[.int .i64 (bn), .int .i64 (bd)] 23)).alloc (.cells #[.int .i64 (cn), .int .i64 (cd)] 23)).alloc (.cells #[.int .i64 (0), .int .i64 (0)] 23)) := (Below.refl _ _).alloc (Nat.le_refl _) _
  have FA := hid (FA.out.ups A0)
  have FB := hid (FB.out.ups A0)
  have FC := hid (FC.out.ups A0)
  have FR0 := hid (fr_new ((((w).alloc (.cells #[.int .i64 (an), .int .i64 (ad)] 23)).alloc (.cells #[.int .i64 (bn), .int .i64 (bd)] 23)).alloc (.cells #[.int .i64 (cn), .int .i64 (cd)] 23)) (0) (0))
  simp only [World.size_alloc] at FR0
  have T0 := hid (below_t T0.out A0)
  clear A0
  obtain ⟨g, hg⟩ : ∃ g, g = w.heap.size + 1 + 1 + 1 := ⟨_, rfl⟩
  have hgw : w.heap.size ≤ g := by omega
  have HGW := hid hgw
  go_enter Try.func24, Try.ntmps24
  obtain ⟨FAc0, FAc1, _, _⟩ := FA.out
  obtain ⟨FBc0, FBc1, _, _⟩ := FB.out
  go_wp2_with fail
  refine (Add_any an ad bn bd I1.out I2.out I3.out I4.out _).mono ?_
  rintro e w1 ⟨rfl, hb1⟩
  rw [← HX.out]
  clear FAc0 FAc1 FBc0 FBc1
  have FA := hid (FA.out.ups hb1)
  have FB := hid (FB.out.ups hb1)
  have FC := hid (FC.out.ups hb1)
  have FR0 := hid (FR0.out.ups hb1)
  have T1 := hid (below_t T0.out hb1)
  clear hb1
  have A0 : Below w1.heap.size w1 (w1.alloc (.cells #[.int .i64 (x1), .int .i64 (x2)] 23)) := (Below.refl _ _).alloc (Nat.le_refl _) _
  have FA := hid (FA.out.ups A0)
  have FB := hid (FB.out.ups A0)
  have FC := hid (FC.out.ups A0)
  have FR0 := hid (FR0.out.ups A0)
  have F1 := hid (fr_new w1 (x1) (x2))
  have T1 := hid (below_t T1.out A0)
  clear A0
  obtain ⟨F1c0, F1c1, _, _⟩ := F1.out
  obtain ⟨FCc0, FCc1, _, _⟩ := FC.out
  go_wp2_with fail
  refine (Add_any x1 x2 cn cd J1.out J2.out I5.out I6.out _).mono ?_
  rintro e w2 ⟨rfl, hb2⟩
  rw [← HY.out]
  clear F1c0 F1c1 FCc0 FCc1
  have FA := hid (FA.out.ups hb2)
  have FB := hid (FB.out.ups hb2)
  have FC := hid (FC.out.ups hb2)
  have FR0 := hid (FR0.out.ups hb2)
  have F1 := hid (F1.out.ups hb2)
  have T2 := hid (below_t T1.out hb2)
  clear hb2
  have A0 : Below w2.heap.size w2 (w2.alloc (.cells #[.int .i64 (y1), .int .i64 (y2)] 23)) := (Below.refl _ _).alloc (Nat.le_refl _) _
  have FA := hid (FA.out.ups A0)
  have FB := hid (FB.out.ups A0)
  have FC := hid (FC.out.ups A0)
  have FR0 := hid (FR0.out.ups A0)
  have F1 := hid (F1.out.ups A0)
  have F2 := hid (fr_new w2 (y1) (y2))
  have T2 := hid (below_t T2.out A0)
  clear A0
  rw [← hg] at FR0 ⊢
  clear hg hgw HX HY
  obtain ⟨F2c0, F2c1, _, _⟩ := F2.out
  obtain ⟨FR0c0, FR0c1, _, _⟩ := FR0.out
  have s1 : (sum3 an ad bn bd cn cd).1.1 = y1 := by rw [HS.out]
  have s2 : (sum3 an ad bn bd cn cd).1.2.1 = y2 := by rw [HS.out]
  have s3 : (sum3 an ad bn bd cn cd).2 = decide (x3 = 0 ∧ y3 = 0) := by rw [HS.out]
  have S1 := hid s1; have S2 := hid s2
  clear s1 s2
  by_cases h3 : x3 = 0
  · subst h3
    have s4 : (sum3 an ad bn bd cn cd).2 = (y3 == 0) := by rw [s3]; cases hy : (y3 == 0) <;> simp_all
    have S4 := hid s4
    clear s3 s4
    go_wp2
    exact fin4 S1.out S2.out S4.out T2.out HGW.out FR0.out.c0 FR0.out.c1
  · have s4 : (sum3 an ad bn bd cn cd).2 = false := by rw [s3]; simp [h3]
    have S4 := hid s4
    have hb : (x3 == 0) = false := by simp [h3]
    clear s3 s4
    go_wp2
    exact fin4 S1.out S2.out S4.out T2.out HGW.out FR0.out.c0 FR0.out.c1
end Go.Proofs.Ythmakdlmadgpcaa

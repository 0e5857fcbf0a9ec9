/- Contract: Merge. -/
import Derived.Test.YtlkcnnamnjnmbaaJ
namespace Go.Proofs.Ytlkcnnamnjnmbaa
open Go.RowKit Go Go.Shelf
set_option linter.unusedVariables false
set_option linter.unusedSimpArgs false
attribute [local go_sem] Oper.semAt_some
set_option maxRecDepth 100000 in
set_option maxHeartbeats 8000000 in
theorem Merge_any (va vb : Value) (a b : List St) (w : World) (hva : KS w va a) (hvb : KS w vb b) (hla : (a ++ b).length ≤ 10000) :
    Calls Try.prog 22 #[va, vb] w fun e w' => (∃ u, e = .returned (.tuple #[u, .int .i64 (S8.mge a b)]) ∧ KS w' u (S8.mg a b)) ∧ Below w.heap.size w w' := by
  have HVA := hid hva; have HVB := hid hvb; have HLA := hid hla
  obtain ⟨pa, ca, hfa⟩ := hva.form
  obtain ⟨pb, cb, hfb⟩ := hvb.form
  obtain ⟨na, hna⟩ : ∃ n, n = a.length := ⟨_, rfl⟩
  obtain ⟨nb, hnb⟩ : ∃ n, n = b.length := ⟨_, rfl⟩
  rw [← hna] at hfa; rw [← hnb] at hfb
  subst hfa; subst hfb
  clear hva hvb hla hna hnb
  obtain ⟨Z, hZ⟩ : ∃ Z, Z = w.alloc (.cells #[.slice none 0 0] 33) := ⟨_, rfl⟩
  have HB0 := hid (show Below w.heap.size w Z from by rw [hZ]; exact (Below.refl _ w).alloc (Nat.le_refl _) _)
  have bL : Blk Z w.heap.size 33 [.slice none 0 0] := by rw [hZ]; exact Blk.new w 33 [.slice none 0 0]
  have HBL := hid bL
  clear bL
  have HO1 := hid (fun W (h : Below w.heap.size w W) (n : Nat) => callsIn_wide (n := n).2 (ordered_any _ a W (HVA.out.ups h)))
  have HO2 := hid (fun W (h : Below w.heap.size w W) (n : Nat) => callsIn_wide (n := n).2 (ordered_any _ b W (HVB.out.ups h)))
  have HE0 := hid (show ¬ (S8.lst a ∧ S8.lst b) → S8.mge a b = 80 ∧ S8.mg a b = [] from fun h => ⟨if_neg h, if_neg h⟩)
  refine (callsIn_wide (n := 5)).1 ?_
  refine callsIn_of_wp_marks Try.func22 rfl trivial ?_ rfl
  simp only [Try.ntmps22, List.size_toArray, List.length_cons, List.length_nil, Nat.reduceAdd, Nat.reduceSub, Array.replicate_succ, Array.replicate_zero, List.push_toArray, List.append_toArray, List.nil_append, List.cons_append]
  by_cases ha : S8.lst a
  · rw [show decide (S8.lst a) = true from decide_eq_true ha] at HO1
    by_cases hb : S8.lst b
    · rw [show decide (S8.lst b) = true from decide_eq_true hb] at HO2
      have HE := hid (show S8.mge a b = 0 ∧ S8.mg a b = S8.mrg a b from ⟨if_pos ⟨ha, hb⟩, if_pos ⟨ha, hb⟩⟩)
      clear HE0 ha hb
      gi_wp2_with fail
      rw [← hZ]
      clear hZ
      refine ⟨trivial, (HO1.out _ HB0.out _).mono ?_⟩
      rintro e w1 ⟨rfl, hb1⟩
      have HB1 := hid (HB0.out.trans (hb1.mono HB0.out.size))
      have HL1 := hid (HBL.out.below hb1 HBL.out.lt)
      clear hb1
      gi_wp2_with fail
      refine ⟨trivial, (HO2.out _ HB1.out _).mono ?_⟩
      rintro e w2 ⟨rfl, hb2⟩
      have HB2 := hid (HB1.out.trans (hb2.mono HB1.out.size))
      have HL2 := hid (HL1.out.below hb2 HL1.out.lt)
      clear hb2
      gi_wp2_with fail
      refine ⟨trivial, (either_in _ _ _ w2 ⟨_, _, _, rfl⟩ ⟨_, _, _, rfl⟩).mono ?_⟩
      rintro e w3 ⟨rfl, hw3⟩
      have hs2 := HB2.out.size
      have hl2 := HL2.out.lt
      have hsz : w3.heap.size = w2.heap.size + 2 := by rw [hw3]; simp
      have hB3 : Below w.heap.size w w3 := by rw [hw3]; exact (HB2.out.alloc hs2 _).alloc (by simp; omega) _
      have b1 : Blk w3 w2.heap.size 33 [.slice pa na ca] := by rw [hw3]; exact (Blk.new w2 33 [.slice pa na ca]).alloc _
      have b2 : Blk w3 (w2.heap.size + 1) 33 [.slice pb nb cb] := by
        have h := Blk.new (w2.alloc (.cells #[.slice pa na ca] 33)) 33 [.slice pb nb cb]
        rw [World.size_alloc] at h; rw [hw3]; exact h
      have b3 : Blk w3 w.heap.size 33 [.slice none 0 0] := by rw [hw3]; exact (HL2.out.alloc _).alloc _
      clear hw3
      gi_wp2_with fail
      refine wpIn_rangeFunc_ownH rfl (by omega) (gf := 33) (lb := #[.pointer (some ⟨w2.heap.size, 0, none⟩), .pointer (some ⟨w2.heap.size + 1, 0, none⟩)]) rfl trivial (enters_of Try.func33 (by kernel_rfl) rfl)
        (eit_stops _ (by omega) w.heap.size w2.heap.size (w2.heap.size + 1) _ _ a b w w3 HLA.out (Nat.le_refl _) (by omega) hB3 HVA.out HVB.out (by omega) (by omega) (by omega) (by omega) (b1.cell 0 _ rfl) (b2.cell 0 _ rfl) (b3.cell 0 _ rfl)) (fun h k => h.trans k) kp_b (Below.refl _ _) (fun _ => rfl)
        (fun pre W => RowIn w.heap.size w3 pre W) (fun _ _ _ => False) (rowin_own w.heap.size w3 (by omega)) (fun _ _ _ _ _ hs _ _ => hs)
        ⟨.slice none 0 0, b3, go_nil _ _, Below.refl _ _ |>.mono (by omega)⟩
        (fun x a' W => ∃ Bx, w3.heap.size ≤ Bx ∧ Blk W Bx 23 (kc x) ∧ a' = { tmps := #[.slice pa na ca, .slice pb nb cb, undef, undef, .pointer (some ⟨w.heap.size, 0, none⟩), .int .i64 0, .pointer (some ⟨Bx, 0, none⟩), .slice pa na ca, .bool true, .bool false, .bool false, .slice pb nb cb, .bool true, .bool false, .bool false, .slice pa na ca, .slice pb nb cb, .func (.func 33) #[] #[.pointer (some ⟨w2.heap.size, 0, none⟩), .pointer (some ⟨w2.heap.size + 1, 0, none⟩)], KV x, undef, undef, undef, undef, undef], defers := [] })
        (fun x a' _ X Y row hs hg hr => by obtain ⟨Bx, h1, h2, h3⟩ := hs; exact ⟨Bx, h1, blk_own Bx 23 (fun (_ : Unit) => kc x) () X Y row h2 hg (fun r e => (hr r e).2), h3⟩)
        ?assign ?body ?done ?stop
      case assign =>
        rintro l pre x W K ⟨v, h1, h2, h3⟩ hK
        have hal : Below W.heap.size W (W.alloc (.cells (kc x).toArray 23)) := (Below.refl _ _).alloc (Nat.le_refl _) _
        have hws := h3.size
        gi_wp2
        exact hK _ _ ((KeepsOthers.alloc _ _).from _) (kp_below hal) ⟨v, h1.alloc _, h2.alloc _, h3.alloc (by omega) _⟩ ⟨W.heap.size, hws, Blk.new W 23 (kc x), rfl⟩
      case body =>
        rintro l pre x a' W hl ⟨r, hr⟩ ⟨v, h1, h2, h3⟩ ⟨Bx, hBx, bX, rfl⟩ hlt
        have c0 := h1.cell 0 _ rfl
        have cX0 := bX.cell 0 _ rfl; have cX1 := bX.cell 1 _ rfl; have cX2 := bX.cell 2 _ rfl
        have l2 := bX.lt
        have hml := S8.mrg_length a b
        have hla := HLA.out
        rw [List.length_append] at hla
        obtain ⟨g, cap, W3, happ, g1, g2, g3⟩ := app_at h2 x (by omega) h3.size
        obtain ⟨k1, k2, k3, k4⟩ := rowin_next #[.int .i64 x.1, .int .i64 x.2.1, .int .i64 x.2.2] (by omega) (hv := h1) (ho := h2) (hb := h3) (hg1 := g1) (hg2 := g2) (hg3 := g3)
        have kc := k1.cell 0 _ rfl
        have kf := k1.frozen 0
        have HAPP := hid happ
        clear happ g1 g2
        gi_wp2_with (gi_at_builtin; refine wpListIn_append_run rfl (.tmp 19) (.tmp 21) 33 33 rfl _ _ _ rfl rfl HAPP.out ?_)
        exact ⟨k2.from _, k3, k4⟩
      case done =>
        rintro D xs W hD hS ⟨v, h1, h2, h3⟩ hK
        obtain ⟨pz, cz, hz⟩ := (GO.gs h2).form
        obtain ⟨m, hm⟩ : ∃ m, m = xs.length := ⟨_, rfl⟩
        rw [← hm] at hz
        subst hz
        clear hm
        have c0 := h1.cell 0 _ rfl
        have f0 := h1.frozen 0
        have hDL : D ≠ w.heap.size := by omega
        have h1' : Blk (W.setCell ⟨w.heap.size, 0, none⟩ (.slice pz m cz)) w.heap.size 33 [.slice pz m cz] := h1.set 0 _
        have h2' : KO (W.setCell ⟨w.heap.size, 0, none⟩ (.slice pz m cz)) w3.heap.size (.slice pz m cz) xs := h2.kept (grown_set W w.heap.size 0 _) (fun j hj e => by have := (h2.lt j hj).1; cases e; omega)
        have h3' : Below w.heap.size w3 (W.setCell ⟨w.heap.size, 0, none⟩ (.slice pz m cz)) := h3.setCell (p := ⟨w.heap.size, 0, none⟩) (Nat.le_refl _) _
        have hK' : (W.setCell ⟨w.heap.size, 0, none⟩ (.slice pz m cz)).heap[D]? = some (.deferred (some [])) := by
          rw [← hK]
          exact (grown_set W w.heap.size 0 _).block D (Array.getElem?_eq_some_iff.1 hK).1 (fun e => hDL (by cases e; rfl))
        have hI := rowin_own w.heap.size w3 (by omega) xs _ ((W.setCell ⟨w.heap.size, 0, none⟩ (.slice pz m cz)).putObj D (.deferred none)) (some D) ⟨_, h1', h2', h3'⟩ (grownBy_putObj' _ D _) (fun r e => by cases e; exact ⟨hD, _, hK', rfl⟩)
        obtain ⟨v', q1, q2, q3⟩ := hI
        have e1 := cell_kept_l (h1'.cell 0 _ rfl) hK' rfl (.deferred none)
        rw [q1.cell 0 _ rfl] at e1
        obtain rfl : v' = .slice pz m cz := by simpa using e1
        have Q1 := hid (q1.cell 0 _ rfl); have Q2 := hid q2; have Q3 := hid (hB3.trans (q3.mono (Nat.le_refl _)))
        clear q1 q2 q3 e1 h2 h3 h1' h2' h3'
        gi_wp2
        refine ⟨by simp, .inl ⟨_, _, rfl, run_takeDeferred hK', ?_⟩⟩
        refine ⟨.tuple #[.slice pz m cz, .int .i64 0], results_sl rfl _ _ w.heap.size _ _ rfl rfl Q1.out, ⟨_, by rw [HE.out.1], by rw [HE.out.2, ← hS]; exact Q2.out.gs⟩, Q3.out⟩
      case stop => exact fun D c pre W _ _ h => h.elim
    · rw [show decide (S8.lst b) = false from decide_eq_false hb] at HO2
      obtain ⟨e1, e2⟩ := HE0.out (fun h => hb h.2)
      rw [e1, e2]
      clear HE0 ha hb e1 e2
      gi_wp2_with fail
      rw [← hZ]
      clear hZ
      refine ⟨trivial, (HO1.out _ HB0.out _).mono ?_⟩
      rintro e w1 ⟨rfl, hb1⟩
      have HB1 := hid (HB0.out.trans (hb1.mono HB0.out.size))
      have HL1 := hid (HBL.out.below hb1 HBL.out.lt)
      clear hb1
      gi_wp2_with fail
      refine ⟨trivial, (HO2.out _ HB1.out _).mono ?_⟩
      rintro e w2 ⟨rfl, hb2⟩
      have HB2 := hid (HB1.out.trans (hb2.mono HB1.out.size))
      have HL2 := hid (HL1.out.below hb2 HL1.out.lt)
      have c0 := HL2.out.cell 0 _ rfl
      have f0 := HL2.out.frozen 0
      clear hb2
      gi_wp2
      have HC := hid (((HL2.out.set 0 (.slice none 0 0)).cell 0 _ rfl))
      refine ⟨.tuple #[.slice none 0 0, .int .i64 80], results_sl rfl _ _ w.heap.size _ _ rfl rfl HC.out, ⟨_, rfl, .inl ⟨rfl, rfl⟩⟩, HB2.out.setCell (p := ⟨w.heap.size, 0, none⟩) (Nat.le_refl _) _⟩
  · rw [show decide (S8.lst a) = false from decide_eq_false ha] at HO1
    obtain ⟨e1, e2⟩ := HE0.out (fun h => ha h.1)
    rw [e1, e2]
    clear HE0 ha e1 e2
    gi_wp2_with fail
    rw [← hZ]
    clear hZ
    refine ⟨trivial, (HO1.out _ HB0.out _).mono ?_⟩
    rintro e w1 ⟨rfl, hb1⟩
    have HB1 := hid (HB0.out.trans (hb1.mono HB0.out.size))
    have HL1 := hid (HBL.out.below hb1 HBL.out.lt)
    have c0 := HL1.out.cell 0 _ rfl
    have f0 := HL1.out.frozen 0
    clear hb1
    gi_wp2
    refine ⟨trivial, ?_⟩
    gi_wp2
    have HC := hid (((HL1.out.set 0 (.slice none 0 0)).cell 0 _ rfl))
    refine ⟨.tuple #[.slice none 0 0, .int .i64 80], results_sl rfl _ _ w.heap.size _ _ rfl rfl HC.out, ⟨_, rfl, .inl ⟨rfl, rfl⟩⟩, HB1.out.setCell (p := ⟨w.heap.size, 0, none⟩) (Nat.le_refl _) _⟩
end Go.Proofs.Ytlkcnnamnjnmbaa

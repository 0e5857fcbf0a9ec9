/- Contract: At. -/
import Derived.Test.YtbejjindkcjecaaG
namespace Go.Proofs.Ytbejjindkcjecaa
open Go.RowKit Go Go.Shelf
set_option linter.unusedVariables false
set_option linter.unusedSimpArgs false
attribute [local go_sem] Oper.semAt_some
theorem kpN_alloc {S : Nat → Prop} (W : World) (o : Obj) : KpN S W (W.alloc o) := ⟨fun a v _ h => cell_alloc_l _ h, by simp⟩
theorem cell_lt {W : World} {a : Addr} {v : Value} (h : W.cell? a = some v) : a.block < W.heap.size := by
  rcases Nat.lt_or_ge a.block W.heap.size with hh | hh
  · exact hh
  · simp [World.cell?, Array.getElem?_eq_none hh] at h
theorem kpN_below {S : Nat → Prop} {W W' : World} (hb : Below W.heap.size W W') : KpN S W W' := ⟨fun a v _ h => (hb.cell (p := a) (cell_lt h)).trans h, hb.size⟩
theorem kf_below {B : Nat} {W W' : World} (hb : Below W.heap.size W W') : KeepsFrom B W W' := KeepsFrom.of_grownBy (grown_of_below (r := none) hb) (fun j e => by cases e)
/-- a fact is stored -/
abbrev set8 (W : World) (B : Nat) (x : FA) : World := (((((((W.setCell ⟨B, 0, none⟩ (.int .i64 x.kind)).setCell ⟨B, 1, none⟩ (.int .i64 x.subj)).setCell ⟨B, 2, none⟩ (.int .i64 x.obj)).setCell ⟨B, 3, none⟩ (.int .i64 x.val)).setCell ⟨B, 4, none⟩ (.int .i64 x.frm)).setCell ⟨B, 5, none⟩ (.int .i64 x.to)).setCell ⟨B, 6, none⟩ (.int .i64 x.known)).setCell ⟨B, 7, none⟩ (.int .i64 x.no)
theorem set8_blk {W : World} {B : Nat} {b x : FA} {t : TypeId} (h : Blk W B t (fc b)) : Blk (set8 W B x) B t (fc x) := (((((((h.set 0 _).set 1 _).set 2 _).set 3 _).set 4 _).set 5 _).set 6 _).set 7 _
theorem set8_other {W : World} {B B' : Nat} {x : FA} {t : TypeId} {cs : List Value} (h : Blk W B' t cs) (hne : B' ≠ B) : Blk (set8 W B x) B' t cs := (((((((h.other hne _).other hne _).other hne _).other hne _).other hne _).other hne _).other hne _).other hne _
theorem set8_below {W w : World} {B n : Nat} {x : FA} (h : Below n w W) (hn : n ≤ B) : Below n w (set8 W B x) :=
  (((((((h.setCell (p := ⟨B, 0, none⟩) hn _).setCell (p := ⟨B, 1, none⟩) hn _).setCell (p := ⟨B, 2, none⟩) hn _).setCell (p := ⟨B, 3, none⟩) hn _).setCell (p := ⟨B, 4, none⟩) hn _).setCell (p := ⟨B, 5, none⟩) hn _).setCell (p := ⟨B, 6, none⟩) hn _).setCell (p := ⟨B, 7, none⟩) hn _
theorem set8_keeps (W : World) (B : Nat) (x : FA) : KeepsOthers W (set8 W B x) :=
  (((((((KeepsOthers.setCell _ _ _).trans (KeepsOthers.setCell _ _ _)).trans (KeepsOthers.setCell _ _ _)).trans (KeepsOthers.setCell _ _ _)).trans (KeepsOthers.setCell _ _ _)).trans (KeepsOthers.setCell _ _ _)).trans (KeepsOthers.setCell _ _ _)).trans (KeepsOthers.setCell _ _ _)
theorem kpN_set {W : World} {B j : Nat} (u : Value) : KpN (fun i => i ≠ B) W (W.setCell ⟨B, j, none⟩ u) :=
  ⟨fun a v ha h => by rw [← h]; exact World.cell?_setCell_other _ _ _ _ (by rintro rfl; exact ha rfl), by rw [World.size_setCell]; exact Nat.le_refl _⟩
theorem set8_kp (W : World) (B : Nat) (x : FA) : KpN (fun i => i ≠ B) W (set8 W B x) :=
  kpN_t (kpN_t (kpN_t (kpN_t (kpN_t (kpN_t (kpN_t (kpN_set _) (kpN_set _)) (kpN_set _)) (kpN_set _)) (kpN_set _)) (kpN_set _)) (kpN_set _)) (kpN_set _)
set_option maxRecDepth 100000 in
set_option maxHeartbeats 4000000 in
theorem at_any (v : Value) (L : List FA) (k : KE) (t q : Int) (w : World) (hv : FS w v L) (hwf : WF L) :
    Calls Try.prog 18 #[v, KV k, .int .i64 t, .int .i64 q] w fun e w' => e = .returned (.tuple #[.int .i64 (F7.val k t q L).1, .bool (F7.val k t q L).2]) ∧ Below w.heap.size w w' := by
  obtain ⟨p, c, rfl⟩ := hv.form
  have hr : FR p w.heap.size L w := hv.gr 8 fc_len (by omega)
  have hm := hv.len
  unfold maxLen at hm
  have hval := val_lst (k := k) (t := t) (q := q) hwf
  obtain ⟨m, hn⟩ : ∃ m, m = L.length := ⟨_, rfl⟩
  rw [← hn] at hm ⊢
  have HR := hid hr; have HN := hid hn; have HVAL := hid hval
  clear hr hv hn hval hwf
  refine (callsIn_wide (n := 5)).1 ?_
  refine callsIn_of_wp_marks Try.func18 rfl trivial ?_ rfl
  simp only [Try.ntmps18, List.size_toArray, List.length_cons, List.length_nil, Nat.reduceAdd, Nat.reduceSub, Array.replicate_succ, Array.replicate_zero, List.push_toArray, List.append_toArray, List.nil_append, List.cons_append]
  gi_wp2_with (refine ⟨trivial, ?_⟩; gi_at_call 36; refine (of_in _ _ k q _ ⟨_, _, _, rfl⟩).mono ?_; rintro e w' ⟨rfl, rfl⟩)
  obtain ⟨W0, hW0⟩ : ∃ W0, W0 = (((((w.alloc (.cells #[.int .i64 k.1, .int .i64 k.2.1, .int .i64 k.2.2] 24)).alloc (.cells #[.int .i64 t] 3)).alloc (.cells #[.int .i64 0, .int .i64 0, .int .i64 0, .int .i64 (-1), .int .i64 0, .int .i64 0, .int .i64 (-9223372036854775808), .int .i64 (-9223372036854775808)] 28)).alloc (.cells #[.slice p m c] 22)).alloc (.cells #[.int .i64 k.1, .int .i64 k.2.1, .int .i64 k.2.2] 24)).alloc (.cells #[.int .i64 q] 3) := ⟨_, rfl⟩
  have bT : Blk W0 (w.heap.size + 1) 3 [.int .i64 t] := by
    have h := Blk.new (w.alloc (.cells #[.int .i64 k.1, .int .i64 k.2.1, .int .i64 k.2.2] 24)) 3 [.int .i64 t]
    rw [World.size_alloc] at h; rw [hW0]; exact (((h.alloc _).alloc _).alloc _).alloc _
  have bL : Blk W0 (w.heap.size + 1 + 1) 28 (fc (lst t [])) := by
    have h := Blk.new ((w.alloc (.cells #[.int .i64 k.1, .int .i64 k.2.1, .int .i64 k.2.2] 24)).alloc (.cells #[.int .i64 t] 3)) 28 (fc init)
    rw [World.size_alloc, World.size_alloc] at h; rw [hW0]; exact ((h.alloc _).alloc _).alloc _
  have b1 : Blk W0 (w.heap.size + 1 + 1 + 1) 22 [.slice p m c] := by
    have h := Blk.new (((w.alloc (.cells #[.int .i64 k.1, .int .i64 k.2.1, .int .i64 k.2.2] 24)).alloc (.cells #[.int .i64 t] 3)).alloc (.cells #[.int .i64 0, .int .i64 0, .int .i64 0, .int .i64 (-1), .int .i64 0, .int .i64 0, .int .i64 (-9223372036854775808), .int .i64 (-9223372036854775808)] 28)) 22 [.slice p m c]
    rw [World.size_alloc, World.size_alloc, World.size_alloc] at h; rw [hW0]; exact (h.alloc _).alloc _
  have b2 : Blk W0 (w.heap.size + 1 + 1 + 1 + 1) 24 (kc k) := by
    have h := Blk.new ((((w.alloc (.cells #[.int .i64 k.1, .int .i64 k.2.1, .int .i64 k.2.2] 24)).alloc (.cells #[.int .i64 t] 3)).alloc (.cells #[.int .i64 0, .int .i64 0, .int .i64 0, .int .i64 (-1), .int .i64 0, .int .i64 0, .int .i64 (-9223372036854775808), .int .i64 (-9223372036854775808)] 28)).alloc (.cells #[.slice p m c] 22)) 24 (kc k)
    rw [World.size_alloc, World.size_alloc, World.size_alloc, World.size_alloc] at h; rw [hW0]; exact h.alloc _
  have b3 : Blk W0 (w.heap.size + 1 + 1 + 1 + 2) 3 [.int .i64 q] := by
    have h := Blk.new (((((w.alloc (.cells #[.int .i64 k.1, .int .i64 k.2.1, .int .i64 k.2.2] 24)).alloc (.cells #[.int .i64 t] 3)).alloc (.cells #[.int .i64 0, .int .i64 0, .int .i64 0, .int .i64 (-1), .int .i64 0, .int .i64 0, .int .i64 (-9223372036854775808), .int .i64 (-9223372036854775808)] 28)).alloc (.cells #[.slice p m c] 22)).alloc (.cells #[.int .i64 k.1, .int .i64 k.2.1, .int .i64 k.2.2] 24)) 3 [.int .i64 q]
    rw [World.size_alloc, World.size_alloc, World.size_alloc, World.size_alloc, World.size_alloc] at h; rw [hW0]; exact h
  have hsz : W0.heap.size = w.heap.size + 6 := by rw [hW0]; simp
  have hB0 : Below w.heap.size w W0 := by
    rw [hW0]
    exact ((((((Below.refl _ w).alloc (Nat.le_refl _) _).alloc (by simp) _).alloc (by simp; omega) _).alloc (by simp; omega) _).alloc (by simp; omega) _).alloc (by simp; omega) _
  rw [← hW0]
  clear hW0
  have hKQ : Kq (w.heap.size + 1 + 1 + 1 + 1) (w.heap.size + 1 + 1 + 1 + 2) k q W0 := ⟨b2.cell 0 _ rfl, b2.cell 1 _ rfl, b2.cell 2 _ rfl, b3.cell 0 _ rfl⟩
  refine wpIn_rangeFunc_ownH rfl (by omega) (gf := 52) (lb := #[.pointer (some ⟨w.heap.size + 1 + 1 + 1, 0, none⟩), .pointer (some ⟨w.heap.size + 1 + 1 + 1 + 1, 0, none⟩), .pointer (some ⟨w.heap.size + 1 + 1 + 1 + 2, 0, none⟩)]) rfl trivial (enters_of Try.func52 (by kernel_rfl) rfl)
    (of_stops _ (by omega) (w.heap.size + 1 + 1 + 1) (w.heap.size + 1 + 1 + 1 + 1) (w.heap.size + 1 + 1 + 1 + 2) w.heap.size (fun j => j ≠ w.heap.size + 1 + 1) (fun j hj e => by omega) p c m L HN.out (by omega) k q W0 (by omega) (by omega) (by omega) (fun e => by omega) (fun e => by omega) (by omega) (b1.cell 0 _ rfl) hKQ (HR.out.up hB0)) kpN_t kpN_b (Below.refl _ _) (fun _ => rfl)
    (fun pre W => (Blk W (w.heap.size + 1 + 1) 28 (fc (lst t pre)) ∧ Blk W (w.heap.size + 1) 3 [.int .i64 t]) ∧ Below w.heap.size w W) (fun _ _ _ => False)
    (OwnFrom.and (OwnFrom.and (Own.from (blk_own (w.heap.size + 1 + 1) 28 (fun pre => fc (lst t pre))) _) (Own.from (blk_own (w.heap.size + 1) 3 (fun _ => [.int .i64 t])) _)) (ownFrom_below (Nat.le_refl _) (by omega)))
    (fun _ _ _ _ _ hs _ _ => hs) ⟨⟨bL, bT⟩, hB0⟩
    (fun x a' W => ∃ Bx, w.heap.size + 1 + 1 < Bx ∧ Blk W Bx 28 (fc x) ∧ a' = { tmps := #[.slice p m c, KV k, .int .i64 t, .int .i64 q, undef, .pointer (some ⟨w.heap.size, 0, none⟩), .pointer (some ⟨w.heap.size + 1, 0, none⟩), undef, .int .i64 0, .bool false, .pointer (some ⟨w.heap.size + 1 + 1, 0, none⟩), .pointer (some ⟨Bx, 0, none⟩), .agg #[.int .i64 0, .int .i64 0, .int .i64 0, .int .i64 (-1), .int .i64 0, .int .i64 0, .int .i64 (-9223372036854775808), .int .i64 (-9223372036854775808)], .slice p m c, .agg #[.int .i64 k.1, .int .i64 k.2.1, .int .i64 k.2.2], .int .i64 q, .func (.func 52) #[] #[.pointer (some ⟨w.heap.size + 1 + 1 + 1, 0, none⟩), .pointer (some ⟨w.heap.size + 1 + 1 + 1 + 1, 0, none⟩), .pointer (some ⟨w.heap.size + 1 + 1 + 1 + 2, 0, none⟩)], FV x, undef, undef, undef, undef, undef, undef, undef, undef, undef, undef, undef, undef, undef, undef, undef, undef, undef], defers := [] })
    (fun x a' _ X Y row hs hg hr => by obtain ⟨Bx, h1, h2, h3⟩ := hs; exact ⟨Bx, h1, blk_own Bx 28 (fun (_ : Unit) => fc x) () X Y row h2 hg (fun r e => (hr r e).2), h3⟩)
    ?assign ?body ?done ?stop
  case assign =>
    rintro l pre x W K ⟨⟨bL1, bT1⟩, hB1⟩ hK
    have hs1 := hB1.size
    have hs2 := bL1.lt
    gi_wp2
    exact hK _ _ ((KeepsOthers.alloc _ _).from _) (kpN_alloc _ _) ⟨⟨bL1.alloc _, bT1.alloc _⟩, hB1.alloc hB1.size _⟩ ⟨W.heap.size, hs2, Blk.new W 28 (fc x), rfl⟩
  case body =>
    rintro l pre x a' W hl ⟨r, hr⟩ ⟨⟨bL1, bT1⟩, hB1⟩ ⟨Bx, hBx, bX, rfl⟩ hlt
    obtain ⟨b, hb⟩ : ∃ b, b = lst t pre := ⟨_, rfl⟩
    rw [← hb] at bL1
    have cL0 := bL1.cell 0 _ rfl; have cL1 := bL1.cell 1 _ rfl; have cL2 := bL1.cell 2 _ rfl; have cL3 := bL1.cell 3 _ rfl; have cL4 := bL1.cell 4 _ rfl; have cL5 := bL1.cell 5 _ rfl; have cL6 := bL1.cell 6 _ rfl; have cL7 := bL1.cell 7 _ rfl
    have cX0 := bX.cell 0 _ rfl; have cX1 := bX.cell 1 _ rfl; have cX2 := bX.cell 2 _ rfl; have cX3 := bX.cell 3 _ rfl; have cX4 := bX.cell 4 _ rfl; have cX5 := bX.cell 5 _ rfl; have cX6 := bX.cell 6 _ rfl; have cX7 := bX.cell 7 _ rfl
    have cT := bT1.cell 0 _ rfl
    have hst := lst_snoc t pre x
    rw [← hb] at hst
    have HB := hid hb
    clear hb
    have hh := hid (fun (W' : World) h0 h1 h2 => has1_any W.heap.size 0 x.frm x.to t W' h0 h1 h2)
    have oo := hid (fun W' => order_any b x W')
    have l1 := bL1.lt; have l2 := bX.lt; have l3 := bT1.lt
    have n1 := cell_lit W #[.int .i64 x.frm, .int .i64 x.to] 26 0 _ rfl
    have n2 := cell_lit W #[.int .i64 x.frm, .int .i64 x.to] 26 1 _ rfl
    cases hx : has1 x.frm x.to t with
    | false =>
      rw [hx] at hh
      have hst2 : lst t (pre ++ [x]) = b := by rw [hst]; unfold step; rw [hx]; rfl
      have HS := hid hst2
      clear hst hst2 hx
      gi_wp2_with (first | (refine ⟨trivial, ?_⟩; gi_at_call 37; (with_reducible refine (CallsIn.inRound l (callsIn_wide.2 (hh.out _ (by simp) n1 n2))).mono ?_); rintro e w' ⟨rfl, rfl⟩))
      refine ⟨trivial, ?_⟩
      gi_wp2
      have hbW : Below W.heap.size W ((W.alloc (.cells #[.int .i64 x.frm, .int .i64 x.to] 26)).alloc (.cells #[.int .i64 x.frm, .int .i64 x.to] 26)) := ((Below.refl _ W).alloc (Nat.le_refl _) _).alloc (by simp) _
      exact ⟨kf_below hbW, kpN_below hbW, ⟨by rw [HS.out]; exact (bL1.alloc _).alloc _, (bT1.alloc _).alloc _⟩, below_t hB1 hbW⟩
    | true =>
      rw [hx] at hh
      have hbW0 := hid (fun qq os => show Below W.heap.size W (Go.Sort.grow (((W.alloc (.cells #[.int .i64 x.frm, .int .i64 x.to] 26)).alloc (.cells #[.int .i64 x.frm, .int .i64 x.to] 26)).drewN qq) os) from (((Below.refl _ W).alloc (Nat.le_refl _) _).alloc (by simp) _).trans (below_os rfl (by simp; omega)))
      obtain ⟨z, hz0⟩ : ∃ z, z = ord b x := ⟨_, rfl⟩
      rw [← hz0] at oo
      by_cases hz : z ≤ 0
      · have hst2 : lst t (pre ++ [x]) = x := by rw [hst]; unfold step; rw [if_pos ⟨hx, by rw [← hz0]; exact hz⟩]
        have HS := hid hst2
        have hzd : decide (z ≤ 0) = true := decide_eq_true hz
        clear hst hst2 hx hz0
        gi_wp2_with (first | (refine ⟨trivial, ?_⟩; gi_at_call 37; (with_reducible refine (CallsIn.inRound l (callsIn_wide.2 (hh.out _ (by simp) n1 n2))).mono ?_); rintro e w' ⟨rfl, rfl⟩) | (refine ⟨trivial, ?_⟩; gi_at_call 33; (with_reducible refine (CallsIn.inRound l (callsIn_wide.2 (oo.out _))).mono ?_); rintro e w5 ⟨rfl, qq, os, hw5⟩; have hbW := hid (hbW0.out qq os); rw [← hw5] at hbW; clear hw5; have bX5 := bX.below hbW.out l2; have bL5 := bL1.below hbW.out l1; have dX0 := bX5.cell 0 _ rfl; have dL0 := bL5.cell 0 _ rfl; have fL0 := bL5.frozen 0; have dX1 := bX5.cell 1 _ rfl; have dL1 := bL5.cell 1 _ rfl; have fL1 := bL5.frozen 1; have dX2 := bX5.cell 2 _ rfl; have dL2 := bL5.cell 2 _ rfl; have fL2 := bL5.frozen 2; have dX3 := bX5.cell 3 _ rfl; have dL3 := bL5.cell 3 _ rfl; have fL3 := bL5.frozen 3; have dX4 := bX5.cell 4 _ rfl; have dL4 := bL5.cell 4 _ rfl; have fL4 := bL5.frozen 4; have dX5 := bX5.cell 5 _ rfl; have dL5 := bL5.cell 5 _ rfl; have fL5 := bL5.frozen 5; have dX6 := bX5.cell 6 _ rfl; have dL6 := bL5.cell 6 _ rfl; have fL6 := bL5.frozen 6; have dX7 := bX5.cell 7 _ rfl; have dL7 := bL5.cell 7 _ rfl; have fL7 := bL5.frozen 7))
        exact ⟨(kf_below hbW.out).trans ((set8_keeps _ _ _).from _), kpN_t (kpN_below hbW.out) (set8_kp _ _ _), ⟨by rw [HS.out]; exact set8_blk bL5, set8_other (bT1.below hbW.out l3) (by omega)⟩, set8_below (below_t hB1 hbW.out) (by omega)⟩
      · have hst2 : lst t (pre ++ [x]) = b := by rw [hst]; unfold step; rw [if_neg (fun e => hz (by rw [hz0]; exact e.2))]
        have HS := hid hst2
        have hzd : decide (z ≤ 0) = false := decide_eq_false hz
        clear hst hst2 hx hz0 hz
        gi_wp2_with (first | (refine ⟨trivial, ?_⟩; gi_at_call 37; (with_reducible refine (CallsIn.inRound l (callsIn_wide.2 (hh.out _ (by simp) n1 n2))).mono ?_); rintro e w' ⟨rfl, rfl⟩) | (refine ⟨trivial, ?_⟩; gi_at_call 33; (with_reducible refine (CallsIn.inRound l (callsIn_wide.2 (oo.out _))).mono ?_); rintro e w5 ⟨rfl, qq, os, hw5⟩; have hbW := hid (hbW0.out qq os); rw [← hw5] at hbW; clear hw5; have bX5 := bX.below hbW.out l2; have bL5 := bL1.below hbW.out l1; have dX0 := bX5.cell 0 _ rfl; have dL0 := bL5.cell 0 _ rfl; have fL0 := bL5.frozen 0; have dX1 := bX5.cell 1 _ rfl; have dL1 := bL5.cell 1 _ rfl; have fL1 := bL5.frozen 1; have dX2 := bX5.cell 2 _ rfl; have dL2 := bL5.cell 2 _ rfl; have fL2 := bL5.frozen 2; have dX3 := bX5.cell 3 _ rfl; have dL3 := bL5.cell 3 _ rfl; have fL3 := bL5.frozen 3; have dX4 := bX5.cell 4 _ rfl; have dL4 := bL5.cell 4 _ rfl; have fL4 := bL5.frozen 4; have dX5 := bX5.cell 5 _ rfl; have dL5 := bL5.cell 5 _ rfl; have fL5 := bL5.frozen 5; have dX6 := bX5.cell 6 _ rfl; have dL6 := bL5.cell 6 _ rfl; have fL6 := bL5.frozen 6; have dX7 := bX5.cell 7 _ rfl; have dL7 := bL5.cell 7 _ rfl; have fL7 := bL5.frozen 7))
        exact ⟨kf_below hbW.out, kpN_below hbW.out, ⟨by rw [HS.out]; exact bL1.below hbW.out l1, bT1.below hbW.out l3⟩, below_t hB1 hbW.out⟩
  case done =>
    rintro D zs W hD rfl ⟨⟨bL1, bT1⟩, hB1⟩ hK
    have hE := hid (hB1.trans (belowK_b (w := w) (Nat.le_refl _) W D _ (.deferred none) (by omega) hK rfl rfl))
    have HV := HVAL.out
    obtain ⟨b, hb⟩ : ∃ b, b = lst t (sel k q L) := ⟨_, rfl⟩
    rw [← hb] at bL1 HV
    have HVV := hid HV
    have cV := bL1.cell 3 _ rfl
    clear hb HV
    by_cases hz : b.val ≤ -1
    · have hv1 : F7.val k t q L = (0, false) := by rw [HVV.out, if_pos hz]
      have HV1 := hid hv1
      clear hv1
      gi_wp2
      refine ⟨by simp, .inl ⟨_, _, rfl, run_takeDeferred hK, ?_⟩⟩
      exact ⟨.tuple #[.int .i64 0, .bool false], by simp [results, Try.results18, go_sem], by rw [HV1.out], hE.out⟩
    · have hv1 : F7.val k t q L = (b.val, true) := by rw [HVV.out, if_neg hz]
      have HV1 := hid hv1
      have hz2 : -1 < b.val := by omega
      clear hv1 hz
      gi_wp2
      refine ⟨by simp, .inl ⟨_, _, rfl, run_takeDeferred hK, ?_⟩⟩
      exact ⟨.tuple #[.int .i64 b.val, .bool true], by simp [results, Try.results18, go_sem], by rw [HV1.out], hE.out⟩
  case stop => exact fun D c pre W _ _ h => h.elim
end Go.Proofs.Ytbejjindkcjecaa

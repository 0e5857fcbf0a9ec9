/- The reference's Decode. -/
import Derived.Test.YtiklpimnmbjenaaRdK
import Derived.Deep.RegionLaw
namespace Go.Proofs.Ytiklpimnmbjenaa
open Go.RowKit Go
set_option linter.unusedVariables false
set_option linter.unusedSimpArgs false
theorem below_dn {w v : World} {k : Nat} (h : Below k w v) (n : Nat) : Below k w (v.drewN n) := ⟨h.os, h.tape, h.output, h.size, h.block⟩
theorem OutD.bad {w W : World} {o : Option T} (ho : o = none) (hb : Below w.heap.size w W) (n : Nat) :
    OutD w (put4 (W.drewN n) w.heap.size (.int .i64 0) (.int .i64 0) (.string ⟨#[]⟩) (.slice none 0 0)) o (.returned (.tuple #[ZV, .int .i64 10])) := by
  subst ho
  exact ⟨(below_dn hb n).trans (put4_below (W.drewN n) w.heap.size _ _ _ _), rfl⟩
theorem OutD.good {w w1 W2 : World} {o : Option T} {t : T} {k0 : Nat} {k' n' : Int} {s' : ByteArray} {p' : Option Addr} {len' cap' : Nat} (ho : o = some t) (hb : Below w.heap.size w W2) (hk : w.heap.size < k0) (h1 : Below w1.heap.size w1 W2)
    (ha : AtP w1 (fun k => k0 ≤ k ∧ k < w1.heap.size) t (.agg #[.int .i64 k', .int .i64 n', .string s', .slice p' len' cap'])) :
    OutD w (put4 W2 w.heap.size (.int .i64 k') (.int .i64 n') (.string s') (.slice p' len' cap')) o (.returned (.tuple #[.agg #[.int .i64 k', .int .i64 n', .string s', .slice p' len' cap'], .int .i64 0])) := by
  subst ho
  have hp := put4_below W2 w.heap.size (.int .i64 k') (.int .i64 n') (.string s') (.slice p' len' cap')
  refine ⟨hb.trans hp, _, rfl, AtP.kept (fun k hk' => ⟨⟨by omega, ?_⟩, ?_⟩) ha⟩
  · exact (put4at_block W2 w.heap.size 0 _ _ _ _ k (by omega)).trans (h1.block k hk'.2)
  · exact Nat.lt_of_lt_of_le hk'.2 (Nat.le_trans h1.size hp.size)
set_option maxRecDepth 100000 in
set_option maxHeartbeats 1000000 in
theorem refDecode_any (l : List Int) (v : Value) (w : World) (hv : InB w v l) (hl : l.length ≤ 1000000) :
    Calls Try.prog 15 #[v] w fun e w' => OutD w w' (decB l) e := by
  obtain ⟨p, cap, rfl⟩ : ∃ p cap, v = .slice p l.length cap := by obtain ⟨_, p, cap, h, _⟩ := hv; exact ⟨p, cap, h⟩
  have HB := hid hv.1
  have HV := hid (refval_any 16)
  have HR := hid (D1_rr hv hl)
  have HI := hid hv; clear hv
  obtain ⟨len, hlen⟩ : ∃ n, n = l.length := ⟨_, rfl⟩
  rw [← hlen] at HR HI hl ⊢
  have HL := hid hlen; clear hlen
  go_enter Try.func15, Try.ntmps15
  go_wp2_with fail
  refine (HV.out _ (w.heap.size + 1) l 0 0 rfl HR.out).mono ?_
  rintro e w1 ⟨hg1, v1, rfl, ⟨k', n', s', p', len', cap', rfl⟩, hm⟩
  rw [List.drop_zero] at hm
  obtain ⟨hz, hbel⟩ := D1_after hg1
  obtain ⟨⟨z0, z1, z2, z3⟩, f0, f1, f2, f3⟩ := hz.cells
  have HZ := hid hz; have HBL := hid hbel; have HG := hid hg1; clear hz hbel
  have hsz := hg1.size
  simp at hsz
  clear hg1
  obtain ⟨kv, hkv⟩ : ∃ k, k = w1.heap.size := ⟨_, rfl⟩
  obtain ⟨W, hW⟩ : ∃ W, W = w1.alloc (.cells #[.int .i64 k', .int .i64 n', .string s', .slice p' len' cap'] 24) := ⟨_, rfl⟩
  have hbW : Below w1.heap.size w1 W := by rw [hW]; exact below_al _ _
  have hsW : W.heap.size = kv + 1 := by rw [hW, hkv]; simp
  have hblk : W.heap[kv]? = some (.cells #[.int .i64 k', .int .i64 n', .string s', .slice p' len' cap'] 24) := by rw [hW, hkv]; exact heap_alloc_new w1 _
  have c0 : W.cell? ⟨kv, 0, none⟩ = some (.int .i64 k') := by simp only [World.cell?, hblk]; rfl
  have c1 : W.cell? ⟨kv, 1, none⟩ = some (.int .i64 n') := by simp only [World.cell?, hblk]; rfl
  have c2 : W.cell? ⟨kv, 2, none⟩ = some (.string s') := by simp only [World.cell?, hblk]; rfl
  have c3 : W.cell? ⟨kv, 3, none⟩ = some (.slice p' len' cap') := by simp only [World.cell?, hblk]; rfl
  have HZW := hid (zed_below HZ.out (hbW.mono (by omega)))
  obtain ⟨⟨z0, z1, z2, z3⟩, f0, f1, f2, f3⟩ := HZW.out.cells
  have HBW := hid (below_tr HBL.out hbW)
  have HWW := hid hbW
  have hfst : ∀ (c : Code) (K : Exit → Act → World → Prop) (a : Act), c.wp Try.prog K a W → c.wp Try.prog K a (w1.alloc (.cells #[.int .i64 k', .int .i64 n', .string s', .slice p' len' cap'] 24)) := fun c K a h => by rw [← hW]; exact h
  have HF := hid hfst
  rw [← hkv] at hsz
  clear hW hbW hblk hfst
  cases hp : pv 16 l with
  | none =>
    rw [hp] at hm
    obtain ⟨n, hn⟩ := hm
    have HD : Hid (decB l = none) := by show decB l = none; unfold decB; rw [hp]
    have hb2 : W.cell? ⟨w.heap.size + 1, 2, none⟩ = some (.bool true) := by rw [HWW.out.cell (p := ⟨w.heap.size + 1, 2, none⟩) (by show w.heap.size + 1 < w1.heap.size; omega)]; exact hn.2.2.2.2.2.2.1
    clear hn hp
    go_wp2
    rw [← hkv]
    refine HF.out _ _ _ ?_
    clear hkv
    go_quiet (fail)
    go_wp2
    refine bodyPost_ret (v := .tuple #[ZV, .int .i64 10]) (by simp [results, Try.results15, go_sem, z0, z1, z2, z3]) rfl ?_
    exact OutD.bad HD.out HBW.out nq
  | some x =>
    obtain ⟨t, r⟩ := x
    rw [hp] at hm
    obtain ⟨n, hd, hn, ha⟩ := hm
    have hb1 : W.cell? ⟨w.heap.size + 1, 1, none⟩ = some (.int .i64 n) := by rw [HWW.out.cell (p := ⟨w.heap.size + 1, 1, none⟩) (by show w.heap.size + 1 < w1.heap.size; omega)]; exact hn.2.2.2.2.2.1
    have hb2 : W.cell? ⟨w.heap.size + 1, 2, none⟩ = some (.bool false) := by rw [HWW.out.cell (p := ⟨w.heap.size + 1, 2, none⟩) (by show w.heap.size + 1 < w1.heap.size; omega)]; exact hn.2.2.2.2.2.2.1
    have hnl : n ≤ len := by rw [HL.out]; exact hn.2.2.1
    clear hn
    cases r with
    | cons c r =>
      have HD : Hid (decB l = none) := by show decB l = none; unfold decB; rw [hp]
      have hne : ((n : Int) != len) = true := by
        have := congrArg List.length hd
        simp at this
        have h2 := HL.out
        simp; omega
      clear hp hd ha
      go_wp2
      rw [← hkv]
      refine HF.out _ _ _ ?_
      clear hkv
      go_quiet (fail)
      go_wp2
      refine bodyPost_ret (v := .tuple #[ZV, .int .i64 10]) (by simp [results, Try.results15, go_sem, z0, z1, z2, z3]) rfl ?_
      exact OutD.bad HD.out HBW.out nq
    | nil =>
      have HD : Hid (decB l = some t) := by show decB l = some t; unfold decB; rw [hp]
      obtain ⟨e1, e2, e3, e4⟩ := decB_some HB.out hp
      obtain rfl : n = len := by have := congrArg List.length hd; simp at this; have := HL.out; omega
      have HA := hid ha
      have hat : At w1 w1.heap.size t (.agg #[.int .i64 k', .int .i64 n', .string s', .slice p' len' cap']) := AtP.kept (fun k hk => ⟨hk.2, rfl⟩) ha
      have hatW := at_up hat HWW.out
      obtain ⟨X, hX⟩ : ∃ X, X = strOfNums l := ⟨_, rfl⟩
      have E2 : Hid (∀ W', Below W.heap.size W W' → (convert 27 9 (.slice p n cap)).run Try.prog W' = .ok (.string X) W') := fun W' hW' => by rw [hX]; exact inb_conv (HI.out.up (below_tr HBW.out hW'))
      have K1 : Hid (∀ W', Below W.heap.size W W' → Calls Try.prog 13 #[.agg #[.int .i64 k', .int .i64 n', .string s', .slice p' len' cap']] W' fun e w' => e = .returned (.int .i64 0) ∧ Below W'.heap.size W' w') := fun W' hW => by
        have := refCheck_any t W' W'.heap.size _ (at_up hatW hW) (Nat.le_refl _) e4; rwa [e2] at this
      have K2 : Hid (∀ W', Below W.heap.size W W' → Calls Try.prog 23 #[.agg #[.int .i64 k', .int .i64 n', .string s', .slice p' len' cap']] W' fun e w' => ∃ v, e = .returned v ∧ (convert 27 9 v).run Try.prog w' = .ok (.string X) w' ∧ Below W'.heap.size W' w') := fun W' hW =>
        (refEnc_any t W' W'.heap.size _ (at_up hatW hW) (Nat.le_refl _) e3 (by rw [← e1, ← HL.out]; exact hl)).mono fun e w' ⟨v, h1, h2, h3⟩ => ⟨v, h1, by rw [hX, e1]; exact own_conv h2, h3⟩
      clear hp hd ha e1 e2 e3 e4 hat hatW hX
      go_wp2
      rw [← hkv]
      refine HF.out _ _ _ ?_
      clear hkv
      have c0' := cell_up c0 (Below.refl _ _).drew
      have c1' := cell_up c1 (Below.refl _ _).drew
      have c2' := cell_up c2 (Below.refl _ _).drew
      have c3' := cell_up c3 (Below.refl _ _).drew
      go_region_law (first | (go_simp; go_at_call 13; refine (K1.out _ (Below.refl _ _).drew).mono ?_; rintro e w7 ⟨rfl, hb7⟩; have hB7 : Below W.heap.size W w7 := below_tr (a := W.drew) (Below.refl _ _).drew hb7; have d0 := cell_up c0 hB7; have d1 := cell_up c1 hB7; have d2 := cell_up c2 hB7; have d3 := cell_up c3 hB7; have hcv7 := E2.out _ hB7) | (go_simp; go_at_call 23; refine (K2.out _ hB7).mono ?_; rintro e w8 ⟨v8, rfl, hcv8, hb8⟩; have hcw8 := E2.out _ (below_tr hB7 hb8)))
      all_goals
        have g0 := cell_up d0 hb8
        have g1 := cell_up d1 hb8
        have g2 := cell_up d2 hb8
        have g3 := cell_up d3 hb8
        have hB8 := below_tr hB7 hb8
        obtain ⟨⟨x0, x1, x2, x3⟩, j0, j1, j2, j3⟩ := (zed_below HZW.out (hB8.mono (by omega))).cells
        have HB8 := hid hB8
        clear hB8 hB7 hb7 hb8 d0 d1 d2 d3 z0 z1 z2 z3 f0 f1 f2 f3
        go_wp2
        refine bodyPost_ret (v := .tuple #[.agg #[.int .i64 k', .int .i64 n', .string s', .slice p' len' cap'], .int .i64 0]) (by simp [results, Try.results15, go_sem, x0, x1, x2, x3]) rfl ?_
        exact OutD.good HD.out (below_tr HBW.out HB8.out) (by unfold D1; simp; omega) (below_tr HWW.out HB8.out) HA.out
end Go.Proofs.Ytiklpimnmbjenaa

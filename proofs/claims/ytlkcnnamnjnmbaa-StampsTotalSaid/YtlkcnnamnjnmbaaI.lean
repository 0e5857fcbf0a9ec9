/- Contract: the iterator of Merge. -/
import Derived.Test.YtlkcnnamnjnmbaaG
namespace Go.Proofs.Ytlkcnnamnjnmbaa
open Go.RowKit Go Go.Shelf
set_option linter.unusedVariables false
set_option linter.unusedSimpArgs false
attribute [local go_sem] Oper.semAt_some
theorem KS.keep {w W : World} {v : Value} {l : List St} (h : KS w v l) (hk : ∀ a v, a.block < w.heap.size → w.cell? a = some v → W.cell? a = some v) (hs : w.heap.size ≤ W.heap.size) : KS W v l := by
  rcases h with h | ⟨a, cap, h1, h2, h3, h4, h5⟩
  · exact .inl h
  · exact .inr ⟨a, cap, h1, h2, h3, fun j v hj => hk _ _ (by rw [add_block]; exact h5) (h4 j v hj), by omega⟩
theorem It.keep {L : Nat} {w W0 W : World} (h : It L W0 W) (hb : Below w.heap.size w W0) (hL : w.heap.size ≤ L) : ∀ a v, a.block < w.heap.size → w.cell? a = some v → W.cell? a = some v := fun a v ha hc =>
  h.2.2.2 a v (Nat.lt_of_lt_of_le ha hb.size) (by omega) ((hb.cell ha).trans hc)
set_option maxRecDepth 100000 in
set_option maxHeartbeats 8000000 in
theorem eit_in (n : Nat) (hn : 1 ≤ n) (l L B1 B2 N : Nat) (va vb : Value) (a b : List St) (w W0 : World) (J Jx : List St → World → Prop)
    (hJd : ∀ pre W W', J pre W → Below W.heap.size W W' → J pre W')
    (hY : ∀ pre x W, J pre W → pre.length < N → YieldAt Fence.wide (n - 1) Try.prog l #[KV x] W fun e W' => (e = .returned (.bool true) ∧ J (pre ++ [x]) W' ∧ Kp L W0.heap.size W W') ∨ (e = .returned (.bool false) ∧ Jx (pre ++ [x]) W'))
    (hN : N = (S8.mrg a b).length) (hla : (a ++ b).length ≤ 10000) (hw : w.heap.size ≤ L) (hb0 : Below w.heap.size w W0) (hva : KS w va a) (hvb : KS w vb b) (h1 : B1 ≠ L) (h2 : B2 ≠ L) (l1 : B1 < W0.heap.size) (l2 : B2 < W0.heap.size)
    (hB1 : W0.cell? ⟨B1, 0, none⟩ = some va) (hB2 : W0.cell? ⟨B2, 0, none⟩ = some vb) (W1 : World) (hI : It L W0 W1) (h0 : J [] W1) :
    CallsIn Fence.wide n Try.prog 33 #[.func (.yield l) #[] #[], .pointer (some ⟨B1, 0, none⟩), .pointer (some ⟨B2, 0, none⟩)] W1 fun e W' => (∃ v, e = .returned v) ∧
      ((∃ zs, zs = S8.mrg a b ∧ J zs W') ∨ (∃ pre, pre <+: S8.mrg a b ∧ Jx pre W')) := by
  obtain ⟨pa, ca, rfl⟩ := hva.form
  obtain ⟨pb, cb, rfl⟩ := hvb.form
  have hca := hva.cap.2
  have hcb := hvb.cap.2
  unfold maxLen at hca hcb
  have hra : KR pa w.heap.size a w := hva.gr 3 kc_len (by omega)
  have hrb : KR pb w.heap.size b w := hvb.gr 3 kc_len (by omega)
  obtain ⟨na, hna⟩ : ∃ n, n = a.length := ⟨_, rfl⟩
  obtain ⟨nb, hnb⟩ : ∃ n, n = b.length := ⟨_, rfl⟩
  rw [← hna] at hva hB1 hca
  rw [← hnb] at hvb hB2 hcb
  have hla2 : na + nb ≤ 10000 := by rw [List.length_append, ← hna, ← hnb] at hla; exact hla
  have HVA := hid hva; have HVB := hid hvb; have HRA := hid hra; have HRB := hid hrb; have HNA := hid hna; have HNB := hid hnb; have HCA := hid hca; have HCB := hid hcb
  have HW := hid hw; have HB0 := hid hb0; have HB1 := hid hB1; have HB2 := hid hB2; have HL := hid (show B1 ≠ L ∧ B2 ≠ L ∧ B1 < W0.heap.size ∧ B2 < W0.heap.size from ⟨h1, h2, l1, l2⟩)
  have HJD := hid hJd; have HY := hid hY; have HN := hid hN; have HJ0 := hid h0; have HI := hid hI
  have HCO := hid (fun (m : Nat) (x y : St) W => callsIn_wide (n := m).2 (Compare_any x y W))
  have HAt : Hid (∀ W, It L W0 W → ∀ i x, a[i]? = some x → ∃ b o, pa = some ⟨b, o, none⟩ ∧ b < w.heap.size ∧ At3 W b (o + i * 3) x) := hid (fun W hI i x hi => by
    obtain ⟨b, o, e, hl, h1⟩ := HRA.out i x hi
    have hk := hI.keep HB0.out HW.out
    exact ⟨b, o, e, hl, hk ⟨b, o + i * 3, none⟩ _ hl (h1 0 _ rfl), hk ⟨b, o + i * 3 + 1, none⟩ _ hl (h1 1 _ rfl), hk ⟨b, o + i * 3 + 2, none⟩ _ hl (h1 2 _ rfl)⟩)
  have HBt : Hid (∀ W, It L W0 W → ∀ i x, b[i]? = some x → ∃ b o, pb = some ⟨b, o, none⟩ ∧ b < w.heap.size ∧ At3 W b (o + i * 3) x) := hid (fun W hI i x hi => by
    obtain ⟨b, o, e, hl, h1⟩ := HRB.out i x hi
    have hk := hI.keep HB0.out HW.out
    exact ⟨b, o, e, hl, hk ⟨b, o + i * 3, none⟩ _ hl (h1 0 _ rfl), hk ⟨b, o + i * 3 + 1, none⟩ _ hl (h1 1 _ rfl), hk ⟨b, o + i * 3 + 2, none⟩ _ hl (h1 2 _ rfl)⟩)
  clear hva hvb hra hrb hna hnb hla hw hb0 hB1 hB2 h1 h2 l1 l2 hJd hY hN h0 hI hca hcb
  refine callsIn_of_wp Try.func33 rfl trivial ?_ rfl
  simp only [Try.ntmps33, List.size_toArray, List.length_cons, List.length_nil, Nat.reduceAdd, Nat.reduceSub, Array.replicate_succ, Array.replicate_zero, List.push_toArray, List.append_toArray, List.nil_append, List.cons_append]
  gi_wp2
  gi_loopw [4, 5] (fun s t wr => ∃ i k : Nat, i ≤ na ∧ k ≤ nb ∧ s = .int .i64 i ∧ t = .int .i64 k ∧ Hid (It L W0 wr) ∧ ∃ pre, Hid (pre ++ S8.mrg (a.drop i) (b.drop k) = S8.mrg a b) ∧ Hid (J pre wr)) (fun s t _ => na + nb - ((RowKit.intOf s).toNat + (RowKit.intOf t).toNat))
  case atStart => exact ⟨0, 0, by omega, by omega, rfl, rfl, HI, [], hid (by simp), HJ0⟩
  case round =>
    obtain ⟨i, k, hi, hk, rfl, rfl, hit, pre, hpre, hJ⟩ := hrel
    have c1 := hit.out.2.2.2 ⟨B1, 0, none⟩ _ HL.out.2.2.1 HL.out.1 HB1.out
    have c2 := hit.out.2.2.2 ⟨B2, 0, none⟩ _ HL.out.2.2.2 HL.out.2.1 HB2.out
    by_cases hia : i < na
    · by_cases hkb : k < nb
      · obtain ⟨x, hx⟩ := get_lt (l := a) (i := i) (by rw [← HNA.out]; exact hia)
        obtain ⟨y, hy⟩ := get_lt (l := b) (i := k) (by rw [← HNB.out]; exact hkb)
        obtain ⟨ba, oa, rfl, hba, x0, x1, x2⟩ := HAt.out _ hit.out i x hx
        obtain ⟨bb, ob, rfl, hbb, y0, y1, y2⟩ := HBt.out _ hit.out k y hy
        obtain ⟨s0, s1, s2⟩ := x
        obtain ⟨t0, t1, t2⟩ := y
        simp only at x0 x1 x2 y0 y1 y2
        have hcai := HCA.out.1; have hcbi := HCB.out.1
        gi_wp2
        refine wpIn_wide.2 ?_
        have HDA := hid (show a.drop i = (s0, s1, s2) :: a.drop (i + 1) by
          obtain ⟨h1, h2⟩ := List.getElem?_eq_some_iff.1 hx
          rw [List.drop_eq_getElem_cons h1, h2])
        have HDB := hid (show b.drop k = (t0, t1, t2) :: b.drop (k + 1) by
          obtain ⟨h1, h2⟩ := List.getElem?_eq_some_iff.1 hy
          rw [List.drop_eq_getElem_cons h1, h2])
        clear hx hy
        have HC1 := hid (fun (W : World) (hW : Below wr.heap.size wr W) => (hW.cell (p := ⟨B1, 0, none⟩) (Nat.lt_of_lt_of_le HL.out.2.2.1 hit.out.2.1)).trans c1)
        have HC2 := hid (fun (W : World) (hW : Below wr.heap.size wr W) => (hW.cell (p := ⟨B2, 0, none⟩) (Nat.lt_of_lt_of_le HL.out.2.2.2 hit.out.2.1)).trans c2)
        have HLO := hid (show w.heap.size ≤ wr.heap.size from Nat.le_trans HB0.out.size hit.out.2.1)
        have HX := hid (fun (W : World) (hW : Below wr.heap.size wr W) => show At3 W ba (oa + i * 3) (s0, s1, s2) from ⟨(hW.cell (p := ⟨ba, oa + i * 3, none⟩) (Nat.lt_of_lt_of_le hba HLO.out)).trans x0, (hW.cell (p := ⟨ba, oa + i * 3 + 1, none⟩) (Nat.lt_of_lt_of_le hba HLO.out)).trans x1, (hW.cell (p := ⟨ba, oa + i * 3 + 2, none⟩) (Nat.lt_of_lt_of_le hba HLO.out)).trans x2⟩)
        have HYc := hid (fun (W : World) (hW : Below wr.heap.size wr W) => show At3 W bb (ob + k * 3) (t0, t1, t2) from ⟨(hW.cell (p := ⟨bb, ob + k * 3, none⟩) (Nat.lt_of_lt_of_le hbb HLO.out)).trans y0, (hW.cell (p := ⟨bb, ob + k * 3 + 1, none⟩) (Nat.lt_of_lt_of_le hbb HLO.out)).trans y1, (hW.cell (p := ⟨bb, ob + k * 3 + 2, none⟩) (Nat.lt_of_lt_of_le hbb HLO.out)).trans y2⟩)
        have HT := hid (Below.refl wr.heap.size wr)
        clear c1 c2 x0 x1 x2 y0 y1 y2
        have HT := hid HT.out.drew
        refine wa_start (S := fun W => Below wr.heap.size wr W) (by kernel_rfl) HT.out ?_
        obtain ⟨WD, hWD⟩ : ∃ x, x = wr.drew := ⟨_, rfl⟩
        rw [← hWD] at HT ⊢
        have HWD := hid (show WD.heap.size = wr.heap.size by rw [hWD]; rfl)
        clear hWD
        refine wa_tk 0 (some 21) (.slice (some ⟨ba, oa, none⟩) na ca) rfl (by kernel_rfl) rfl rfl HT.out (fun w h0 => by have c1 := HC1.out _ h0; go_simp) ?_
        try simp only [Act.put, List.setIfInBounds_toArray, List.set_cons_zero, List.set_cons_succ]
        refine wa_tk 1 (some 22) (.int .i64 (i : Int)) rfl (by kernel_rfl) rfl rfl HT.out (fun w h0 => by go_simp) ?_
        try simp only [Act.put, List.setIfInBounds_toArray, List.set_cons_zero, List.set_cons_succ]
        refine wa_tk 2 (some 23) (.pointer (some ⟨ba, oa + i * 3, none⟩)) rfl (by kernel_rfl) rfl rfl HT.out (fun w h0 => by go_simp) ?_
        try simp only [Act.put, List.setIfInBounds_toArray, List.set_cons_zero, List.set_cons_succ]
        refine wa_tk 3 (some 24) (KV (s0, s1, s2)) rfl (by kernel_rfl) rfl rfl HT.out (fun w h0 => by obtain ⟨c0, c1, c2⟩ := HX.out _ h0; go_simp) ?_
        try simp only [Act.put, List.setIfInBounds_toArray, List.set_cons_zero, List.set_cons_succ]
        refine wa_tk 4 (some 25) (.slice (some ⟨bb, ob, none⟩) nb cb) rfl (by kernel_rfl) rfl rfl HT.out (fun w h0 => by have c2 := HC2.out _ h0; go_simp) ?_
        try simp only [Act.put, List.setIfInBounds_toArray, List.set_cons_zero, List.set_cons_succ]
        refine wa_tk 5 (some 26) (.int .i64 (k : Int)) rfl (by kernel_rfl) rfl rfl HT.out (fun w h0 => by go_simp) ?_
        try simp only [Act.put, List.setIfInBounds_toArray, List.set_cons_zero, List.set_cons_succ]
        refine wa_tk 6 (some 27) (.pointer (some ⟨bb, ob + k * 3, none⟩)) rfl (by kernel_rfl) rfl rfl HT.out (fun w h0 => by go_simp) ?_
        try simp only [Act.put, List.setIfInBounds_toArray, List.set_cons_zero, List.set_cons_succ]
        refine wa_tk 7 (some 28) (KV (t0, t1, t2)) rfl (by kernel_rfl) rfl rfl HT.out (fun w h0 => by obtain ⟨c0, c1, c2⟩ := HYc.out _ h0; go_simp) ?_
        try simp only [Act.put, List.setIfInBounds_toArray, List.set_cons_zero, List.set_cons_succ]
        refine wa_branch [8, 9] (by decide +kernel) rfl ?_
        refine ar_op 8 rfl rfl (fun K hK => ?_) (ar_op 9 rfl rfl (fun K hK => ?_) ar_nil)
        · unfold Oper.wp
          go_simp
          obtain ⟨WA1, hWA1⟩ : ∃ x, x = WD.alloc (.cells #[.int .i64 0, .int .i64 0, .int .i64 0] 23) := ⟨_, rfl⟩
          have HT := hid (show Below wr.heap.size wr WA1 from by rw [hWA1]; exact HT.out.alloc HT.out.size _)
          rw [← hWA1]
          have HWA1 := hid hWA1
          clear hWA1
          refine hK.out _ _ HT.out ?_
          clear hK K
          try simp only [Act.put, List.setIfInBounds_toArray, List.set_cons_zero, List.set_cons_succ]
          refine wa_branch [9] (by decide +kernel) rfl ?_
          refine ar_op 9 rfl rfl (fun K hK => ?_) ar_nil
          unfold Oper.wp
          go_simp
          obtain ⟨WA2, hWA2⟩ : ∃ x, x = WA1.alloc (.cells #[.int .i64 0, .int .i64 0, .int .i64 0] 23) := ⟨_, rfl⟩
          have HT := hid (show Below wr.heap.size wr WA2 from by rw [hWA2]; exact HT.out.alloc HT.out.size _)
          rw [← hWA2]
          have HWA2 := hid hWA2
          clear hWA2
          refine hK.out _ _ HT.out ?_
          clear hK K
          try simp only [Act.put, List.setIfInBounds_toArray, List.set_cons_zero, List.set_cons_succ]
          obtain ⟨x6, hx6⟩ : ∃ x, x = WD.heap.size := ⟨_, rfl⟩
          obtain ⟨x7, hx7⟩ : ∃ x, x = WA1.heap.size := ⟨_, rfl⟩
          have q6 : Blk WA2 x6 23 (kc (0, 0, 0)) := by rw [HWA2.out, HWA1.out, hx6]; exact (Blk.new WD 23 (kc (0, 0, 0))).alloc _
          have q7 : Blk WA2 x7 23 (kc (0, 0, 0)) := by rw [HWA2.out, hx7]; exact Blk.new WA1 23 (kc (0, 0, 0))
          have HNE6 := hid (show x6 ≠ x7 from by rw [hx6, hx7, HWA1.out]; simp)
          have HLx6 := hid (show wr.heap.size ≤ x6 from by rw [hx6, ← HWD.out]; exact Nat.le_refl _)
          have HLx7 := hid (show wr.heap.size ≤ x7 from by rw [hx7, ← HWD.out, HWA1.out]; simp)
          rw [← hx6, ← hx7]
          clear hx6 hx7 HWA1 HWA2
          have k0 : WA2.cell? ⟨x6, 0, none⟩ = some (.int .i64 0) := q6.cell 0 _ rfl
          have k1 : WA2.cell? ⟨x6, 1, none⟩ = some (.int .i64 0) := q6.cell 1 _ rfl
          have k2 : WA2.cell? ⟨x6, 2, none⟩ = some (.int .i64 0) := q6.cell 2 _ rfl
          have kf0 : WA2.frozen? ⟨x6, 0, none⟩ = false := q6.frozen 0
          have kf1 : WA2.frozen? ⟨x6, 1, none⟩ = false := q6.frozen 1
          have kf2 : WA2.frozen? ⟨x6, 2, none⟩ = false := q6.frozen 2
          have m0 : WA2.cell? ⟨x7, 0, none⟩ = some (.int .i64 0) := q7.cell 0 _ rfl
          have m1 : WA2.cell? ⟨x7, 1, none⟩ = some (.int .i64 0) := q7.cell 1 _ rfl
          have m2 : WA2.cell? ⟨x7, 2, none⟩ = some (.int .i64 0) := q7.cell 2 _ rfl
          have mf0 : WA2.frozen? ⟨x7, 0, none⟩ = false := q7.frozen 0
          have mf1 : WA2.frozen? ⟨x7, 1, none⟩ = false := q7.frozen 1
          have mf2 : WA2.frozen? ⟨x7, 2, none⟩ = false := q7.frozen 2
          refine wa_branch [10] (by decide +kernel) rfl ?_
          refine ar_op 10 rfl rfl (fun K hK => ?_) ar_nil
          unfold Oper.wp
          go_simp
          obtain ⟨WA3, hWA3⟩ : ∃ x, x = (((WA2.setCell ⟨x6, 0, none⟩ (.int .i64 s0)).setCell ⟨x6, 1, none⟩ (.int .i64 s1)).setCell ⟨x6, 2, none⟩ (.int .i64 s2)) := ⟨_, rfl⟩
          have nq6 : Blk WA3 x6 23 (kc (s0, s1, s2)) := by rw [hWA3]; exact (((q6.set 0 _).set 1 _).set 2 _)
          have nq7 : Blk WA3 x7 23 (kc (0, 0, 0)) := by rw [hWA3]; exact (((q7.other (Ne.symm HNE6.out) _).other (Ne.symm HNE6.out) _).other (Ne.symm HNE6.out) _)
          have HT := hid (show Below wr.heap.size wr WA3 from by rw [hWA3]; exact (((HT.out.setCell (p := ⟨x6, 0, none⟩) HLx6.out _).setCell (p := ⟨x6, 1, none⟩) HLx6.out _).setCell (p := ⟨x6, 2, none⟩) HLx6.out _))
          clear k0 k1 k2 kf0 kf1 kf2 m0 m1 m2 mf0 mf1 mf2
          rw [← hWA3]
          refine hK.out _ _ HT.out ?_
          clear hK K hWA3 q6 q7
          try simp only [Act.put, List.setIfInBounds_toArray, List.set_cons_zero, List.set_cons_succ]
          have k0 : WA3.cell? ⟨x6, 0, none⟩ = some (.int .i64 s0) := nq6.cell 0 _ rfl
          have k1 : WA3.cell? ⟨x6, 1, none⟩ = some (.int .i64 s1) := nq6.cell 1 _ rfl
          have k2 : WA3.cell? ⟨x6, 2, none⟩ = some (.int .i64 s2) := nq6.cell 2 _ rfl
          have kf0 : WA3.frozen? ⟨x6, 0, none⟩ = false := nq6.frozen 0
          have kf1 : WA3.frozen? ⟨x6, 1, none⟩ = false := nq6.frozen 1
          have kf2 : WA3.frozen? ⟨x6, 2, none⟩ = false := nq6.frozen 2
          have m0 : WA3.cell? ⟨x7, 0, none⟩ = some (.int .i64 0) := nq7.cell 0 _ rfl
          have m1 : WA3.cell? ⟨x7, 1, none⟩ = some (.int .i64 0) := nq7.cell 1 _ rfl
          have m2 : WA3.cell? ⟨x7, 2, none⟩ = some (.int .i64 0) := nq7.cell 2 _ rfl
          have mf0 : WA3.frozen? ⟨x7, 0, none⟩ = false := nq7.frozen 0
          have mf1 : WA3.frozen? ⟨x7, 1, none⟩ = false := nq7.frozen 1
          have mf2 : WA3.frozen? ⟨x7, 2, none⟩ = false := nq7.frozen 2
          refine wa_branch [11] (by decide +kernel) rfl ?_
          refine ar_op 11 rfl rfl (fun K hK => ?_) ar_nil
          unfold Oper.wp
          go_simp
          obtain ⟨WA4, hWA4⟩ : ∃ x, x = (((WA3.setCell ⟨x7, 0, none⟩ (.int .i64 t0)).setCell ⟨x7, 1, none⟩ (.int .i64 t1)).setCell ⟨x7, 2, none⟩ (.int .i64 t2)) := ⟨_, rfl⟩
          have nnq7 : Blk WA4 x7 23 (kc (t0, t1, t2)) := by rw [hWA4]; exact (((nq7.set 0 _).set 1 _).set 2 _)
          have nnq6 : Blk WA4 x6 23 (kc (s0, s1, s2)) := by rw [hWA4]; exact (((nq6.other HNE6.out _).other HNE6.out _).other HNE6.out _)
          have HT := hid (show Below wr.heap.size wr WA4 from by rw [hWA4]; exact (((HT.out.setCell (p := ⟨x7, 0, none⟩) HLx7.out _).setCell (p := ⟨x7, 1, none⟩) HLx7.out _).setCell (p := ⟨x7, 2, none⟩) HLx7.out _))
          clear k0 k1 k2 kf0 kf1 kf2 m0 m1 m2 mf0 mf1 mf2
          rw [← hWA4]
          refine hK.out _ _ HT.out ?_
          clear hK K hWA4 nq7 nq6
          try simp only [Act.put, List.setIfInBounds_toArray, List.set_cons_zero, List.set_cons_succ]
          refine wa_done (by decide +kernel) ?_
          have k0 : WA4.cell? ⟨x6, 0, none⟩ = some (.int .i64 s0) := nnq6.cell 0 _ rfl
          have k1 : WA4.cell? ⟨x6, 1, none⟩ = some (.int .i64 s1) := nnq6.cell 1 _ rfl
          have k2 : WA4.cell? ⟨x6, 2, none⟩ = some (.int .i64 s2) := nnq6.cell 2 _ rfl
          have m0 : WA4.cell? ⟨x7, 0, none⟩ = some (.int .i64 t0) := nnq7.cell 0 _ rfl
          have m1 : WA4.cell? ⟨x7, 1, none⟩ = some (.int .i64 t1) := nnq7.cell 1 _ rfl
          have m2 : WA4.cell? ⟨x7, 2, none⟩ = some (.int .i64 t2) := nnq7.cell 2 _ rfl
          have ak0 := cell_alloc_l (.cells #[.int .i64 s0, .int .i64 s1, .int .i64 s2] 23) k0
          have ak1 := cell_alloc_l (.cells #[.int .i64 s0, .int .i64 s1, .int .i64 s2] 23) k1
          have ak2 := cell_alloc_l (.cells #[.int .i64 s0, .int .i64 s1, .int .i64 s2] 23) k2
          have am0 := cell_alloc_l (.cells #[.int .i64 s0, .int .i64 s1, .int .i64 s2] 23) m0
          have am1 := cell_alloc_l (.cells #[.int .i64 s0, .int .i64 s1, .int .i64 s2] 23) m1
          have am2 := cell_alloc_l (.cells #[.int .i64 s0, .int .i64 s1, .int .i64 s2] 23) m2
          rcases S8.lt_tri (t0, t1, t2) (s0, s1, s2) with hl | hl | hl
          · have CC := hid (fun m W => HCO.out m (t0, t1, t2) (s0, s1, s2) W)
            have HM := hid (show S8.mrg (a.drop i) (b.drop k) = (t0, t1, t2) :: S8.mrg (a.drop i) (b.drop (k + 1)) by rw [HDA.out, HDB.out, S8.mrg_lt hl])
            rw [S8.cp_lt hl] at CC
            have e1 := hid (fun w => st_eq (s0, s1, s2) (t0, t1, t2) w)
            have e2 := hid (fun w => st_eq (t0, t1, t2) (t0, t1, t2) w)
            rw [show decide ((s0, s1, s2) = (t0, t1, t2)) = false from decide_eq_false (fun e => S8.lt_ne hl e.symm)] at e1
            rw [show decide ((t0, t1, t2) = (t0, t1, t2)) = true from decide_eq_true rfl] at e2
            clear hl
            gi_wp2_with fail
            refine ⟨trivial, (CC.out _ _).mono ?_⟩
            rintro e wn ⟨rfl, hbn⟩
            have HT := hid (below_t (show Below wr.heap.size wr (WA4.alloc (.cells #[.int .i64 s0, .int .i64 s1, .int .i64 s2] 23)) from HT.out.alloc HT.out.size _) hbn)
            have r6 : Blk wn x6 23 (kc (s0, s1, s2)) := (nnq6.alloc _).below hbn (nnq6.alloc _).lt
            have r7 : Blk wn x7 23 (kc (t0, t1, t2)) := (nnq7.alloc _).below hbn (nnq7.alloc _).lt
            have r8 : Blk wn WA4.heap.size 23 (kc (s0, s1, s2)) := (Blk.new WA4 23 (kc (s0, s1, s2))).below hbn (Blk.new WA4 23 (kc (s0, s1, s2))).lt
            have hn68 : x6 ≠ WA4.heap.size := Nat.ne_of_lt nnq6.lt
            have hn78 : x7 ≠ WA4.heap.size := Nat.ne_of_lt nnq7.lt
            have HL8 := hid (show wr.heap.size ≤ WA4.heap.size from (Nat.le_trans HLx6.out (Nat.le_of_lt nnq6.lt)))
            clear hbn nnq6 nnq7 k0 k1 k2 m0 m1 m2 ak0 ak1 ak2 am0 am1 am2
            obtain ⟨x8, hx8⟩ : ∃ x, x = WA4.heap.size := ⟨_, rfl⟩
            rw [← hx8] at r8 hn68 hn78 HL8 ⊢
            clear hx8
            have k0 : wn.cell? ⟨x7, 0, none⟩ = some (.int .i64 t0) := r7.cell 0 _ rfl
            have k1 : wn.cell? ⟨x7, 1, none⟩ = some (.int .i64 t1) := r7.cell 1 _ rfl
            have k2 : wn.cell? ⟨x7, 2, none⟩ = some (.int .i64 t2) := r7.cell 2 _ rfl
            have m0 : wn.cell? ⟨x8, 0, none⟩ = some (.int .i64 s0) := r8.cell 0 _ rfl
            have m1 : wn.cell? ⟨x8, 1, none⟩ = some (.int .i64 s1) := r8.cell 1 _ rfl
            have m2 : wn.cell? ⟨x8, 2, none⟩ = some (.int .i64 s2) := r8.cell 2 _ rfl
            have mf0 : wn.frozen? ⟨x8, 0, none⟩ = false := r8.frozen 0
            have mf1 : wn.frozen? ⟨x8, 1, none⟩ = false := r8.frozen 1
            have mf2 : wn.frozen? ⟨x8, 2, none⟩ = false := r8.frozen 2
            have l6 : Blk (((wn.setCell ⟨x8, 0, none⟩ (.int .i64 t0)).setCell ⟨x8, 1, none⟩ (.int .i64 t1)).setCell ⟨x8, 2, none⟩ (.int .i64 t2)) x6 23 (kc (s0, s1, s2)) := ((r6.other hn68 _).other hn68 _).other hn68 _
            have l7 : Blk (((wn.setCell ⟨x8, 0, none⟩ (.int .i64 t0)).setCell ⟨x8, 1, none⟩ (.int .i64 t1)).setCell ⟨x8, 2, none⟩ (.int .i64 t2)) x7 23 (kc (t0, t1, t2)) := ((r7.other hn78 _).other hn78 _).other hn78 _
            have l8 : Blk (((wn.setCell ⟨x8, 0, none⟩ (.int .i64 t0)).setCell ⟨x8, 1, none⟩ (.int .i64 t1)).setCell ⟨x8, 2, none⟩ (.int .i64 t2)) x8 23 (kc (t0, t1, t2)) := ((r8.set 0 _).set 1 _).set 2 _
            have HT := hid (show Below wr.heap.size wr (((wn.setCell ⟨x8, 0, none⟩ (.int .i64 t0)).setCell ⟨x8, 1, none⟩ (.int .i64 t1)).setCell ⟨x8, 2, none⟩ (.int .i64 t2)) from ((HT.out.setCell (p := ⟨x8, 0, none⟩) HL8.out _).setCell (p := ⟨x8, 1, none⟩) HL8.out _).setCell (p := ⟨x8, 2, none⟩) HL8.out _)
            have n0 : (((wn.setCell ⟨x8, 0, none⟩ (.int .i64 t0)).setCell ⟨x8, 1, none⟩ (.int .i64 t1)).setCell ⟨x8, 2, none⟩ (.int .i64 t2)).cell? ⟨x8, 0, none⟩ = some (.int .i64 t0) := l8.cell 0 _ rfl
            have n1 : (((wn.setCell ⟨x8, 0, none⟩ (.int .i64 t0)).setCell ⟨x8, 1, none⟩ (.int .i64 t1)).setCell ⟨x8, 2, none⟩ (.int .i64 t2)).cell? ⟨x8, 1, none⟩ = some (.int .i64 t1) := l8.cell 1 _ rfl
            have n2 : (((wn.setCell ⟨x8, 0, none⟩ (.int .i64 t0)).setCell ⟨x8, 1, none⟩ (.int .i64 t1)).setCell ⟨x8, 2, none⟩ (.int .i64 t2)).cell? ⟨x8, 2, none⟩ = some (.int .i64 t2) := l8.cell 2 _ rfl
            have HB6 := hid l6
            have HB7 := hid l7
            have HB8 := hid l8
            clear l6 l7 l8 r6 r7 r8 hn68 hn78
            have HP3 := hid (show (pre ++ [(t0, t1, t2)]) ++ S8.mrg (a.drop (i)) (b.drop (k + 1)) = S8.mrg a b by rw [← hpre.out, HM.out, List.append_assoc]; rfl)
            have hyy := HY.out pre (t0, t1, t2) (((wn.setCell ⟨x8, 0, none⟩ (.int .i64 t0)).setCell ⟨x8, 1, none⟩ (.int .i64 t1)).setCell ⟨x8, 2, none⟩ (.int .i64 t2)) (HJD.out _ _ _ hJ.out HT.out) (by have h := congrArg List.length hpre.out; rw [HM.out, List.length_append, List.length_cons] at h; have := HN.out; omega)
            obtain ⟨fn, tmps, assign, body, hy0, hR⟩ := hyy
            have HR := hid hR
            clear hR
            gi_wp2
            refine HR.out.mono ?_
            rintro e W3 (⟨rfl, hJ3, hk3⟩ | ⟨rfl, hJx3⟩)
            · have HI3 := hid ((hit.out.up HT.out).kp hk3)
              have uc0 : W3.cell? ⟨x6, 0, none⟩ = some (.int .i64 s0) := hit.out.box HT.out hk3 (by first | exact HLx6.out | exact HLx7.out | exact HL8.out) (HB6.out.cell 0 _ rfl)
              have uc1 : W3.cell? ⟨x6, 1, none⟩ = some (.int .i64 s1) := hit.out.box HT.out hk3 (by first | exact HLx6.out | exact HLx7.out | exact HL8.out) (HB6.out.cell 1 _ rfl)
              have uc2 : W3.cell? ⟨x6, 2, none⟩ = some (.int .i64 s2) := hit.out.box HT.out hk3 (by first | exact HLx6.out | exact HLx7.out | exact HL8.out) (HB6.out.cell 2 _ rfl)
              have vc0 : W3.cell? ⟨x7, 0, none⟩ = some (.int .i64 t0) := hit.out.box HT.out hk3 (by first | exact HLx6.out | exact HLx7.out | exact HL8.out) (HB7.out.cell 0 _ rfl)
              have vc1 : W3.cell? ⟨x7, 1, none⟩ = some (.int .i64 t1) := hit.out.box HT.out hk3 (by first | exact HLx6.out | exact HLx7.out | exact HL8.out) (HB7.out.cell 1 _ rfl)
              have vc2 : W3.cell? ⟨x7, 2, none⟩ = some (.int .i64 t2) := hit.out.box HT.out hk3 (by first | exact HLx6.out | exact HLx7.out | exact HL8.out) (HB7.out.cell 2 _ rfl)
              have yc0 : W3.cell? ⟨x8, 0, none⟩ = some (.int .i64 t0) := hit.out.box HT.out hk3 (by first | exact HLx6.out | exact HLx7.out | exact HL8.out) (HB8.out.cell 0 _ rfl)
              have yc1 : W3.cell? ⟨x8, 1, none⟩ = some (.int .i64 t1) := hit.out.box HT.out hk3 (by first | exact HLx6.out | exact HLx7.out | exact HL8.out) (HB8.out.cell 1 _ rfl)
              have yc2 : W3.cell? ⟨x8, 2, none⟩ = some (.int .i64 t2) := hit.out.box HT.out hk3 (by first | exact HLx6.out | exact HLx7.out | exact HL8.out) (HB8.out.cell 2 _ rfl)
              have HJ3 := hid hJ3
              have hpe1 := e1.out; have hpe2 := e2.out
              have hg60 : Try.prog.eqGuardType Try.prog.depth 23 = false := by kernel_rfl
              clear hk3 hJ3
              gi_wp2
              go_roundw
              case rel => exact ⟨i, k + 1, by omega, by omega, by go_num, by go_num, HI3, _, HP3, HJ3⟩
              case measure => simp [RowKit.intOf]; omega
            · gi_wp2
              refine bodyPost_ret (results_none rfl _ _ _) rfl ?_
              exact ⟨⟨_, rfl⟩, .inr ⟨_, ⟨_, HP3.out⟩, hJx3⟩⟩
          · have CC := hid (fun m W => HCO.out m (t0, t1, t2) (s0, s1, s2) W)
            have HM := hid (show S8.mrg (a.drop i) (b.drop k) = (s0, s1, s2) :: S8.mrg (a.drop (i + 1)) (b.drop (k + 1)) by rw [HDA.out, HDB.out, hl, S8.mrg_eq])
            rw [S8.cp_zero_iff.2 hl] at CC
            have e1 := hid (fun w => st_eq (s0, s1, s2) (s0, s1, s2) w)
            have e2 := hid (fun w => st_eq (t0, t1, t2) (s0, s1, s2) w)
            rw [show decide ((s0, s1, s2) = (s0, s1, s2)) = true from decide_eq_true rfl] at e1
            rw [show decide ((t0, t1, t2) = (s0, s1, s2)) = true from decide_eq_true hl] at e2
            clear hl
            gi_wp2_with fail
            refine ⟨trivial, (CC.out _ _).mono ?_⟩
            rintro e wn ⟨rfl, hbn⟩
            have HT := hid (below_t (show Below wr.heap.size wr (WA4.alloc (.cells #[.int .i64 s0, .int .i64 s1, .int .i64 s2] 23)) from HT.out.alloc HT.out.size _) hbn)
            have r6 : Blk wn x6 23 (kc (s0, s1, s2)) := (nnq6.alloc _).below hbn (nnq6.alloc _).lt
            have r7 : Blk wn x7 23 (kc (t0, t1, t2)) := (nnq7.alloc _).below hbn (nnq7.alloc _).lt
            have r8 : Blk wn WA4.heap.size 23 (kc (s0, s1, s2)) := (Blk.new WA4 23 (kc (s0, s1, s2))).below hbn (Blk.new WA4 23 (kc (s0, s1, s2))).lt
            have hn68 : x6 ≠ WA4.heap.size := Nat.ne_of_lt nnq6.lt
            have hn78 : x7 ≠ WA4.heap.size := Nat.ne_of_lt nnq7.lt
            have HL8 := hid (show wr.heap.size ≤ WA4.heap.size from (Nat.le_trans HLx6.out (Nat.le_of_lt nnq6.lt)))
            clear hbn nnq6 nnq7 k0 k1 k2 m0 m1 m2 ak0 ak1 ak2 am0 am1 am2
            obtain ⟨x8, hx8⟩ : ∃ x, x = WA4.heap.size := ⟨_, rfl⟩
            rw [← hx8] at r8 hn68 hn78 HL8 ⊢
            clear hx8
            have l6 := r6
            have l7 := r7
            have l8 := r8
            have n0 : wn.cell? ⟨x8, 0, none⟩ = some (.int .i64 s0) := l8.cell 0 _ rfl
            have n1 : wn.cell? ⟨x8, 1, none⟩ = some (.int .i64 s1) := l8.cell 1 _ rfl
            have n2 : wn.cell? ⟨x8, 2, none⟩ = some (.int .i64 s2) := l8.cell 2 _ rfl
            have HB6 := hid l6
            have HB7 := hid l7
            have HB8 := hid l8
            clear l6 l7 l8 r6 r7 r8 hn68 hn78
            have HP3 := hid (show (pre ++ [(s0, s1, s2)]) ++ S8.mrg (a.drop (i + 1)) (b.drop (k + 1)) = S8.mrg a b by rw [← hpre.out, HM.out, List.append_assoc]; rfl)
            have hyy := HY.out pre (s0, s1, s2) wn (HJD.out _ _ _ hJ.out HT.out) (by have h := congrArg List.length hpre.out; rw [HM.out, List.length_append, List.length_cons] at h; have := HN.out; omega)
            obtain ⟨fn, tmps, assign, body, hy0, hR⟩ := hyy
            have HR := hid hR
            clear hR
            gi_wp2
            refine HR.out.mono ?_
            rintro e W3 (⟨rfl, hJ3, hk3⟩ | ⟨rfl, hJx3⟩)
            · have HI3 := hid ((hit.out.up HT.out).kp hk3)
              have uc0 : W3.cell? ⟨x6, 0, none⟩ = some (.int .i64 s0) := hit.out.box HT.out hk3 (by first | exact HLx6.out | exact HLx7.out | exact HL8.out) (HB6.out.cell 0 _ rfl)
              have uc1 : W3.cell? ⟨x6, 1, none⟩ = some (.int .i64 s1) := hit.out.box HT.out hk3 (by first | exact HLx6.out | exact HLx7.out | exact HL8.out) (HB6.out.cell 1 _ rfl)
              have uc2 : W3.cell? ⟨x6, 2, none⟩ = some (.int .i64 s2) := hit.out.box HT.out hk3 (by first | exact HLx6.out | exact HLx7.out | exact HL8.out) (HB6.out.cell 2 _ rfl)
              have vc0 : W3.cell? ⟨x7, 0, none⟩ = some (.int .i64 t0) := hit.out.box HT.out hk3 (by first | exact HLx6.out | exact HLx7.out | exact HL8.out) (HB7.out.cell 0 _ rfl)
              have vc1 : W3.cell? ⟨x7, 1, none⟩ = some (.int .i64 t1) := hit.out.box HT.out hk3 (by first | exact HLx6.out | exact HLx7.out | exact HL8.out) (HB7.out.cell 1 _ rfl)
              have vc2 : W3.cell? ⟨x7, 2, none⟩ = some (.int .i64 t2) := hit.out.box HT.out hk3 (by first | exact HLx6.out | exact HLx7.out | exact HL8.out) (HB7.out.cell 2 _ rfl)
              have yc0 : W3.cell? ⟨x8, 0, none⟩ = some (.int .i64 s0) := hit.out.box HT.out hk3 (by first | exact HLx6.out | exact HLx7.out | exact HL8.out) (HB8.out.cell 0 _ rfl)
              have yc1 : W3.cell? ⟨x8, 1, none⟩ = some (.int .i64 s1) := hit.out.box HT.out hk3 (by first | exact HLx6.out | exact HLx7.out | exact HL8.out) (HB8.out.cell 1 _ rfl)
              have yc2 : W3.cell? ⟨x8, 2, none⟩ = some (.int .i64 s2) := hit.out.box HT.out hk3 (by first | exact HLx6.out | exact HLx7.out | exact HL8.out) (HB8.out.cell 2 _ rfl)
              have HJ3 := hid hJ3
              have hpe1 := e1.out; have hpe2 := e2.out
              have hg60 : Try.prog.eqGuardType Try.prog.depth 23 = false := by kernel_rfl
              clear hk3 hJ3
              gi_wp2
              go_roundw
              case rel => exact ⟨i + 1, k + 1, by omega, by omega, by go_num, by go_num, HI3, _, HP3, HJ3⟩
              case measure => simp [RowKit.intOf]; omega
            · gi_wp2
              refine bodyPost_ret (results_none rfl _ _ _) rfl ?_
              exact ⟨⟨_, rfl⟩, .inr ⟨_, ⟨_, HP3.out⟩, hJx3⟩⟩
          · have CC := hid (fun m W => HCO.out m (t0, t1, t2) (s0, s1, s2) W)
            have HM := hid (show S8.mrg (a.drop i) (b.drop k) = (s0, s1, s2) :: S8.mrg (a.drop (i + 1)) (b.drop k) by rw [HDA.out, HDB.out, S8.mrg_gt hl])
            rw [S8.cp_gt hl] at CC
            have e1 := hid (fun w => st_eq (s0, s1, s2) (s0, s1, s2) w)
            have e2 := hid (fun w => st_eq (t0, t1, t2) (s0, s1, s2) w)
            rw [show decide ((s0, s1, s2) = (s0, s1, s2)) = true from decide_eq_true rfl] at e1
            rw [show decide ((t0, t1, t2) = (s0, s1, s2)) = false from decide_eq_false (fun e => S8.lt_ne hl e.symm)] at e2
            clear hl
            gi_wp2_with fail
            refine ⟨trivial, (CC.out _ _).mono ?_⟩
            rintro e wn ⟨rfl, hbn⟩
            have HT := hid (below_t (show Below wr.heap.size wr (WA4.alloc (.cells #[.int .i64 s0, .int .i64 s1, .int .i64 s2] 23)) from HT.out.alloc HT.out.size _) hbn)
            have r6 : Blk wn x6 23 (kc (s0, s1, s2)) := (nnq6.alloc _).below hbn (nnq6.alloc _).lt
            have r7 : Blk wn x7 23 (kc (t0, t1, t2)) := (nnq7.alloc _).below hbn (nnq7.alloc _).lt
            have r8 : Blk wn WA4.heap.size 23 (kc (s0, s1, s2)) := (Blk.new WA4 23 (kc (s0, s1, s2))).below hbn (Blk.new WA4 23 (kc (s0, s1, s2))).lt
            have hn68 : x6 ≠ WA4.heap.size := Nat.ne_of_lt nnq6.lt
            have hn78 : x7 ≠ WA4.heap.size := Nat.ne_of_lt nnq7.lt
            have HL8 := hid (show wr.heap.size ≤ WA4.heap.size from (Nat.le_trans HLx6.out (Nat.le_of_lt nnq6.lt)))
            clear hbn nnq6 nnq7 k0 k1 k2 m0 m1 m2 ak0 ak1 ak2 am0 am1 am2
            obtain ⟨x8, hx8⟩ : ∃ x, x = WA4.heap.size := ⟨_, rfl⟩
            rw [← hx8] at r8 hn68 hn78 HL8 ⊢
            clear hx8
            have l6 := r6
            have l7 := r7
            have l8 := r8
            have n0 : wn.cell? ⟨x8, 0, none⟩ = some (.int .i64 s0) := l8.cell 0 _ rfl
            have n1 : wn.cell? ⟨x8, 1, none⟩ = some (.int .i64 s1) := l8.cell 1 _ rfl
            have n2 : wn.cell? ⟨x8, 2, none⟩ = some (.int .i64 s2) := l8.cell 2 _ rfl
            have HB6 := hid l6
            have HB7 := hid l7
            have HB8 := hid l8
            clear l6 l7 l8 r6 r7 r8 hn68 hn78
            have HP3 := hid (show (pre ++ [(s0, s1, s2)]) ++ S8.mrg (a.drop (i + 1)) (b.drop (k)) = S8.mrg a b by rw [← hpre.out, HM.out, List.append_assoc]; rfl)
            have hyy := HY.out pre (s0, s1, s2) wn (HJD.out _ _ _ hJ.out HT.out) (by have h := congrArg List.length hpre.out; rw [HM.out, List.length_append, List.length_cons] at h; have := HN.out; omega)
            obtain ⟨fn, tmps, assign, body, hy0, hR⟩ := hyy
            have HR := hid hR
            clear hR
            gi_wp2
            refine HR.out.mono ?_
            rintro e W3 (⟨rfl, hJ3, hk3⟩ | ⟨rfl, hJx3⟩)
            · have HI3 := hid ((hit.out.up HT.out).kp hk3)
              have uc0 : W3.cell? ⟨x6, 0, none⟩ = some (.int .i64 s0) := hit.out.box HT.out hk3 (by first | exact HLx6.out | exact HLx7.out | exact HL8.out) (HB6.out.cell 0 _ rfl)
              have uc1 : W3.cell? ⟨x6, 1, none⟩ = some (.int .i64 s1) := hit.out.box HT.out hk3 (by first | exact HLx6.out | exact HLx7.out | exact HL8.out) (HB6.out.cell 1 _ rfl)
              have uc2 : W3.cell? ⟨x6, 2, none⟩ = some (.int .i64 s2) := hit.out.box HT.out hk3 (by first | exact HLx6.out | exact HLx7.out | exact HL8.out) (HB6.out.cell 2 _ rfl)
              have vc0 : W3.cell? ⟨x7, 0, none⟩ = some (.int .i64 t0) := hit.out.box HT.out hk3 (by first | exact HLx6.out | exact HLx7.out | exact HL8.out) (HB7.out.cell 0 _ rfl)
              have vc1 : W3.cell? ⟨x7, 1, none⟩ = some (.int .i64 t1) := hit.out.box HT.out hk3 (by first | exact HLx6.out | exact HLx7.out | exact HL8.out) (HB7.out.cell 1 _ rfl)
              have vc2 : W3.cell? ⟨x7, 2, none⟩ = some (.int .i64 t2) := hit.out.box HT.out hk3 (by first | exact HLx6.out | exact HLx7.out | exact HL8.out) (HB7.out.cell 2 _ rfl)
              have yc0 : W3.cell? ⟨x8, 0, none⟩ = some (.int .i64 s0) := hit.out.box HT.out hk3 (by first | exact HLx6.out | exact HLx7.out | exact HL8.out) (HB8.out.cell 0 _ rfl)
              have yc1 : W3.cell? ⟨x8, 1, none⟩ = some (.int .i64 s1) := hit.out.box HT.out hk3 (by first | exact HLx6.out | exact HLx7.out | exact HL8.out) (HB8.out.cell 1 _ rfl)
              have yc2 : W3.cell? ⟨x8, 2, none⟩ = some (.int .i64 s2) := hit.out.box HT.out hk3 (by first | exact HLx6.out | exact HLx7.out | exact HL8.out) (HB8.out.cell 2 _ rfl)
              have HJ3 := hid hJ3
              have hpe1 := e1.out; have hpe2 := e2.out
              have hg60 : Try.prog.eqGuardType Try.prog.depth 23 = false := by kernel_rfl
              clear hk3 hJ3
              gi_wp2
              go_roundw
              case rel => exact ⟨i + 1, k, by omega, by omega, by go_num, by go_num, HI3, _, HP3, HJ3⟩
              case measure => simp [RowKit.intOf]; omega
            · gi_wp2
              refine bodyPost_ret (results_none rfl _ _ _) rfl ?_
              exact ⟨⟨_, rfl⟩, .inr ⟨_, ⟨_, HP3.out⟩, hJx3⟩⟩
        · unfold Oper.wp
          go_simp
          obtain ⟨WA1, hWA1⟩ : ∃ x, x = WD.alloc (.cells #[.int .i64 0, .int .i64 0, .int .i64 0] 23) := ⟨_, rfl⟩
          have HT := hid (show Below wr.heap.size wr WA1 from by rw [hWA1]; exact HT.out.alloc HT.out.size _)
          rw [← hWA1]
          have HWA1 := hid hWA1
          clear hWA1
          refine hK.out _ _ HT.out ?_
          clear hK K
          try simp only [Act.put, List.setIfInBounds_toArray, List.set_cons_zero, List.set_cons_succ]
          refine wa_branch [8] (by decide +kernel) rfl ?_
          refine ar_op 8 rfl rfl (fun K hK => ?_) ar_nil
          unfold Oper.wp
          go_simp
          obtain ⟨WA2, hWA2⟩ : ∃ x, x = WA1.alloc (.cells #[.int .i64 0, .int .i64 0, .int .i64 0] 23) := ⟨_, rfl⟩
          have HT := hid (show Below wr.heap.size wr WA2 from by rw [hWA2]; exact HT.out.alloc HT.out.size _)
          rw [← hWA2]
          have HWA2 := hid hWA2
          clear hWA2
          refine hK.out _ _ HT.out ?_
          clear hK K
          try simp only [Act.put, List.setIfInBounds_toArray, List.set_cons_zero, List.set_cons_succ]
          obtain ⟨x7, hx7⟩ : ∃ x, x = WD.heap.size := ⟨_, rfl⟩
          obtain ⟨x6, hx6⟩ : ∃ x, x = WA1.heap.size := ⟨_, rfl⟩
          have q7 : Blk WA2 x7 23 (kc (0, 0, 0)) := by rw [HWA2.out, HWA1.out, hx7]; exact (Blk.new WD 23 (kc (0, 0, 0))).alloc _
          have q6 : Blk WA2 x6 23 (kc (0, 0, 0)) := by rw [HWA2.out, hx6]; exact Blk.new WA1 23 (kc (0, 0, 0))
          have HNE6 := hid (show x6 ≠ x7 from by rw [hx6, hx7, HWA1.out]; simp)
          have HLx6 := hid (show wr.heap.size ≤ x6 from by rw [hx6, ← HWD.out, HWA1.out]; simp)
          have HLx7 := hid (show wr.heap.size ≤ x7 from by rw [hx7, ← HWD.out]; exact Nat.le_refl _)
          rw [← hx7, ← hx6]
          clear hx7 hx6 HWA1 HWA2
          have k0 : WA2.cell? ⟨x6, 0, none⟩ = some (.int .i64 0) := q6.cell 0 _ rfl
          have k1 : WA2.cell? ⟨x6, 1, none⟩ = some (.int .i64 0) := q6.cell 1 _ rfl
          have k2 : WA2.cell? ⟨x6, 2, none⟩ = some (.int .i64 0) := q6.cell 2 _ rfl
          have kf0 : WA2.frozen? ⟨x6, 0, none⟩ = false := q6.frozen 0
          have kf1 : WA2.frozen? ⟨x6, 1, none⟩ = false := q6.frozen 1
          have kf2 : WA2.frozen? ⟨x6, 2, none⟩ = false := q6.frozen 2
          have m0 : WA2.cell? ⟨x7, 0, none⟩ = some (.int .i64 0) := q7.cell 0 _ rfl
          have m1 : WA2.cell? ⟨x7, 1, none⟩ = some (.int .i64 0) := q7.cell 1 _ rfl
          have m2 : WA2.cell? ⟨x7, 2, none⟩ = some (.int .i64 0) := q7.cell 2 _ rfl
          have mf0 : WA2.frozen? ⟨x7, 0, none⟩ = false := q7.frozen 0
          have mf1 : WA2.frozen? ⟨x7, 1, none⟩ = false := q7.frozen 1
          have mf2 : WA2.frozen? ⟨x7, 2, none⟩ = false := q7.frozen 2
          refine wa_branch [10] (by decide +kernel) rfl ?_
          refine ar_op 10 rfl rfl (fun K hK => ?_) ar_nil
          unfold Oper.wp
          go_simp
          obtain ⟨WA3, hWA3⟩ : ∃ x, x = (((WA2.setCell ⟨x6, 0, none⟩ (.int .i64 s0)).setCell ⟨x6, 1, none⟩ (.int .i64 s1)).setCell ⟨x6, 2, none⟩ (.int .i64 s2)) := ⟨_, rfl⟩
          have nq6 : Blk WA3 x6 23 (kc (s0, s1, s2)) := by rw [hWA3]; exact (((q6.set 0 _).set 1 _).set 2 _)
          have nq7 : Blk WA3 x7 23 (kc (0, 0, 0)) := by rw [hWA3]; exact (((q7.other (Ne.symm HNE6.out) _).other (Ne.symm HNE6.out) _).other (Ne.symm HNE6.out) _)
          have HT := hid (show Below wr.heap.size wr WA3 from by rw [hWA3]; exact (((HT.out.setCell (p := ⟨x6, 0, none⟩) HLx6.out _).setCell (p := ⟨x6, 1, none⟩) HLx6.out _).setCell (p := ⟨x6, 2, none⟩) HLx6.out _))
          clear k0 k1 k2 kf0 kf1 kf2 m0 m1 m2 mf0 mf1 mf2
          rw [← hWA3]
          refine hK.out _ _ HT.out ?_
          clear hK K hWA3 q6 q7
          try simp only [Act.put, List.setIfInBounds_toArray, List.set_cons_zero, List.set_cons_succ]
          have k0 : WA3.cell? ⟨x6, 0, none⟩ = some (.int .i64 s0) := nq6.cell 0 _ rfl
          have k1 : WA3.cell? ⟨x6, 1, none⟩ = some (.int .i64 s1) := nq6.cell 1 _ rfl
          have k2 : WA3.cell? ⟨x6, 2, none⟩ = some (.int .i64 s2) := nq6.cell 2 _ rfl
          have kf0 : WA3.frozen? ⟨x6, 0, none⟩ = false := nq6.frozen 0
          have kf1 : WA3.frozen? ⟨x6, 1, none⟩ = false := nq6.frozen 1
          have kf2 : WA3.frozen? ⟨x6, 2, none⟩ = false := nq6.frozen 2
          have m0 : WA3.cell? ⟨x7, 0, none⟩ = some (.int .i64 0) := nq7.cell 0 _ rfl
          have m1 : WA3.cell? ⟨x7, 1, none⟩ = some (.int .i64 0) := nq7.cell 1 _ rfl
          have m2 : WA3.cell? ⟨x7, 2, none⟩ = some (.int .i64 0) := nq7.cell 2 _ rfl
          have mf0 : WA3.frozen? ⟨x7, 0, none⟩ = false := nq7.frozen 0
          have mf1 : WA3.frozen? ⟨x7, 1, none⟩ = false := nq7.frozen 1
          have mf2 : WA3.frozen? ⟨x7, 2, none⟩ = false := nq7.frozen 2
          refine wa_branch [11] (by decide +kernel) rfl ?_
          refine ar_op 11 rfl rfl (fun K hK => ?_) ar_nil
          unfold Oper.wp
          go_simp
          obtain ⟨WA4, hWA4⟩ : ∃ x, x = (((WA3.setCell ⟨x7, 0, none⟩ (.int .i64 t0)).setCell ⟨x7, 1, none⟩ (.int .i64 t1)).setCell ⟨x7, 2, none⟩ (.int .i64 t2)) := ⟨_, rfl⟩
          have nnq7 : Blk WA4 x7 23 (kc (t0, t1, t2)) := by rw [hWA4]; exact (((nq7.set 0 _).set 1 _).set 2 _)
          have nnq6 : Blk WA4 x6 23 (kc (s0, s1, s2)) := by rw [hWA4]; exact (((nq6.other HNE6.out _).other HNE6.out _).other HNE6.out _)
          have HT := hid (show Below wr.heap.size wr WA4 from by rw [hWA4]; exact (((HT.out.setCell (p := ⟨x7, 0, none⟩) HLx7.out _).setCell (p := ⟨x7, 1, none⟩) HLx7.out _).setCell (p := ⟨x7, 2, none⟩) HLx7.out _))
          clear k0 k1 k2 kf0 kf1 kf2 m0 m1 m2 mf0 mf1 mf2
          rw [← hWA4]
          refine hK.out _ _ HT.out ?_
          clear hK K hWA4 nq7 nq6
          try simp only [Act.put, List.setIfInBounds_toArray, List.set_cons_zero, List.set_cons_succ]
          refine wa_done (by decide +kernel) ?_
          have k0 : WA4.cell? ⟨x6, 0, none⟩ = some (.int .i64 s0) := nnq6.cell 0 _ rfl
          have k1 : WA4.cell? ⟨x6, 1, none⟩ = some (.int .i64 s1) := nnq6.cell 1 _ rfl
          have k2 : WA4.cell? ⟨x6, 2, none⟩ = some (.int .i64 s2) := nnq6.cell 2 _ rfl
          have m0 : WA4.cell? ⟨x7, 0, none⟩ = some (.int .i64 t0) := nnq7.cell 0 _ rfl
          have m1 : WA4.cell? ⟨x7, 1, none⟩ = some (.int .i64 t1) := nnq7.cell 1 _ rfl
          have m2 : WA4.cell? ⟨x7, 2, none⟩ = some (.int .i64 t2) := nnq7.cell 2 _ rfl
          have ak0 := cell_alloc_l (.cells #[.int .i64 s0, .int .i64 s1, .int .i64 s2] 23) k0
          have ak1 := cell_alloc_l (.cells #[.int .i64 s0, .int .i64 s1, .int .i64 s2] 23) k1
          have ak2 := cell_alloc_l (.cells #[.int .i64 s0, .int .i64 s1, .int .i64 s2] 23) k2
          have am0 := cell_alloc_l (.cells #[.int .i64 s0, .int .i64 s1, .int .i64 s2] 23) m0
          have am1 := cell_alloc_l (.cells #[.int .i64 s0, .int .i64 s1, .int .i64 s2] 23) m1
          have am2 := cell_alloc_l (.cells #[.int .i64 s0, .int .i64 s1, .int .i64 s2] 23) m2
          rcases S8.lt_tri (t0, t1, t2) (s0, s1, s2) with hl | hl | hl
          · have CC := hid (fun m W => HCO.out m (t0, t1, t2) (s0, s1, s2) W)
            have HM := hid (show S8.mrg (a.drop i) (b.drop k) = (t0, t1, t2) :: S8.mrg (a.drop i) (b.drop (k + 1)) by rw [HDA.out, HDB.out, S8.mrg_lt hl])
            rw [S8.cp_lt hl] at CC
            have e1 := hid (fun w => st_eq (s0, s1, s2) (t0, t1, t2) w)
            have e2 := hid (fun w => st_eq (t0, t1, t2) (t0, t1, t2) w)
            rw [show decide ((s0, s1, s2) = (t0, t1, t2)) = false from decide_eq_false (fun e => S8.lt_ne hl e.symm)] at e1
            rw [show decide ((t0, t1, t2) = (t0, t1, t2)) = true from decide_eq_true rfl] at e2
            clear hl
            gi_wp2_with fail
            refine ⟨trivial, (CC.out _ _).mono ?_⟩
            rintro e wn ⟨rfl, hbn⟩
            have HT := hid (below_t (show Below wr.heap.size wr (WA4.alloc (.cells #[.int .i64 s0, .int .i64 s1, .int .i64 s2] 23)) from HT.out.alloc HT.out.size _) hbn)
            have r6 : Blk wn x6 23 (kc (s0, s1, s2)) := (nnq6.alloc _).below hbn (nnq6.alloc _).lt
            have r7 : Blk wn x7 23 (kc (t0, t1, t2)) := (nnq7.alloc _).below hbn (nnq7.alloc _).lt
            have r8 : Blk wn WA4.heap.size 23 (kc (s0, s1, s2)) := (Blk.new WA4 23 (kc (s0, s1, s2))).below hbn (Blk.new WA4 23 (kc (s0, s1, s2))).lt
            have hn68 : x6 ≠ WA4.heap.size := Nat.ne_of_lt nnq6.lt
            have hn78 : x7 ≠ WA4.heap.size := Nat.ne_of_lt nnq7.lt
            have HL8 := hid (show wr.heap.size ≤ WA4.heap.size from (Nat.le_trans HLx6.out (Nat.le_of_lt nnq6.lt)))
            clear hbn nnq6 nnq7 k0 k1 k2 m0 m1 m2 ak0 ak1 ak2 am0 am1 am2
            obtain ⟨x8, hx8⟩ : ∃ x, x = WA4.heap.size := ⟨_, rfl⟩
            rw [← hx8] at r8 hn68 hn78 HL8 ⊢
            clear hx8
            have k0 : wn.cell? ⟨x7, 0, none⟩ = some (.int .i64 t0) := r7.cell 0 _ rfl
            have k1 : wn.cell? ⟨x7, 1, none⟩ = some (.int .i64 t1) := r7.cell 1 _ rfl
            have k2 : wn.cell? ⟨x7, 2, none⟩ = some (.int .i64 t2) := r7.cell 2 _ rfl
            have m0 : wn.cell? ⟨x8, 0, none⟩ = some (.int .i64 s0) := r8.cell 0 _ rfl
            have m1 : wn.cell? ⟨x8, 1, none⟩ = some (.int .i64 s1) := r8.cell 1 _ rfl
            have m2 : wn.cell? ⟨x8, 2, none⟩ = some (.int .i64 s2) := r8.cell 2 _ rfl
            have mf0 : wn.frozen? ⟨x8, 0, none⟩ = false := r8.frozen 0
            have mf1 : wn.frozen? ⟨x8, 1, none⟩ = false := r8.frozen 1
            have mf2 : wn.frozen? ⟨x8, 2, none⟩ = false := r8.frozen 2
            have l6 : Blk (((wn.setCell ⟨x8, 0, none⟩ (.int .i64 t0)).setCell ⟨x8, 1, none⟩ (.int .i64 t1)).setCell ⟨x8, 2, none⟩ (.int .i64 t2)) x6 23 (kc (s0, s1, s2)) := ((r6.other hn68 _).other hn68 _).other hn68 _
            have l7 : Blk (((wn.setCell ⟨x8, 0, none⟩ (.int .i64 t0)).setCell ⟨x8, 1, none⟩ (.int .i64 t1)).setCell ⟨x8, 2, none⟩ (.int .i64 t2)) x7 23 (kc (t0, t1, t2)) := ((r7.other hn78 _).other hn78 _).other hn78 _
            have l8 : Blk (((wn.setCell ⟨x8, 0, none⟩ (.int .i64 t0)).setCell ⟨x8, 1, none⟩ (.int .i64 t1)).setCell ⟨x8, 2, none⟩ (.int .i64 t2)) x8 23 (kc (t0, t1, t2)) := ((r8.set 0 _).set 1 _).set 2 _
            have HT := hid (show Below wr.heap.size wr (((wn.setCell ⟨x8, 0, none⟩ (.int .i64 t0)).setCell ⟨x8, 1, none⟩ (.int .i64 t1)).setCell ⟨x8, 2, none⟩ (.int .i64 t2)) from ((HT.out.setCell (p := ⟨x8, 0, none⟩) HL8.out _).setCell (p := ⟨x8, 1, none⟩) HL8.out _).setCell (p := ⟨x8, 2, none⟩) HL8.out _)
            have n0 : (((wn.setCell ⟨x8, 0, none⟩ (.int .i64 t0)).setCell ⟨x8, 1, none⟩ (.int .i64 t1)).setCell ⟨x8, 2, none⟩ (.int .i64 t2)).cell? ⟨x8, 0, none⟩ = some (.int .i64 t0) := l8.cell 0 _ rfl
            have n1 : (((wn.setCell ⟨x8, 0, none⟩ (.int .i64 t0)).setCell ⟨x8, 1, none⟩ (.int .i64 t1)).setCell ⟨x8, 2, none⟩ (.int .i64 t2)).cell? ⟨x8, 1, none⟩ = some (.int .i64 t1) := l8.cell 1 _ rfl
            have n2 : (((wn.setCell ⟨x8, 0, none⟩ (.int .i64 t0)).setCell ⟨x8, 1, none⟩ (.int .i64 t1)).setCell ⟨x8, 2, none⟩ (.int .i64 t2)).cell? ⟨x8, 2, none⟩ = some (.int .i64 t2) := l8.cell 2 _ rfl
            have HB6 := hid l6
            have HB7 := hid l7
            have HB8 := hid l8
            clear l6 l7 l8 r6 r7 r8 hn68 hn78
            have HP3 := hid (show (pre ++ [(t0, t1, t2)]) ++ S8.mrg (a.drop (i)) (b.drop (k + 1)) = S8.mrg a b by rw [← hpre.out, HM.out, List.append_assoc]; rfl)
            have hyy := HY.out pre (t0, t1, t2) (((wn.setCell ⟨x8, 0, none⟩ (.int .i64 t0)).setCell ⟨x8, 1, none⟩ (.int .i64 t1)).setCell ⟨x8, 2, none⟩ (.int .i64 t2)) (HJD.out _ _ _ hJ.out HT.out) (by have h := congrArg List.length hpre.out; rw [HM.out, List.length_append, List.length_cons] at h; have := HN.out; omega)
            obtain ⟨fn, tmps, assign, body, hy0, hR⟩ := hyy
            have HR := hid hR
            clear hR
            gi_wp2
            refine HR.out.mono ?_
            rintro e W3 (⟨rfl, hJ3, hk3⟩ | ⟨rfl, hJx3⟩)
            · have HI3 := hid ((hit.out.up HT.out).kp hk3)
              have uc0 : W3.cell? ⟨x6, 0, none⟩ = some (.int .i64 s0) := hit.out.box HT.out hk3 (by first | exact HLx6.out | exact HLx7.out | exact HL8.out) (HB6.out.cell 0 _ rfl)
              have uc1 : W3.cell? ⟨x6, 1, none⟩ = some (.int .i64 s1) := hit.out.box HT.out hk3 (by first | exact HLx6.out | exact HLx7.out | exact HL8.out) (HB6.out.cell 1 _ rfl)
              have uc2 : W3.cell? ⟨x6, 2, none⟩ = some (.int .i64 s2) := hit.out.box HT.out hk3 (by first | exact HLx6.out | exact HLx7.out | exact HL8.out) (HB6.out.cell 2 _ rfl)
              have vc0 : W3.cell? ⟨x7, 0, none⟩ = some (.int .i64 t0) := hit.out.box HT.out hk3 (by first | exact HLx6.out | exact HLx7.out | exact HL8.out) (HB7.out.cell 0 _ rfl)
              have vc1 : W3.cell? ⟨x7, 1, none⟩ = some (.int .i64 t1) := hit.out.box HT.out hk3 (by first | exact HLx6.out | exact HLx7.out | exact HL8.out) (HB7.out.cell 1 _ rfl)
              have vc2 : W3.cell? ⟨x7, 2, none⟩ = some (.int .i64 t2) := hit.out.box HT.out hk3 (by first | exact HLx6.out | exact HLx7.out | exact HL8.out) (HB7.out.cell 2 _ rfl)
              have yc0 : W3.cell? ⟨x8, 0, none⟩ = some (.int .i64 t0) := hit.out.box HT.out hk3 (by first | exact HLx6.out | exact HLx7.out | exact HL8.out) (HB8.out.cell 0 _ rfl)
              have yc1 : W3.cell? ⟨x8, 1, none⟩ = some (.int .i64 t1) := hit.out.box HT.out hk3 (by first | exact HLx6.out | exact HLx7.out | exact HL8.out) (HB8.out.cell 1 _ rfl)
              have yc2 : W3.cell? ⟨x8, 2, none⟩ = some (.int .i64 t2) := hit.out.box HT.out hk3 (by first | exact HLx6.out | exact HLx7.out | exact HL8.out) (HB8.out.cell 2 _ rfl)
              have HJ3 := hid hJ3
              have hpe1 := e1.out; have hpe2 := e2.out
              have hg60 : Try.prog.eqGuardType Try.prog.depth 23 = false := by kernel_rfl
              clear hk3 hJ3
              gi_wp2
              go_roundw
              case rel => exact ⟨i, k + 1, by omega, by omega, by go_num, by go_num, HI3, _, HP3, HJ3⟩
              case measure => simp [RowKit.intOf]; omega
            · gi_wp2
              refine bodyPost_ret (results_none rfl _ _ _) rfl ?_
              exact ⟨⟨_, rfl⟩, .inr ⟨_, ⟨_, HP3.out⟩, hJx3⟩⟩
          · have CC := hid (fun m W => HCO.out m (t0, t1, t2) (s0, s1, s2) W)
            have HM := hid (show S8.mrg (a.drop i) (b.drop k) = (s0, s1, s2) :: S8.mrg (a.drop (i + 1)) (b.drop (k + 1)) by rw [HDA.out, HDB.out, hl, S8.mrg_eq])
            rw [S8.cp_zero_iff.2 hl] at CC
            have e1 := hid (fun w => st_eq (s0, s1, s2) (s0, s1, s2) w)
            have e2 := hid (fun w => st_eq (t0, t1, t2) (s0, s1, s2) w)
            rw [show decide ((s0, s1, s2) = (s0, s1, s2)) = true from decide_eq_true rfl] at e1
            rw [show decide ((t0, t1, t2) = (s0, s1, s2)) = true from decide_eq_true hl] at e2
            clear hl
            gi_wp2_with fail
            refine ⟨trivial, (CC.out _ _).mono ?_⟩
            rintro e wn ⟨rfl, hbn⟩
            have HT := hid (below_t (show Below wr.heap.size wr (WA4.alloc (.cells #[.int .i64 s0, .int .i64 s1, .int .i64 s2] 23)) from HT.out.alloc HT.out.size _) hbn)
            have r6 : Blk wn x6 23 (kc (s0, s1, s2)) := (nnq6.alloc _).below hbn (nnq6.alloc _).lt
            have r7 : Blk wn x7 23 (kc (t0, t1, t2)) := (nnq7.alloc _).below hbn (nnq7.alloc _).lt
            have r8 : Blk wn WA4.heap.size 23 (kc (s0, s1, s2)) := (Blk.new WA4 23 (kc (s0, s1, s2))).below hbn (Blk.new WA4 23 (kc (s0, s1, s2))).lt
            have hn68 : x6 ≠ WA4.heap.size := Nat.ne_of_lt nnq6.lt
            have hn78 : x7 ≠ WA4.heap.size := Nat.ne_of_lt nnq7.lt
            have HL8 := hid (show wr.heap.size ≤ WA4.heap.size from (Nat.le_trans HLx6.out (Nat.le_of_lt nnq6.lt)))
            clear hbn nnq6 nnq7 k0 k1 k2 m0 m1 m2 ak0 ak1 ak2 am0 am1 am2
            obtain ⟨x8, hx8⟩ : ∃ x, x = WA4.heap.size := ⟨_, rfl⟩
            rw [← hx8] at r8 hn68 hn78 HL8 ⊢
            clear hx8
            have l6 := r6
            have l7 := r7
            have l8 := r8
            have n0 : wn.cell? ⟨x8, 0, none⟩ = some (.int .i64 s0) := l8.cell 0 _ rfl
            have n1 : wn.cell? ⟨x8, 1, none⟩ = some (.int .i64 s1) := l8.cell 1 _ rfl
            have n2 : wn.cell? ⟨x8, 2, none⟩ = some (.int .i64 s2) := l8.cell 2 _ rfl
            have HB6 := hid l6
            have HB7 := hid l7
            have HB8 := hid l8
            clear l6 l7 l8 r6 r7 r8 hn68 hn78
            have HP3 := hid (show (pre ++ [(s0, s1, s2)]) ++ S8.mrg (a.drop (i + 1)) (b.drop (k + 1)) = S8.mrg a b by rw [← hpre.out, HM.out, List.append_assoc]; rfl)
            have hyy := HY.out pre (s0, s1, s2) wn (HJD.out _ _ _ hJ.out HT.out) (by have h := congrArg List.length hpre.out; rw [HM.out, List.length_append, List.length_cons] at h; have := HN.out; omega)
            obtain ⟨fn, tmps, assign, body, hy0, hR⟩ := hyy
            have HR := hid hR
            clear hR
            gi_wp2
            refine HR.out.mono ?_
            rintro e W3 (⟨rfl, hJ3, hk3⟩ | ⟨rfl, hJx3⟩)
            · have HI3 := hid ((hit.out.up HT.out).kp hk3)
              have uc0 : W3.cell? ⟨x6, 0, none⟩ = some (.int .i64 s0) := hit.out.box HT.out hk3 (by first | exact HLx6.out | exact HLx7.out | exact HL8.out) (HB6.out.cell 0 _ rfl)
              have uc1 : W3.cell? ⟨x6, 1, none⟩ = some (.int .i64 s1) := hit.out.box HT.out hk3 (by first | exact HLx6.out | exact HLx7.out | exact HL8.out) (HB6.out.cell 1 _ rfl)
              have uc2 : W3.cell? ⟨x6, 2, none⟩ = some (.int .i64 s2) := hit.out.box HT.out hk3 (by first | exact HLx6.out | exact HLx7.out | exact HL8.out) (HB6.out.cell 2 _ rfl)
              have vc0 : W3.cell? ⟨x7, 0, none⟩ = some (.int .i64 t0) := hit.out.box HT.out hk3 (by first | exact HLx6.out | exact HLx7.out | exact HL8.out) (HB7.out.cell 0 _ rfl)
              have vc1 : W3.cell? ⟨x7, 1, none⟩ = some (.int .i64 t1) := hit.out.box HT.out hk3 (by first | exact HLx6.out | exact HLx7.out | exact HL8.out) (HB7.out.cell 1 _ rfl)
              have vc2 : W3.cell? ⟨x7, 2, none⟩ = some (.int .i64 t2) := hit.out.box HT.out hk3 (by first | exact HLx6.out | exact HLx7.out | exact HL8.out) (HB7.out.cell 2 _ rfl)
              have yc0 : W3.cell? ⟨x8, 0, none⟩ = some (.int .i64 s0) := hit.out.box HT.out hk3 (by first | exact HLx6.out | exact HLx7.out | exact HL8.out) (HB8.out.cell 0 _ rfl)
              have yc1 : W3.cell? ⟨x8, 1, none⟩ = some (.int .i64 s1) := hit.out.box HT.out hk3 (by first | exact HLx6.out | exact HLx7.out | exact HL8.out) (HB8.out.cell 1 _ rfl)
              have yc2 : W3.cell? ⟨x8, 2, none⟩ = some (.int .i64 s2) := hit.out.box HT.out hk3 (by first | exact HLx6.out | exact HLx7.out | exact HL8.out) (HB8.out.cell 2 _ rfl)
              have HJ3 := hid hJ3
              have hpe1 := e1.out; have hpe2 := e2.out
              have hg60 : Try.prog.eqGuardType Try.prog.depth 23 = false := by kernel_rfl
              clear hk3 hJ3
              gi_wp2
              go_roundw
              case rel => exact ⟨i + 1, k + 1, by omega, by omega, by go_num, by go_num, HI3, _, HP3, HJ3⟩
              case measure => simp [RowKit.intOf]; omega
            · gi_wp2
              refine bodyPost_ret (results_none rfl _ _ _) rfl ?_
              exact ⟨⟨_, rfl⟩, .inr ⟨_, ⟨_, HP3.out⟩, hJx3⟩⟩
          · have CC := hid (fun m W => HCO.out m (t0, t1, t2) (s0, s1, s2) W)
            have HM := hid (show S8.mrg (a.drop i) (b.drop k) = (s0, s1, s2) :: S8.mrg (a.drop (i + 1)) (b.drop k) by rw [HDA.out, HDB.out, S8.mrg_gt hl])
            rw [S8.cp_gt hl] at CC
            have e1 := hid (fun w => st_eq (s0, s1, s2) (s0, s1, s2) w)
            have e2 := hid (fun w => st_eq (t0, t1, t2) (s0, s1, s2) w)
            rw [show decide ((s0, s1, s2) = (s0, s1, s2)) = true from decide_eq_true rfl] at e1
            rw [show decide ((t0, t1, t2) = (s0, s1, s2)) = false from decide_eq_false (fun e => S8.lt_ne hl e.symm)] at e2
            clear hl
            gi_wp2_with fail
            refine ⟨trivial, (CC.out _ _).mono ?_⟩
            rintro e wn ⟨rfl, hbn⟩
            have HT := hid (below_t (show Below wr.heap.size wr (WA4.alloc (.cells #[.int .i64 s0, .int .i64 s1, .int .i64 s2] 23)) from HT.out.alloc HT.out.size _) hbn)
            have r6 : Blk wn x6 23 (kc (s0, s1, s2)) := (nnq6.alloc _).below hbn (nnq6.alloc _).lt
            have r7 : Blk wn x7 23 (kc (t0, t1, t2)) := (nnq7.alloc _).below hbn (nnq7.alloc _).lt
            have r8 : Blk wn WA4.heap.size 23 (kc (s0, s1, s2)) := (Blk.new WA4 23 (kc (s0, s1, s2))).below hbn (Blk.new WA4 23 (kc (s0, s1, s2))).lt
            have hn68 : x6 ≠ WA4.heap.size := Nat.ne_of_lt nnq6.lt
            have hn78 : x7 ≠ WA4.heap.size := Nat.ne_of_lt nnq7.lt
            have HL8 := hid (show wr.heap.size ≤ WA4.heap.size from (Nat.le_trans HLx6.out (Nat.le_of_lt nnq6.lt)))
            clear hbn nnq6 nnq7 k0 k1 k2 m0 m1 m2 ak0 ak1 ak2 am0 am1 am2
            obtain ⟨x8, hx8⟩ : ∃ x, x = WA4.heap.size := ⟨_, rfl⟩
            rw [← hx8] at r8 hn68 hn78 HL8 ⊢
            clear hx8
            have l6 := r6
            have l7 := r7
            have l8 := r8
            have n0 : wn.cell? ⟨x8, 0, none⟩ = some (.int .i64 s0) := l8.cell 0 _ rfl
            have n1 : wn.cell? ⟨x8, 1, none⟩ = some (.int .i64 s1) := l8.cell 1 _ rfl
            have n2 : wn.cell? ⟨x8, 2, none⟩ = some (.int .i64 s2) := l8.cell 2 _ rfl
            have HB6 := hid l6
            have HB7 := hid l7
            have HB8 := hid l8
            clear l6 l7 l8 r6 r7 r8 hn68 hn78
            have HP3 := hid (show (pre ++ [(s0, s1, s2)]) ++ S8.mrg (a.drop (i + 1)) (b.drop (k)) = S8.mrg a b by rw [← hpre.out, HM.out, List.append_assoc]; rfl)
            have hyy := HY.out pre (s0, s1, s2) wn (HJD.out _ _ _ hJ.out HT.out) (by have h := congrArg List.length hpre.out; rw [HM.out, List.length_append, List.length_cons] at h; have := HN.out; omega)
            obtain ⟨fn, tmps, assign, body, hy0, hR⟩ := hyy
            have HR := hid hR
            clear hR
            gi_wp2
            refine HR.out.mono ?_
            rintro e W3 (⟨rfl, hJ3, hk3⟩ | ⟨rfl, hJx3⟩)
            · have HI3 := hid ((hit.out.up HT.out).kp hk3)
              have uc0 : W3.cell? ⟨x6, 0, none⟩ = some (.int .i64 s0) := hit.out.box HT.out hk3 (by first | exact HLx6.out | exact HLx7.out | exact HL8.out) (HB6.out.cell 0 _ rfl)
              have uc1 : W3.cell? ⟨x6, 1, none⟩ = some (.int .i64 s1) := hit.out.box HT.out hk3 (by first | exact HLx6.out | exact HLx7.out | exact HL8.out) (HB6.out.cell 1 _ rfl)
              have uc2 : W3.cell? ⟨x6, 2, none⟩ = some (.int .i64 s2) := hit.out.box HT.out hk3 (by first | exact HLx6.out | exact HLx7.out | exact HL8.out) (HB6.out.cell 2 _ rfl)
              have vc0 : W3.cell? ⟨x7, 0, none⟩ = some (.int .i64 t0) := hit.out.box HT.out hk3 (by first | exact HLx6.out | exact HLx7.out | exact HL8.out) (HB7.out.cell 0 _ rfl)
              have vc1 : W3.cell? ⟨x7, 1, none⟩ = some (.int .i64 t1) := hit.out.box HT.out hk3 (by first | exact HLx6.out | exact HLx7.out | exact HL8.out) (HB7.out.cell 1 _ rfl)
              have vc2 : W3.cell? ⟨x7, 2, none⟩ = some (.int .i64 t2) := hit.out.box HT.out hk3 (by first | exact HLx6.out | exact HLx7.out | exact HL8.out) (HB7.out.cell 2 _ rfl)
              have yc0 : W3.cell? ⟨x8, 0, none⟩ = some (.int .i64 s0) := hit.out.box HT.out hk3 (by first | exact HLx6.out | exact HLx7.out | exact HL8.out) (HB8.out.cell 0 _ rfl)
              have yc1 : W3.cell? ⟨x8, 1, none⟩ = some (.int .i64 s1) := hit.out.box HT.out hk3 (by first | exact HLx6.out | exact HLx7.out | exact HL8.out) (HB8.out.cell 1 _ rfl)
              have yc2 : W3.cell? ⟨x8, 2, none⟩ = some (.int .i64 s2) := hit.out.box HT.out hk3 (by first | exact HLx6.out | exact HLx7.out | exact HL8.out) (HB8.out.cell 2 _ rfl)
              have HJ3 := hid hJ3
              have hpe1 := e1.out; have hpe2 := e2.out
              have hg60 : Try.prog.eqGuardType Try.prog.depth 23 = false := by kernel_rfl
              clear hk3 hJ3
              gi_wp2
              go_roundw
              case rel => exact ⟨i + 1, k, by omega, by omega, by go_num, by go_num, HI3, _, HP3, HJ3⟩
              case measure => simp [RowKit.intOf]; omega
            · gi_wp2
              refine bodyPost_ret (results_none rfl _ _ _) rfl ?_
              exact ⟨⟨_, rfl⟩, .inr ⟨_, ⟨_, HP3.out⟩, hJx3⟩⟩
      · have HRM := hid (show pre ++ (a.drop i ++ b.drop k) = S8.mrg a b by have h := hpre.out; rw [show k = b.length by have := HNB.out; omega, List.drop_length, S8.mrg_nil_r] at h; rw [show k = b.length by have := HNB.out; omega, List.drop_length, List.append_nil]; exact h)
        obtain ⟨qa, ma, ka, hva⟩ := slice_rest pa i na ca hi HCA.out.1 (by have := HCA.out.2; omega)
        obtain ⟨qb, mb, kb, hvb⟩ := slice_rest pb k nb cb hk HCB.out.1 (by have := HCB.out.2; omega)
        have HSA := hid hva; have HSB := hid hvb
        clear hva hvb
        have HC1 := hid (fun (W : World) (hW : Below wr.heap.size wr W) => (hW.cell (p := ⟨B1, 0, none⟩) (Nat.lt_of_lt_of_le HL.out.2.2.1 hit.out.2.1)).trans c1)
        have HC2 := hid (fun (W : World) (hW : Below wr.heap.size wr W) => (hW.cell (p := ⟨B2, 0, none⟩) (Nat.lt_of_lt_of_le HL.out.2.2.2 hit.out.2.1)).trans c2)
        have HT := hid (Below.refl wr.heap.size wr)
        have hcai := HCA.out.1; have hcbi := HCB.out.1
        gi_wp2
        refine wpIn_wide.2 ?_
        clear c1 c2
        have HT := hid HT.out.drew
        refine wa_start (S := fun W => Below wr.heap.size wr W) (by kernel_rfl) HT.out ?_
        obtain ⟨WD, hWD⟩ : ∃ x, x = wr.drew := ⟨_, rfl⟩
        rw [← hWD] at HT ⊢
        have HWD := hid (show WD.heap.size = wr.heap.size by rw [hWD]; rfl)
        clear hWD
        refine wa_tk 0 (some 49) (.slice pa na ca) rfl (by kernel_rfl) rfl rfl HT.out (fun w h0 => by have c1 := HC1.out _ h0; go_simp) ?_
        try simp only [Act.put, List.setIfInBounds_toArray, List.set_cons_zero, List.set_cons_succ]
        refine wa_tk 1 (some 50) (.int .i64 (i : Int)) rfl (by kernel_rfl) rfl rfl HT.out (fun w h0 => by go_simp) ?_
        try simp only [Act.put, List.setIfInBounds_toArray, List.set_cons_zero, List.set_cons_succ]
        refine wa_tk 2 (some 51) (.slice qa ma ka) rfl (by kernel_rfl) rfl rfl HT.out (fun w h0 => by have hs := (HSA.out w).1; go_simp) ?_
        try simp only [Act.put, List.setIfInBounds_toArray, List.set_cons_zero, List.set_cons_succ]
        refine wa_tk 3 (some 52) (.slice pb nb cb) rfl (by kernel_rfl) rfl rfl HT.out (fun w h0 => by have c2 := HC2.out _ h0; go_simp) ?_
        try simp only [Act.put, List.setIfInBounds_toArray, List.set_cons_zero, List.set_cons_succ]
        refine wa_tk 4 (some 53) (.int .i64 (k : Int)) rfl (by kernel_rfl) rfl rfl HT.out (fun w h0 => by go_simp) ?_
        try simp only [Act.put, List.setIfInBounds_toArray, List.set_cons_zero, List.set_cons_succ]
        refine wa_tk 5 (some 54) (.slice qb mb kb) rfl (by kernel_rfl) rfl rfl HT.out (fun w h0 => by have hs := (HSB.out w).1; go_simp) ?_
        try simp only [Act.put, List.setIfInBounds_toArray, List.set_cons_zero, List.set_cons_succ]
        refine wa_tk 9 (some 58) (.int .i64 0) rfl (by kernel_rfl) rfl rfl HT.out (fun w h0 => by go_simp) ?_
        try simp only [Act.put, List.setIfInBounds_toArray, List.set_cons_zero, List.set_cons_succ]
        refine wa_branch [6] (by decide +kernel) rfl ?_
        refine ar_op 6 rfl rfl (fun K hK => ?_) ar_nil
        unfold Oper.wp
        go_simp
        obtain ⟨WE, hWE⟩ : ∃ x, x = WD.alloc (.cells #[.slice qa ma ka, .slice qb mb kb] 33) := ⟨_, rfl⟩
        have HT := hid (show Below wr.heap.size wr WE from by rw [hWE]; exact HT.out.alloc HT.out.size _)
        have HE1 := hid (show WE.cell? ⟨WD.heap.size, 0, none⟩ = some (.slice qa ma ka) ∧ WE.cell? ⟨WD.heap.size, 1, none⟩ = some (.slice qb mb kb) ∧ WD.heap.size < WE.heap.size from by rw [hWE]; exact ⟨cell_lit _ _ _ _ _ rfl, cell_lit _ _ _ _ _ rfl, by simp⟩)
        rw [← hWE]
        clear hWE
        refine hK.out _ _ HT.out ?_
        clear hK K
        try simp only [Act.put, List.setIfInBounds_toArray, List.set_cons_zero, List.set_cons_succ]
        refine wa_branch [7] (by decide +kernel) rfl ?_
        refine ar_op 7 rfl rfl (fun K hK => ?_) ar_nil
        unfold Oper.wp
        go_simp
        go_at_call 34
        have hkk := It.keep (hit.out.up HT.out) HB0.out HW.out
        have hsz : w.heap.size ≤ WE.heap.size := Nat.le_trans HB0.out.size (Nat.le_trans hit.out.2.1 HT.out.size)
        have HCC := hid (concat_any WE WD.heap.size (.slice qa ma ka) (.slice qb mb kb) (a.drop i) (b.drop k) HE1.out.1 HE1.out.2.1 HE1.out.2.2 ((HSA.out WE).2 a HNA.out.symm (HVA.out.keep hkk hsz)) ((HSB.out WE).2 b HNB.out.symm (HVB.out.keep hkk hsz)) (by rw [List.length_append, List.length_drop, List.length_drop]; have := HNA.out; have := HNB.out; omega))
        clear hkk hsz
        refine HCC.out.mono ?_
        rintro e wz ⟨v, rfl, hown, hbz⟩
        have hbz2 := below_t HT.out hbz
        have HKO := hid (show KO wz wr.heap.size v (a.drop i ++ b.drop k) from ⟨hown.1, by
          rcases hown.2 with h | ⟨g, cap, cur, h1, h2, h3⟩
          · exact .inl h
          · exact .inr ⟨g, cap, cur, h1, Nat.le_trans HT.out.size h2, h3⟩⟩)
        have HT := hid hbz2
        clear hbz hbz2 hown HCC
        go_simp
        refine hK.out _ _ HT.out ?_
        clear hK K
        try simp only [Act.put, List.setIfInBounds_toArray, List.set_cons_zero, List.set_cons_succ]
        obtain ⟨pz, cz, hz⟩ := (GO.gs HKO.out).form
        obtain ⟨R, hR⟩ : ∃ R, R = a.drop i ++ b.drop k := ⟨_, rfl⟩
        rw [← hR] at HKO hz
        have HPR := hid (show pre ++ R = S8.mrg a b by rw [hR]; exact HRM.out)
        obtain ⟨m, hm⟩ : ∃ m, m = R.length := ⟨_, rfl⟩
        rw [← hm] at hz
        subst hz
        have HMR := hid hm
        have hm4 : m ≤ 10000 := by rw [hm, hR, List.length_append, List.length_drop, List.length_drop]; have := HNA.out; have := HNB.out; omega
        clear hR hm HE1 HSA HSB HC1 HC2
        refine wa_tk 8 (some 57) (.int .i64 (m : Int)) rfl (by kernel_rfl) rfl rfl HT.out (fun w h0 => by go_simp) ?_
        try simp only [Act.put, List.setIfInBounds_toArray, List.set_cons_zero, List.set_cons_succ]
        refine wa_done (by decide +kernel) ?_
        have HKZ := hid (Kept.start hit.out HT.out)
        have HJZ := hid (HJD.out _ _ _ hJ.out HT.out)
        clear hJ hpre HRM
        gi_wp2
        gi_loopw [58] (fun s wq => ∃ j : Nat, j ≤ m ∧ s = .int .i64 j ∧ Hid (Kept L W0.heap.size wr wz wq) ∧ ∃ pre, Hid (pre ++ R.drop j = S8.mrg a b) ∧ Hid (J pre wq)) (fun s _ => m - (RowKit.intOf s).toNat)
        case atStart => exact ⟨0, by omega, rfl, HKZ, pre, HPR, HJZ⟩
        case round =>
          obtain ⟨j, hj, rfl, hkz, pre2, hpr, hJ2⟩ := hrel
          by_cases hlt : j < m
          · obtain ⟨x, hx⟩ := get_lt (l := R) (i := j) (by rw [← HMR.out]; exact hlt)
            obtain ⟨g, rfl, hg, h0, h1, h2⟩ := ko_row HKO.out hx
            have d0 := hkz.out.2.2.2 _ _ hg h0; have d1 := hkz.out.2.2.2 _ _ hg h1; have d2 := hkz.out.2.2.2 _ _ hg h2
            have HP3 := hid (show (pre2 ++ [x]) ++ R.drop (j + 1) = S8.mrg a b by
              obtain ⟨q1, q2⟩ := List.getElem?_eq_some_iff.1 hx
              rw [← hpr.out, List.drop_eq_getElem_cons q1, q2, List.append_assoc]; rfl)
            obtain ⟨s0, s1, s2⟩ := x
            simp only [Nat.zero_add] at d0 d1 d2
            have hba : Below wr.heap.size wr (wr.alloc (.cells #[.int .i64 s0, .int .i64 s1, .int .i64 s2] 23)) := (Below.refl _ _).alloc (Nat.le_refl _) _
            have hyy := HY.out pre2 (s0, s1, s2) (wr.alloc (.cells #[.int .i64 s0, .int .i64 s1, .int .i64 s2] 23)) (HJD.out _ _ _ hJ2.out hba) (by have h := congrArg List.length HP3.out; rw [List.length_append, List.length_append, List.length_singleton] at h; have := HN.out; omega)
            have HKA := hid (hkz.out.up hba)
            obtain ⟨fn, tmps, assign, body, hy0, hR⟩ := hyy
            have HR := hid hR
            clear hR h0 h1 h2 hx hba hJ2 hpr hkz
            gi_wp2
            refine HR.out.mono ?_
            rintro e W3 (⟨rfl, hJ3, hk3⟩ | ⟨rfl, hJx3⟩)
            · have HI3 := hid (HKA.out.kp hk3)
              have HJ3 := hid hJ3
              clear hk3 hJ3 d0 d1 d2
              gi_wp2
              go_roundw
              case rel => exact ⟨j + 1, by omega, by go_num, HI3, _, HP3, HJ3⟩
              case measure => simp [RowKit.intOf]; omega
            · clear d0 d1 d2
              gi_wp2
              refine bodyPost_ret (results_none rfl _ _ _) rfl ?_
              exact ⟨⟨_, rfl⟩, .inr ⟨_, ⟨_, HP3.out⟩, hJx3⟩⟩
          · obtain rfl : j = m := by omega
            have hpe : pre2 = S8.mrg a b := by have h := hpr.out; rw [HMR.out, List.drop_length, List.append_nil] at h; exact h
            have HJE := hid (show J (S8.mrg a b) wr by rw [← hpe]; exact hJ2.out)
            clear hpe
            gi_wp2
            go_end0
            exact ⟨⟨_, rfl⟩, .inl ⟨_, rfl, HJE.out⟩⟩
    · have HRM := hid (show pre ++ (a.drop i ++ b.drop k) = S8.mrg a b by have h := hpre.out; rw [show i = a.length by have := HNA.out; omega, List.drop_length, S8.mrg_nil_l] at h; rw [show i = a.length by have := HNA.out; omega, List.drop_length, List.nil_append]; exact h)
      obtain ⟨qa, ma, ka, hva⟩ := slice_rest pa i na ca hi HCA.out.1 (by have := HCA.out.2; omega)
      obtain ⟨qb, mb, kb, hvb⟩ := slice_rest pb k nb cb hk HCB.out.1 (by have := HCB.out.2; omega)
      have HSA := hid hva; have HSB := hid hvb
      clear hva hvb
      have HC1 := hid (fun (W : World) (hW : Below wr.heap.size wr W) => (hW.cell (p := ⟨B1, 0, none⟩) (Nat.lt_of_lt_of_le HL.out.2.2.1 hit.out.2.1)).trans c1)
      have HC2 := hid (fun (W : World) (hW : Below wr.heap.size wr W) => (hW.cell (p := ⟨B2, 0, none⟩) (Nat.lt_of_lt_of_le HL.out.2.2.2 hit.out.2.1)).trans c2)
      have HT := hid (Below.refl wr.heap.size wr)
      have hcai := HCA.out.1; have hcbi := HCB.out.1
      gi_wp2
      refine wpIn_wide.2 ?_
      clear c1 c2
      have HT := hid HT.out.drew
      refine wa_start (S := fun W => Below wr.heap.size wr W) (by kernel_rfl) HT.out ?_
      obtain ⟨WD, hWD⟩ : ∃ x, x = wr.drew := ⟨_, rfl⟩
      rw [← hWD] at HT ⊢
      have HWD := hid (show WD.heap.size = wr.heap.size by rw [hWD]; rfl)
      clear hWD
      refine wa_tk 0 (some 49) (.slice pa na ca) rfl (by kernel_rfl) rfl rfl HT.out (fun w h0 => by have c1 := HC1.out _ h0; go_simp) ?_
      try simp only [Act.put, List.setIfInBounds_toArray, List.set_cons_zero, List.set_cons_succ]
      refine wa_tk 1 (some 50) (.int .i64 (i : Int)) rfl (by kernel_rfl) rfl rfl HT.out (fun w h0 => by go_simp) ?_
      try simp only [Act.put, List.setIfInBounds_toArray, List.set_cons_zero, List.set_cons_succ]
      refine wa_tk 2 (some 51) (.slice qa ma ka) rfl (by kernel_rfl) rfl rfl HT.out (fun w h0 => by have hs := (HSA.out w).1; go_simp) ?_
      try simp only [Act.put, List.setIfInBounds_toArray, List.set_cons_zero, List.set_cons_succ]
      refine wa_tk 3 (some 52) (.slice pb nb cb) rfl (by kernel_rfl) rfl rfl HT.out (fun w h0 => by have c2 := HC2.out _ h0; go_simp) ?_
      try simp only [Act.put, List.setIfInBounds_toArray, List.set_cons_zero, List.set_cons_succ]
      refine wa_tk 4 (some 53) (.int .i64 (k : Int)) rfl (by kernel_rfl) rfl rfl HT.out (fun w h0 => by go_simp) ?_
      try simp only [Act.put, List.setIfInBounds_toArray, List.set_cons_zero, List.set_cons_succ]
      refine wa_tk 5 (some 54) (.slice qb mb kb) rfl (by kernel_rfl) rfl rfl HT.out (fun w h0 => by have hs := (HSB.out w).1; go_simp) ?_
      try simp only [Act.put, List.setIfInBounds_toArray, List.set_cons_zero, List.set_cons_succ]
      refine wa_tk 9 (some 58) (.int .i64 0) rfl (by kernel_rfl) rfl rfl HT.out (fun w h0 => by go_simp) ?_
      try simp only [Act.put, List.setIfInBounds_toArray, List.set_cons_zero, List.set_cons_succ]
      refine wa_branch [6] (by decide +kernel) rfl ?_
      refine ar_op 6 rfl rfl (fun K hK => ?_) ar_nil
      unfold Oper.wp
      go_simp
      obtain ⟨WE, hWE⟩ : ∃ x, x = WD.alloc (.cells #[.slice qa ma ka, .slice qb mb kb] 33) := ⟨_, rfl⟩
      have HT := hid (show Below wr.heap.size wr WE from by rw [hWE]; exact HT.out.alloc HT.out.size _)
      have HE1 := hid (show WE.cell? ⟨WD.heap.size, 0, none⟩ = some (.slice qa ma ka) ∧ WE.cell? ⟨WD.heap.size, 1, none⟩ = some (.slice qb mb kb) ∧ WD.heap.size < WE.heap.size from by rw [hWE]; exact ⟨cell_lit _ _ _ _ _ rfl, cell_lit _ _ _ _ _ rfl, by simp⟩)
      rw [← hWE]
      clear hWE
      refine hK.out _ _ HT.out ?_
      clear hK K
      try simp only [Act.put, List.setIfInBounds_toArray, List.set_cons_zero, List.set_cons_succ]
      refine wa_branch [7] (by decide +kernel) rfl ?_
      refine ar_op 7 rfl rfl (fun K hK => ?_) ar_nil
      unfold Oper.wp
      go_simp
      go_at_call 34
      have hkk := It.keep (hit.out.up HT.out) HB0.out HW.out
      have hsz : w.heap.size ≤ WE.heap.size := Nat.le_trans HB0.out.size (Nat.le_trans hit.out.2.1 HT.out.size)
      have HCC := hid (concat_any WE WD.heap.size (.slice qa ma ka) (.slice qb mb kb) (a.drop i) (b.drop k) HE1.out.1 HE1.out.2.1 HE1.out.2.2 ((HSA.out WE).2 a HNA.out.symm (HVA.out.keep hkk hsz)) ((HSB.out WE).2 b HNB.out.symm (HVB.out.keep hkk hsz)) (by rw [List.length_append, List.length_drop, List.length_drop]; have := HNA.out; have := HNB.out; omega))
      clear hkk hsz
      refine HCC.out.mono ?_
      rintro e wz ⟨v, rfl, hown, hbz⟩
      have hbz2 := below_t HT.out hbz
      have HKO := hid (show KO wz wr.heap.size v (a.drop i ++ b.drop k) from ⟨hown.1, by
          rcases hown.2 with h | ⟨g, cap, cur, h1, h2, h3⟩
          · exact .inl h
          · exact .inr ⟨g, cap, cur, h1, Nat.le_trans HT.out.size h2, h3⟩⟩)
      have HT := hid hbz2
      clear hbz hbz2 hown HCC
      go_simp
      refine hK.out _ _ HT.out ?_
      clear hK K
      try simp only [Act.put, List.setIfInBounds_toArray, List.set_cons_zero, List.set_cons_succ]
      obtain ⟨pz, cz, hz⟩ := (GO.gs HKO.out).form
      obtain ⟨R, hR⟩ : ∃ R, R = a.drop i ++ b.drop k := ⟨_, rfl⟩
      rw [← hR] at HKO hz
      have HPR := hid (show pre ++ R = S8.mrg a b by rw [hR]; exact HRM.out)
      obtain ⟨m, hm⟩ : ∃ m, m = R.length := ⟨_, rfl⟩
      rw [← hm] at hz
      subst hz
      have HMR := hid hm
      have hm4 : m ≤ 10000 := by rw [hm, hR, List.length_append, List.length_drop, List.length_drop]; have := HNA.out; have := HNB.out; omega
      clear hR hm HE1 HSA HSB HC1 HC2
      refine wa_tk 8 (some 57) (.int .i64 (m : Int)) rfl (by kernel_rfl) rfl rfl HT.out (fun w h0 => by go_simp) ?_
      try simp only [Act.put, List.setIfInBounds_toArray, List.set_cons_zero, List.set_cons_succ]
      refine wa_done (by decide +kernel) ?_
      have HKZ := hid (Kept.start hit.out HT.out)
      have HJZ := hid (HJD.out _ _ _ hJ.out HT.out)
      clear hJ hpre HRM
      gi_wp2
      gi_loopw [58] (fun s wq => ∃ j : Nat, j ≤ m ∧ s = .int .i64 j ∧ Hid (Kept L W0.heap.size wr wz wq) ∧ ∃ pre, Hid (pre ++ R.drop j = S8.mrg a b) ∧ Hid (J pre wq)) (fun s _ => m - (RowKit.intOf s).toNat)
      case atStart => exact ⟨0, by omega, rfl, HKZ, pre, HPR, HJZ⟩
      case round =>
        obtain ⟨j, hj, rfl, hkz, pre2, hpr, hJ2⟩ := hrel
        by_cases hlt : j < m
        · obtain ⟨x, hx⟩ := get_lt (l := R) (i := j) (by rw [← HMR.out]; exact hlt)
          obtain ⟨g, rfl, hg, h0, h1, h2⟩ := ko_row HKO.out hx
          have d0 := hkz.out.2.2.2 _ _ hg h0; have d1 := hkz.out.2.2.2 _ _ hg h1; have d2 := hkz.out.2.2.2 _ _ hg h2
          have HP3 := hid (show (pre2 ++ [x]) ++ R.drop (j + 1) = S8.mrg a b by
              obtain ⟨q1, q2⟩ := List.getElem?_eq_some_iff.1 hx
              rw [← hpr.out, List.drop_eq_getElem_cons q1, q2, List.append_assoc]; rfl)
          obtain ⟨s0, s1, s2⟩ := x
          simp only [Nat.zero_add] at d0 d1 d2
          have hba : Below wr.heap.size wr (wr.alloc (.cells #[.int .i64 s0, .int .i64 s1, .int .i64 s2] 23)) := (Below.refl _ _).alloc (Nat.le_refl _) _
          have hyy := HY.out pre2 (s0, s1, s2) (wr.alloc (.cells #[.int .i64 s0, .int .i64 s1, .int .i64 s2] 23)) (HJD.out _ _ _ hJ2.out hba) (by have h := congrArg List.length HP3.out; rw [List.length_append, List.length_append, List.length_singleton] at h; have := HN.out; omega)
          have HKA := hid (hkz.out.up hba)
          obtain ⟨fn, tmps, assign, body, hy0, hR⟩ := hyy
          have HR := hid hR
          clear hR h0 h1 h2 hx hba hJ2 hpr hkz
          gi_wp2
          refine HR.out.mono ?_
          rintro e W3 (⟨rfl, hJ3, hk3⟩ | ⟨rfl, hJx3⟩)
          · have HI3 := hid (HKA.out.kp hk3)
            have HJ3 := hid hJ3
            clear hk3 hJ3 d0 d1 d2
            gi_wp2
            go_roundw
            case rel => exact ⟨j + 1, by omega, by go_num, HI3, _, HP3, HJ3⟩
            case measure => simp [RowKit.intOf]; omega
          · clear d0 d1 d2
            gi_wp2
            refine bodyPost_ret (results_none rfl _ _ _) rfl ?_
            exact ⟨⟨_, rfl⟩, .inr ⟨_, ⟨_, HP3.out⟩, hJx3⟩⟩
        · obtain rfl : j = m := by omega
          have hpe : pre2 = S8.mrg a b := by have h := hpr.out; rw [HMR.out, List.drop_length, List.append_nil] at h; exact h
          have HJE := hid (show J (S8.mrg a b) wr by rw [← hpe]; exact hJ2.out)
          clear hpe
          gi_wp2
          go_end0
          exact ⟨⟨_, rfl⟩, .inl ⟨_, rfl, HJE.out⟩⟩
end Go.Proofs.Ytlkcnnamnjnmbaa

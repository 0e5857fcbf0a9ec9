/- Contracts: equality of stamps, Same, Few, in. -/
import Derived.Test.YtlkcnnamnjnmbaaD4
namespace Go.Proofs.Ytlkcnnamnjnmbaa
open Go.RowKit Go
set_option linter.unusedVariables false
set_option linter.unusedSimpArgs false
set_option maxRecDepth 100000 in
theorem st_eq (a b : St) (w : World) : (Op.equalIn 10000 23 (KV a) (KV b)).run Try.prog w = .ok (decide (a = b)) w := by
  have u3 := Try.underlying3
  have a3 := Try.isAgg3
  have z3 := Try.sizeOf3
  have hS : Try.prog.underlying 23 = some (.struct (Try.prog.fieldsOf 23)) := by kernel_rfl
  have hp : Try.prog.stoodInHeld 23 = false := by kernel_rfl
  rw [show (10000 : Nat) = 9996 + 4 from rfl, show (9996 + 4 : Nat) = (9996 + 3) + 1 from rfl, run_equalIn_agg w _ 23 _ _ hS hp]
  generalize 9996 = d
  simp only [Program.fieldsOf, Try.underlying23] at ⊢
  clear hS hp
  obtain ⟨a1, a2, a3'⟩ := a
  obtain ⟨b1, b2, b3⟩ := b
  go_simp
  (repeat' split) <;> simp_all
set_option maxRecDepth 100000 in
set_option maxHeartbeats 4000000 in
theorem same_any (v1 v2 : Value) (l1 l2 : List St) (w : World) (h1 : KS w v1 l1) (h2 : KS w v2 l2) :
    Calls Try.prog 24 #[v1, v2] w fun e w' => e = .returned (.bool (decide (l1 = l2))) ∧ Below w.heap.size w w' := by
  obtain ⟨p1, c1, rfl⟩ := h1.form
  obtain ⟨p2, c2, rfl⟩ := h2.form
  have hr1 : KR p1 w.heap.size l1 w := h1.gr 3 kc_len (by omega)
  have hr2 : KR p2 w.heap.size l2 w := h2.gr 3 kc_len (by omega)
  have hm1 := h1.len; have hm2 := h2.len
  unfold maxLen at hm1 hm2
  obtain ⟨n1, hn1⟩ : ∃ n, n = l1.length := ⟨_, rfl⟩
  obtain ⟨n2, hn2⟩ : ∃ n, n = l2.length := ⟨_, rfl⟩
  rw [← hn1] at hm1 ⊢
  rw [← hn2] at hm2 ⊢
  have HR1 := hid hr1; have HR2 := hid hr2; have HN1 := hid hn1; have HN2 := hid hn2
  clear h1 h2 hr1 hr2 hn1 hn2
  by_cases hne : n1 = n2
  · subst hne
    go_enter Try.func24, Try.ntmps24
    go_wp2
    go_loopw [5] (fun i wr => ∃ n : Nat, n ≤ n1 ∧ i = .int .i64 n ∧ Hid (l1.take n = l2.take n) ∧ Hid (Below w.heap.size w wr)) (fun i _ => n1 - (intOf i).toNat)
    case atStart => exact ⟨0, by omega, rfl, hid (by simp), hid (Below.refl _ _)⟩
    case round =>
      obtain ⟨n, hn, rfl, heq, hbl⟩ := hrel
      by_cases hlt : n < n1
      · obtain ⟨f, hf⟩ := get_lt (l := l1) (i := n) (by rw [← HN1.out]; exact hlt)
        obtain ⟨g, hg⟩ := get_lt (l := l2) (i := n) (by rw [← HN2.out]; exact hlt)
        obtain ⟨b, o, rfl, hb, x0, x1, x2⟩ := KR.at3 (HR1.out.up hbl.out) hf
        obtain ⟨b', o', rfl, hb', y0, y1, y2⟩ := KR.at3 (HR2.out.up hbl.out) hg
        have hpe := fun w => st_eq f g w
        have hg60 : Try.prog.eqGuardType Try.prog.depth 23 = false := by kernel_rfl
        have t1 := take_snoc hf; have t2 := take_snoc hg
        cases hd : decide (f = g) with
        | true =>
          rw [hd] at hpe
          have he := of_decide_eq_true hd
          have HE := hid (show l1.take (n + 1) = l2.take (n + 1) by rw [t1, t2, heq.out, he])
          clear heq hf hg hb hb' t1 t2 hd he
          go_wp2_with fail
          go_quiet (fail)
          have HB := hid (below_t hbl.out (below_dN nq))
          clear hbl
          go_wp2
          go_roundw
          case rel => exact ⟨n + 1, by omega, by go_num, HE, HB⟩
          case measure => simp [intOf]; omega
        | false =>
          rw [hd] at hpe
          have he := of_decide_eq_false hd
          have HE := hid (show decide (l1 = l2) = false from decide_eq_false (fun e => he (by rw [e] at hf; rw [hf] at hg; cases hg; rfl)))
          clear heq hf hg hb hb' t1 t2 hd he
          go_wp2_with fail
          go_quiet (fail)
          have HB := hid (below_t hbl.out (below_dN nq))
          clear hbl
          go_wp2
          go_ret
          exact ⟨by rw [HE.out]; rfl, HB.out⟩
      · have HE := hid (show decide (l1 = l2) = true from decide_eq_true (by
          have h := heq.out
          rw [show n = n1 by omega] at h
          rwa [HN1.out, List.take_length, ← HN1.out, HN2.out, List.take_length] at h))
        clear heq
        go_wp2
        go_ret
        exact ⟨by rw [HE.out]; rfl, hbl.out⟩
  · have HE := hid (show decide (l1 = l2) = false from decide_eq_false (fun e => hne (by rw [HN1.out, HN2.out, e])))
    have hb1 : ((n1 : Int) != (n2 : Int)) = true := by simp; omega
    go_enter Try.func24, Try.ntmps24
    go_wp2
    go_ret
    exact ⟨by rw [HE.out]; rfl, Below.refl _ _⟩
theorem few_any (v : Value) (L : List St) (w : World) (hv : KS w v L) : Calls Try.prog 19 #[v] w fun e w' => e = .returned (.bool (decide (L.length ≤ 40))) ∧ Below w.heap.size w w' := by
  obtain ⟨p, c, rfl⟩ := hv.form
  have hm := hv.len
  unfold maxLen at hm
  obtain ⟨n, hn⟩ : ∃ n, n = L.length := ⟨_, rfl⟩
  rw [← hn] at hm ⊢
  clear hv hn
  have HE := hid (show decide (n ≤ 40) = decide ((n : Int) ≤ 40) by congr 1; simp; omega)
  go_enter Try.func19, Try.ntmps19
  go_wp2
  go_ret
  exact ⟨by rw [HE.out]; rfl, Below.refl _ _⟩
set_option maxRecDepth 100000 in
set_option maxHeartbeats 4000000 in
theorem in_any (v : Value) (l : List St) (s : St) (w : World) (h : KS w v l) :
    Calls Try.prog 25 #[v, KV s] w fun e w' => e = .returned (.bool (decide (s ∈ l))) ∧ Below w.heap.size w w' := by
  obtain ⟨p, c, rfl⟩ := h.form
  have hr : KR p w.heap.size l w := h.gr 3 kc_len (by omega)
  have hm := h.len
  unfold maxLen at hm
  obtain ⟨n1, hn⟩ : ∃ n, n = l.length := ⟨_, rfl⟩
  rw [← hn] at hm ⊢
  have HR := hid hr; have HN := hid hn
  clear h hr hn
  have HX := hid (fun (f : St) w => st_eq f s w)
  have HS := hid (show ∃ s' : St, s' = s from ⟨_, rfl⟩)
  obtain ⟨W1, hW1⟩ : ∃ W, W = w.alloc (.cells #[.int .i64 s.1, .int .i64 s.2.1, .int .i64 s.2.2] 23) := ⟨_, rfl⟩
  have HB1 := hid (show Below w.heap.size w W1 from by rw [hW1]; exact (Below.refl _ w).alloc (Nat.le_refl _) _)
  have HQ := hid (show W1.cell? ⟨w.heap.size, 0, none⟩ = some (.int .i64 s.1) ∧ W1.cell? ⟨w.heap.size, 1, none⟩ = some (.int .i64 s.2.1) ∧ W1.cell? ⟨w.heap.size, 2, none⟩ = some (.int .i64 s.2.2) from by rw [hW1]; exact ⟨cell_lit _ _ _ _ _ rfl, cell_lit _ _ _ _ _ rfl, cell_lit _ _ _ _ _ rfl⟩)
  have HZS := hid (show w.heap.size < W1.heap.size by rw [hW1]; simp)
  have HMEM := hid (fun (n : Nat) (f : St) (hf : l[n]? = some f) (hne : ¬ f = s) (h0 : s ∉ l.take n) => show s ∉ l.take (n + 1) by
    rw [take_snoc hf]
    intro hc
    rcases List.mem_append.1 hc with hc | hc
    · exact h0 hc
    · simp at hc; exact hne hc.symm)
  have HYES := hid (fun (n : Nat) (hf : l[n]? = some s) => show decide (s ∈ l) = true from decide_eq_true (List.mem_of_getElem? hf))
  have HNO := hid (fun (h0 : s ∉ l.take n1) => show decide (s ∈ l) = false from decide_eq_false (by rwa [HN.out, List.take_length] at h0))
  obtain ⟨s0, s1, s2⟩ := s
  simp only at hW1 HQ
  go_enter Try.func25, Try.ntmps25
  go_upto_region 1 with fail
  rw [← hW1]
  clear hW1
  go_wp2
  go_loopw [5] (fun i wr => ∃ n : Nat, n ≤ n1 ∧ i = .int .i64 n ∧ Hid ((s0, s1, s2) ∉ l.take n) ∧ Hid (Below W1.heap.size W1 wr)) (fun i _ => n1 - (intOf i).toNat)
  case atStart => exact ⟨0, by omega, rfl, hid (by simp), hid (Below.refl _ _)⟩
  case round =>
    obtain ⟨n, hn, rfl, heq, hbl⟩ := hrel
    by_cases hlt : n < n1
    · obtain ⟨f, hf⟩ := get_lt (l := l) (i := n) (by rw [← HN.out]; exact hlt)
      obtain ⟨b, o, rfl, hb, x0, x1, x2⟩ := KR.at3 (HR.out.up (HB1.out.trans (hbl.out.mono HB1.out.size))) hf
      have y0 := (hbl.out.cell (p := ⟨w.heap.size, 0, none⟩) HZS.out).trans HQ.out.1
      have y1 := (hbl.out.cell (p := ⟨w.heap.size, 1, none⟩) HZS.out).trans HQ.out.2.1
      have y2 := (hbl.out.cell (p := ⟨w.heap.size, 2, none⟩) HZS.out).trans HQ.out.2.2
      have hpe := HX.out f
      have hg60 : Try.prog.eqGuardType Try.prog.depth 23 = false := by kernel_rfl
      cases hd : decide (f = (s0, s1, s2)) with
      | true =>
        rw [hd] at hpe
        have he := of_decide_eq_true hd
        have HE := hid (HYES.out n (by rw [hf, he]))
        clear heq hf hb hd he
        obtain ⟨f0, f1, f2⟩ := f
        simp only at x0 x1 x2
        go_wp2_with fail
        go_quiet (fail)
        have HB := hid (below_t hbl.out (below_dN nq))
        clear hbl
        go_wp2
        go_ret
        exact ⟨by rw [HE.out]; rfl, HB1.out.trans (HB.out.mono HB1.out.size)⟩
      | false =>
        rw [hd] at hpe
        have he := of_decide_eq_false hd
        have HE := hid (HMEM.out n f hf he heq.out)
        clear heq hf hb hd he
        obtain ⟨f0, f1, f2⟩ := f
        simp only at x0 x1 x2
        go_wp2_with fail
        go_quiet (fail)
        have HB := hid (below_t hbl.out (below_dN nq))
        clear hbl
        go_wp2
        go_roundw
        case rel => exact ⟨n + 1, by omega, by go_num, HE, HB⟩
        case measure => simp [intOf]; omega
    · obtain rfl : n = n1 := by omega
      have HE := hid (HNO.out heq.out)
      clear heq
      go_wp2
      go_ret
      exact ⟨by rw [HE.out]; rfl, HB1.out.trans (hbl.out.mono HB1.out.size)⟩
end Go.Proofs.Ytlkcnnamnjnmbaa

/- Contracts: ref.Same. -/
import Derived.Test.YtbejjindkcjecaaU
namespace Go.Proofs.Ytbejjindkcjecaa
open Go.RowKit Go
set_option linter.unusedVariables false
set_option linter.unusedSimpArgs false
theorem fact_ext {a b : FA} (h1 : a.kind = b.kind) (h2 : a.subj = b.subj) (h3 : a.obj = b.obj) (h4 : a.val = b.val) (h5 : a.frm = b.frm) (h6 : a.to = b.to) (h7 : a.known = b.known) (h8 : a.no = b.no) : a = b := by
  cases a; cases b; simp_all
set_option maxRecDepth 100000 in
theorem fact_eq (a b : FA) (w : World) : (Op.equalIn 10000 28 (FV a) (FV b)).run Try.prog w = .ok (decide (a = b)) w := by
  have u3 := Try.underlying3
  have a3 := Try.isAgg3
  have z3 := Try.sizeOf3
  have hS : Try.prog.underlying 28 = some (.struct (Try.prog.fieldsOf 28)) := by kernel_rfl
  have hp : Try.prog.stoodInHeld 28 = false := by kernel_rfl
  have hS4 : Try.prog.underlying 24 = some (.struct (Try.prog.fieldsOf 24)) := by kernel_rfl
  have hp4 : Try.prog.stoodInHeld 24 = false := by kernel_rfl
  have hS6 : Try.prog.underlying 26 = some (.struct (Try.prog.fieldsOf 26)) := by kernel_rfl
  have hp6 : Try.prog.stoodInHeld 26 = false := by kernel_rfl
  have s24 : ∀ w, (sizeOf 24).run Try.prog w = .ok 3 w := Try.sizeOf24
  have s26 : ∀ w, (sizeOf 26).run Try.prog w = .ok 2 w := Try.sizeOf26
  have i24 : ∀ w, (isAgg 24).run Try.prog w = .ok true w := Try.isAgg24
  have i26 : ∀ w, (isAgg 26).run Try.prog w = .ok true w := Try.isAgg26
  have e24 : ∀ d (xs ys : Array Value) w, (Op.equalIn (d + 1) 24 (.agg xs) (.agg ys)).run Try.prog w = (Op.eqFields d xs ys (Try.prog.fieldsOf 24).toList).run Try.prog w := fun d xs ys w => run_equalIn_agg w d 24 xs ys hS4 hp4
  have e26 : ∀ d (xs ys : Array Value) w, (Op.equalIn (d + 1) 26 (.agg xs) (.agg ys)).run Try.prog w = (Op.eqFields d xs ys (Try.prog.fieldsOf 26).toList).run Try.prog w := fun d xs ys w => run_equalIn_agg w d 26 xs ys hS6 hp6
  rw [show (10000 : Nat) = 9996 + 4 from rfl, show (9996 + 4 : Nat) = (9996 + 3) + 1 from rfl, run_equalIn_agg w _ 28 _ _ hS hp]
  generalize 9996 = d
  simp only [Program.fieldsOf, Try.underlying28, Try.underlying24, Try.underlying26] at e24 e26 ⊢
  clear hS hS4 hS6 hp hp4 hp6
  obtain ⟨a1, a2, a3', a4, a5, a6, a7, a8⟩ := a
  obtain ⟨b1, b2, b3, b4, b5, b6, b7, b8⟩ := b
  go_simp
  (repeat' split) <;> simp_all
set_option maxRecDepth 100000 in
set_option maxHeartbeats 4000000 in
theorem same_any (v1 v2 : Value) (l1 l2 : List FA) (w : World) (h1 : FS w v1 l1) (h2 : FS w v2 l2) :
    Calls Try.prog 17 #[v1, v2] w fun e w' => e = .returned (.bool (decide (l1 = l2))) ∧ Below w.heap.size w w' := by
  obtain ⟨p1, c1, rfl⟩ := h1.form
  obtain ⟨p2, c2, rfl⟩ := h2.form
  have hr1 : FR p1 w.heap.size l1 w := h1.gr 8 fc_len (by omega)
  have hr2 : FR p2 w.heap.size l2 w := h2.gr 8 fc_len (by omega)
  have hm1 := h1.len; have hm2 := h2.len
  unfold maxLen at hm1 hm2
  obtain ⟨n1, hn1⟩ : ∃ n, n = l1.length := ⟨_, rfl⟩
  obtain ⟨n2, hn2⟩ : ∃ n, n = l2.length := ⟨_, rfl⟩
  rw [← hn1] at hm1 ⊢
  rw [← hn2] at hm2 ⊢
  have HR1 := hid hr1; have HR2 := hid hr2; have HN1 := hid hn1; have HN2 := hid hn2
  clear h1 h2 hr1 hr2 hn1 hn2
  by_cases hne : n1 = n2
  · subst hne
    go_enter Try.func17, Try.ntmps17
    go_wp2
    go_loopw [5] (fun i wr => ∃ n : Nat, n ≤ n1 ∧ i = .int .i64 n ∧ Hid (l1.take n = l2.take n) ∧ Hid (Below w.heap.size w wr)) (fun i _ => n1 - (intOf i).toNat)
    case atStart => exact ⟨0, by omega, rfl, hid (by simp), hid (Below.refl _ _)⟩
    case round =>
      obtain ⟨n, hn, rfl, heq, hbl⟩ := hrel
      by_cases hlt : n < n1
      · obtain ⟨f, hf⟩ := get_lt (l := l1) (i := n) (by rw [← HN1.out]; exact hlt)
        obtain ⟨g, hg⟩ := get_lt (l := l2) (i := n) (by rw [← HN2.out]; exact hlt)
        obtain ⟨b, o, rfl, hb, x0, x1, x2, x3, x4, x5, x6, x7⟩ := (HR1.out.up hbl.out).at8 hf
        obtain ⟨b', o', rfl, hb', y0, y1, y2, y3, y4, y5, y6, y7⟩ := (HR2.out.up hbl.out).at8 hg
        have hpe := fun w => fact_eq f g w
        have hg60 : Try.prog.eqGuardType Try.prog.depth 28 = false := by kernel_rfl
        have t1 := take_snoc hf; have t2 := take_snoc hg
        cases hd : decide (f = g) with
        | true =>
          rw [hd] at hpe
          have he := of_decide_eq_true hd
          have HE := hid (show l1.take (n + 1) = l2.take (n + 1) by rw [t1, t2, heq.out, he])
          clear heq hf hg hb hb' t1 t2 hd he
          go_wp2_with fail
          go_quiet (fail)
          have HB := hid (below_t hbl.out (below_drewN nq))
          clear hbl
          go_wp2
          go_roundw
          case rel => exact ⟨n + 1, by omega, by go_num, HE, HB⟩
          case measure => simp [intOf]; omega
        | false =>
          rw [hd] at hpe
          have he := of_decide_eq_false hd
          have HE := hid (show decide (l1 = l2) = false from decide_eq_false (fun e => he (by rw [e] at hf; rw [hf] at hg; cases hg; rfl)))
          clear heq hf hg hb hb' t1 t2 hd he
          go_wp2_with fail
          go_quiet (fail)
          have HB := hid (below_t hbl.out (below_drewN nq))
          clear hbl
          go_wp2
          go_ret
          exact ⟨by rw [HE.out]; rfl, HB.out⟩
      · have HE := hid (show decide (l1 = l2) = true from decide_eq_true (by
          have h := heq.out
          rw [show n = n1 by omega] at h
          rwa [HN1.out, List.take_length, ← HN1.out, HN2.out, List.take_length] at h))
        clear heq
        go_wp2
        go_ret
        exact ⟨by rw [HE.out]; rfl, hbl.out⟩
  · have HE := hid (show decide (l1 = l2) = false from decide_eq_false (fun e => hne (by rw [HN1.out, HN2.out, e])))
    have hb1 : ((n1 : Int) != (n2 : Int)) = true := by simp; omega
    go_enter Try.func17, Try.ntmps17
    go_wp2
    go_ret
    exact ⟨by rw [HE.out]; rfl, Below.refl _ _⟩
end Go.Proofs.Ytbejjindkcjecaa

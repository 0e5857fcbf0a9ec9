/- Contract: ref.SamePoints. -/
import Derived.Test.YtbejjindkcjecaaWup
namespace Go.Proofs.Ytbejjindkcjecaa
open Go.RowKit Go
set_option linter.unusedVariables false
set_option linter.unusedSimpArgs false
set_option maxRecDepth 100000 in
set_option maxHeartbeats 4000000 in
theorem samePoints_any (v1 v2 : Value) (l1 l2 : List (Int × Int)) (w : World) (h1 : PS w v1 l1) (h2 : PS w v2 l2) :
    Calls Try.prog 20 #[v1, v2] w fun e w' => e = .returned (.bool (decide (l1 = l2))) ∧ Below w.heap.size w w' := by
  obtain ⟨p1, c1, rfl⟩ := h1.form
  obtain ⟨p2, c2, rfl⟩ := h2.form
  have hr1 : PR p1 w.heap.size l1 w := h1.gr 2 pc_len (by omega)
  have hr2 : PR p2 w.heap.size l2 w := h2.gr 2 pc_len (by omega)
  have hm1 := h1.len; have hm2 := h2.len
  unfold maxLen at hm1 hm2
  obtain ⟨n1, hn1⟩ : ∃ n, n = l1.length := ⟨_, rfl⟩
  obtain ⟨n2, hn2⟩ : ∃ n, n = l2.length := ⟨_, rfl⟩
  rw [← hn1] at hm1 ⊢
  rw [← hn2] at hm2 ⊢
  have HR1 := hid hr1; have HR2 := hid hr2; have HN1 := hid hn1; have HN2 := hid hn2
  clear h1 h2 hr1 hr2 hn1 hn2
  by_cases hne : n1 = n2
  · subst hne
    go_enter Try.func20, Try.ntmps20
    go_wp2
    go_loopw [5] (fun i wr => ∃ n : Nat, n ≤ n1 ∧ i = .int .i64 n ∧ Hid (l1.take n = l2.take n) ∧ Hid (Below w.heap.size w wr)) (fun i _ => n1 - (intOf i).toNat)
    case atStart => exact ⟨0, by omega, rfl, hid (by simp), hid (Below.refl _ _)⟩
    case round =>
      obtain ⟨n, hn, rfl, heq, hbl⟩ := hrel
      by_cases hlt : n < n1
      · obtain ⟨f, hf⟩ := get_lt (l := l1) (i := n) (by rw [← HN1.out]; exact hlt)
        obtain ⟨g, hg⟩ := get_lt (l := l2) (i := n) (by rw [← HN2.out]; exact hlt)
        obtain ⟨b, o, rfl, hb, x0, x1⟩ := (HR1.out.up hbl.out).at2 hf
        obtain ⟨b', o', rfl, hb', y0, y1⟩ := (HR2.out.up hbl.out).at2 hg
        have hpe := fun w => pt_eq f g w
        have hg60 : Try.prog.eqGuardType Try.prog.depth 60 = false := by kernel_rfl
        have t1 := take_snoc hf; have t2 := take_snoc hg
        cases hd : decide (f = g) with
        | true =>
          rw [hd] at hpe
          have he := of_decide_eq_true hd
          have HE := hid (show l1.take (n + 1) = l2.take (n + 1) by rw [t1, t2, heq.out, he])
          clear heq hf hg hb hb' t1 t2 hd he
          go_wp2_with fail
          go_quiet (fail)
          have HB := hid (below_t hbl.out (below_drewN nq))
          clear hbl
          go_wp2
          go_roundw
          case rel => exact ⟨n + 1, by omega, by go_num, HE, HB⟩
          case measure => simp [intOf]; omega
        | false =>
          rw [hd] at hpe
          have he := of_decide_eq_false hd
          have HE := hid (show decide (l1 = l2) = false from decide_eq_false (fun e => he (by rw [e] at hf; rw [hf] at hg; cases hg; rfl)))
          clear heq hf hg hb hb' t1 t2 hd he
          go_wp2_with fail
          go_quiet (fail)
          have HB := hid (below_t hbl.out (below_drewN nq))
          clear hbl
          go_wp2
          go_ret
          exact ⟨by rw [HE.out]; rfl, HB.out⟩
      · have HE := hid (show decide (l1 = l2) = true from decide_eq_true (by
          have h := heq.out
          rwa [show n = l1.length by have := HN1.out; omega, List.take_length, show l1.length = l2.length by rw [← HN1.out, HN2.out], List.take_length] at h))
        clear heq
        go_wp2
        go_ret
        exact ⟨by rw [HE.out]; rfl, hbl.out⟩
  · have HE := hid (show decide (l1 = l2) = false from decide_eq_false (fun e => hne (by rw [HN1.out, HN2.out, e])))
    have hb1 : ((n1 : Int) != (n2 : Int)) = true := by simp; omega
    go_enter Try.func20, Try.ntmps20
    go_wp2
    go_ret
    exact ⟨by rw [HE.out]; rfl, Below.refl _ _⟩
/-- a key is appended to a row of one's own -/
theorem app_key' {w : World} {base : Nat} {v : Value} {l : List KE} (h : KO w base v l) (x : KE) (hn : l.length ≤ 1000000) (hb : base ≤ w.heap.size) :
    ∃ g cap w', (Builtin.append_ #[37, 37] 37 #[v, .slice (some ⟨w.heap.size, 0, none⟩) 1 1]).run Try.prog (w.alloc (.cells #[.int .i64 x.1, .int .i64 x.2.1, .int .i64 x.2.2] 24)) = .ok (.slice (some ⟨g, 0, none⟩) (l.length + 1) cap) w' ∧
      KO w' base (.slice (some ⟨g, 0, none⟩) (l.length + 1) cap) (l ++ [x]) ∧ Below base w w' :=
  app_one' (t := 37) Try.underlying37 info24 kc_len (by omega) (by omega) kc_one h x hn hb
theorem app_key2 {w : World} {base : Nat} {v : Value} {l : List KE} (h : KO w base v l) (x : KE) (hn : l.length ≤ 1000000) (hb : base ≤ w.heap.size) :
    ∃ v' w', (Builtin.append_ #[37, 37] 37 #[v, .slice (some ⟨w.heap.size, 0, none⟩) 1 1]).run Try.prog (w.alloc (.cells #[.int .i64 x.1, .int .i64 x.2.1, .int .i64 x.2.2] 24)) = .ok v' w' ∧ KO w' base v' (l ++ [x]) ∧ Below base w w' := by
  obtain ⟨g, c, w', h1, h2, h3⟩ := app_key' h x hn hb
  exact ⟨_, w', h1, h2, h3⟩
theorem ko_lit {W : World} {B base : Nat} {k : KE} (hB : Blk W B 24 (kc k)) (h : base ≤ B) : KO W base (.slice (some ⟨B, 0, none⟩) 1 1) [k] :=
  ⟨rfl, .inr ⟨B, 1, (kc k).toArray, rfl, h, hB, Nat.le_refl _, by simp [maxLen], rfl, rfl⟩⟩
end Go.Proofs.Ytbejjindkcjecaa

/- Contracts: Upto; slices.Equal of points. -/
import Derived.Test.YtbejjindkcjecaaM
import Derived.BigQuiet
namespace Go.Proofs.Ytbejjindkcjecaa
open Go.RowKit Go
set_option linter.unusedVariables false
set_option linter.unusedSimpArgs false
theorem upto_snoc (q : Int) (l : List FA) (f : FA) : F7.upto q (l ++ [f]) = F7.upto q l ++ (if f.known ≤ q then [f] else []) := by
  unfold F7.upto; rw [List.filter_append, List.filter_cons, List.filter_nil]; by_cases h : f.known ≤ q <;> simp [h]
theorem upto_length (q : Int) (l : List FA) : (F7.upto q l).length ≤ l.length := List.length_filter_le _ _
set_option maxRecDepth 100000 in
set_option maxHeartbeats 4000000 in
theorem upto_any (v : Value) (L : List FA) (q : Int) (w : World) (hv : FS w v L) (hL : L.length ≤ 1000000) :
    Calls Try.prog 28 #[v, .int .i64 q] w fun e w' => ∃ u, e = .returned u ∧ FO w' w.heap.size u (F7.upto q L) ∧ Below w.heap.size w w' := by
  obtain ⟨p, c, rfl⟩ := hv.form
  have hr : FR p w.heap.size L w := hv.gr 8 fc_len (by omega)
  obtain ⟨m, hn⟩ : ∃ m, m = L.length := ⟨_, rfl⟩
  rw [← hn] at hL ⊢
  have HR := hid hr; have HN := hid hn
  clear hr hv hn
  go_enter Try.func28, Try.ntmps28
  go_wp2
  go_loopw [9, 4] (fun i u wr => ∃ n : Nat, n ≤ m ∧ i = .int .i64 n ∧ Hid (FO wr w.heap.size u (F7.upto q (L.take n))) ∧ Hid (Below w.heap.size w wr)) (fun i _ _ => m - (intOf i).toNat)
  case atStart => exact ⟨0, by omega, rfl, hid (go_nil _ _), hid (Below.refl _ _)⟩
  case round =>
    obtain ⟨n, hn, rfl, ho, hbl⟩ := hrel
    by_cases hlt : n < m
    · obtain ⟨f, hf⟩ := get_lt (l := L) (i := n) (by rw [← HN.out]; exact hlt)
      obtain ⟨b, o, rfl, hb, x0, x1, x2, x3, x4, x5, x6, x7⟩ := (HR.out.up hbl.out).at8 hf
      have hts := upto_snoc q (L.take n) f
      rw [← take_snoc hf] at hts
      have al := hbl.out.alloc hbl.out.size (.cells #[.int .i64 f.kind, .int .i64 f.subj, .int .i64 f.obj, .int .i64 f.val, .int .i64 f.frm, .int .i64 f.to, .int .i64 f.known, .int .i64 f.no] 28)
      by_cases hq : f.known ≤ q
      · rw [if_pos hq] at hts
        obtain ⟨g, cap, w3, happ, ho3, hb3⟩ := app_fact' (w := wr.alloc (.cells #[.int .i64 f.kind, .int .i64 f.subj, .int .i64 f.obj, .int .i64 f.val, .int .i64 f.frm, .int .i64 f.to, .int .i64 f.known, .int .i64 f.no] 28)) (ho.out.alloc _) f (by
          have h1 := upto_length q (L.take n)
          have h2 : (L.take n).length ≤ n := by rw [List.length_take]; omega
          omega) al.size
        rw [← hts] at ho3
        simp only [World.size_alloc] at happ
        have HAPP := hid happ; have HO := hid ho3; have HB3 := hid (al.trans hb3)
        clear happ ho3 hb3 hts ho hbl hf hb al
        go_wp2_with (at_builtin; refine wpList_append_run rfl (.tmp 17) (.tmp 19) 22 22 rfl _ _ _ ?_ ?_ HAPP.out ?_; exact rfl; exact rfl)
        go_roundw
        case rel => exact ⟨n + 1, by omega, by go_num, HO, HB3⟩
        case measure => simp [intOf]; omega
      · rw [if_neg hq, List.append_nil] at hts
        rw [← hts] at ho
        have HO := hid (ho.out.alloc (.cells #[.int .i64 f.kind, .int .i64 f.subj, .int .i64 f.obj, .int .i64 f.val, .int .i64 f.frm, .int .i64 f.to, .int .i64 f.known, .int .i64 f.no] 28)); have AL := hid al
        have hqd : decide (f.known ≤ q) = false := decide_eq_false hq
        clear hts ho hbl hf hb al hq
        go_wp2
        go_roundw
        case rel => exact ⟨n + 1, by omega, by go_num, HO, AL⟩
        case measure => simp [intOf]; omega
    · have hd : F7.upto q (L.take n) = F7.upto q L := by rw [show n = L.length by have := HN.out; omega, List.take_length]
      rw [hd] at ho
      clear hd
      go_wp2
      go_ret
      exact ⟨_, rfl, ho.out, hbl.out⟩
/-- a point's cells -/
theorem GR.at2 {p : Option Addr} {n0 : Nat} {l : List (Int × Int)} {W : World} (h : GR pc 2 p n0 l W) {i : Nat} {f : Int × Int} (hi : l[i]? = some f) : ∃ b o, p = some ⟨b, o, none⟩ ∧ b < n0 ∧ W.cell? ⟨b, o + i * 2, none⟩ = some (.int .i64 f.1) ∧ W.cell? ⟨b, o + i * 2 + 1, none⟩ = some (.int .i64 f.2) := by
  obtain ⟨b, o, e, hl, h1⟩ := h i f hi
  exact ⟨b, o, e, hl, h1 0 _ rfl, h1 1 _ rfl⟩
theorem pt_eq (a b : Int × Int) (w : World) : (Op.equalIn 10000 60 (.agg #[.int .i64 a.1, .int .i64 a.2]) (.agg #[.int .i64 b.1, .int .i64 b.2])).run Try.prog w = .ok (decide (a = b)) w := by
  have u3 := Try.underlying3
  have a3 := Try.isAgg3
  have z3 := Try.sizeOf3
  have hS : Try.prog.underlying 60 = some (.struct (Try.prog.fieldsOf 60)) := by kernel_rfl
  have hp : Try.prog.stoodInHeld 60 = false := by kernel_rfl
  rw [show (10000 : Nat) = 9999 + 1 from rfl, run_equalIn_agg w 9999 60 _ _ hS hp]
  simp only [Program.fieldsOf, Try.underlying60]
  go_simp
  obtain ⟨a1, a2⟩ := a
  obtain ⟨b1, b2⟩ := b
  by_cases h1 : a1 = b1 <;> by_cases h2 : a2 = b2 <;> simp [h1, h2]
theorem below_drewN {w : World} (q : Nat) : Below w.heap.size w (w.drewN q) := ⟨rfl, rfl, rfl, Nat.le_refl _, fun _ _ => rfl⟩
set_option maxRecDepth 100000 in
set_option maxHeartbeats 4000000 in
theorem equal_any (v1 v2 : Value) (l1 l2 : List (Int × Int)) (w : World) (h1 : PS w v1 l1) (h2 : PS w v2 l2) :
    Calls Try.prog 47 #[v1, v2] w fun e w' => e = .returned (.bool (decide (l1 = l2))) ∧ Below w.heap.size w w' := by
  obtain ⟨p1, c1, rfl⟩ := h1.form
  obtain ⟨p2, c2, rfl⟩ := h2.form
  have hr1 : PR p1 w.heap.size l1 w := h1.gr 2 pc_len (by omega)
  have hr2 : PR p2 w.heap.size l2 w := h2.gr 2 pc_len (by omega)
  have hm1 := h1.len; have hm2 := h2.len
  unfold maxLen at hm1 hm2
  obtain ⟨n1, hn1⟩ : ∃ n, n = l1.length := ⟨_, rfl⟩
  obtain ⟨n2, hn2⟩ : ∃ n, n = l2.length := ⟨_, rfl⟩
  rw [← hn1] at hm1 ⊢
  rw [← hn2] at hm2 ⊢
  have HR1 := hid hr1; have HR2 := hid hr2; have HN1 := hid hn1; have HN2 := hid hn2
  clear h1 h2 hr1 hr2 hn1 hn2
  by_cases hne : n1 = n2
  · subst hne
    go_enter Try.func47, Try.ntmps47
    go_wp2
    go_loopw [13] (fun i wr => ∃ n : Nat, n ≤ n1 ∧ i = .int .i64 n ∧ Hid (l1.take n = l2.take n) ∧ Hid (Below w.heap.size w wr)) (fun i _ => n1 - (intOf i).toNat)
    case atStart => exact ⟨0, by omega, rfl, hid (by simp), hid (Below.refl _ _)⟩
    case round =>
      obtain ⟨n, hn, rfl, heq, hbl⟩ := hrel
      by_cases hlt : n < n1
      · obtain ⟨f, hf⟩ := get_lt (l := l1) (i := n) (by rw [← HN1.out]; exact hlt)
        obtain ⟨g, hg⟩ := get_lt (l := l2) (i := n) (by rw [← HN2.out]; exact hlt)
        obtain ⟨b, o, rfl, hb, x0, x1⟩ := (HR1.out.up hbl.out).at2 hf
        obtain ⟨b', o', rfl, hb', y0, y1⟩ := (HR2.out.up hbl.out).at2 hg
        have hpe := fun w => pt_eq f g w
        have hg60 : Try.prog.eqGuardType Try.prog.depth 60 = false := by kernel_rfl
        have t1 := take_snoc hf; have t2 := take_snoc hg
        cases hd : decide (f = g) with
        | true =>
          rw [hd] at hpe
          have he := of_decide_eq_true hd
          have HE := hid (show l1.take (n + 1) = l2.take (n + 1) by rw [t1, t2, heq.out, he])
          clear heq hf hg hb hb' t1 t2 hd he
          go_wp2_with fail
          go_quiet (fail)
          have HB := hid (below_t hbl.out (below_drewN nq))
          clear hbl
          go_wp2
          go_roundw
          case rel => exact ⟨n + 1, by omega, by go_num, HE, HB⟩
          case measure => simp [intOf]; omega
        | false =>
          rw [hd] at hpe
          have he := of_decide_eq_false hd
          have HE := hid (show decide (l1 = l2) = false from decide_eq_false (fun e => he (by
            subst e; rw [hf] at hg; cases hg; rfl)))
          clear heq hf hg hb hb' t1 t2 hd he
          go_wp2_with fail
          go_quiet (fail)
          have HB := hid (below_t hbl.out (below_drewN nq))
          clear hbl
          go_wp2
          go_ret
          exact ⟨by rw [HE.out]; rfl, HB.out⟩
      · have HE := hid (show decide (l1 = l2) = true from decide_eq_true (by
          have h := heq.out
          rwa [show n = l1.length by have := HN1.out; omega, List.take_length, show l1.length = l2.length by rw [← HN1.out, HN2.out], List.take_length] at h))
        go_wp2
        go_ret
        exact ⟨by rw [HE.out]; rfl, hbl.out⟩
  · have HE := hid (show decide (l1 = l2) = false from decide_eq_false (fun e => hne (by rw [HN1.out, HN2.out, e])))
    have hb1 : ((n1 : Int) != (n2 : Int)) = true := by simp; omega
    go_enter Try.func47, Try.ntmps47
    go_wp2
    go_ret
    exact ⟨by rw [HE.out]; rfl, Below.refl _ _⟩
end Go.Proofs.Ytbejjindkcjecaa

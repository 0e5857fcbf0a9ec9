/- Contracts of the reference: IsSpan, Check, Has, Count. -/
import Derived.Test.YtnbhihjhpomenaaRh
namespace Go.Proofs.Ytnbhihjhpomenaa
open Go.RowKit Go
set_option linter.unusedVariables false
set_option linter.unusedSimpArgs false
theorem wrap_i64 (n : Int) (h0 : -9223372036854775808 ≤ n) (h1 : n ≤ 9223372036854775807) : IntKind.i64.wrap n = n := by simp [IntKind.wrap, IntKind.bits, IntKind.signed]; omega
/-- a span within the limits -/
def isp (f t : Int) : Bool := decide (0 ≤ f ∧ f < t ∧ t ≤ 1024)
theorem IsSpan_any (f t : Int) (w : World) : Calls Try.prog 26 #[SV f t] w fun e w' => e = .returned (.bool (isp f t)) ∧ w' = w.alloc (.cells #[.int .i64 f, .int .i64 t] 35) := by
  have hcells : (w.alloc (.cells #[.int .i64 f, .int .i64 t] 35)).cell? ⟨w.heap.size, 0, none⟩ = some (.int .i64 f) ∧ (w.alloc (.cells #[.int .i64 f, .int .i64 t] 35)).cell? ⟨w.heap.size, 1, none⟩ = some (.int .i64 t) := pairs_new w _ _ 35
  obtain ⟨c0, c1⟩ := hcells
  rcases (by omega : f < 0 ∨ (0 ≤ f ∧ t ≤ f) ∨ (0 ≤ f ∧ f < t ∧ 1024 < t) ∨ (0 ≤ f ∧ f < t ∧ t ≤ 1024)) with h | ⟨h, h2⟩ | ⟨h, h2, h3⟩ | ⟨h, h2, h3⟩
  · have HI := hid (show isp f t = false from decide_eq_false (by omega))
    go_enter Try.func26, Try.ntmps26
    go_wp2
    go_ret
    exact ⟨by rw [HI.out]; rfl, rfl⟩
  · have HI := hid (show isp f t = false from decide_eq_false (by omega))
    go_enter Try.func26, Try.ntmps26
    go_wp2
    go_ret
    exact ⟨by rw [HI.out]; rfl, rfl⟩
  · have HI := hid (show isp f t = false from decide_eq_false (by omega))
    have hd : decide (t ≤ 1024) = false := by simp; omega
    go_enter Try.func26, Try.ntmps26
    go_wp2
    go_ret
    exact ⟨by rw [HI.out]; rfl, rfl⟩
  · have HI := hid (show isp f t = true from decide_eq_true (by omega))
    go_enter Try.func26, Try.ntmps26
    go_wp2
    go_ret
    exact ⟨by rw [HI.out]; rfl, rfl⟩
set_option maxRecDepth 100000 in
theorem rHas_any (v : Value) (l : Sp) (x : Int) (w : World) (hv : SS w v l) :
    Calls Try.prog 17 #[v, .int .i64 x] w fun e w' => e = .returned (.bool (decide (T.has l x))) ∧ Below w.heap.size w w' := by
  obtain ⟨p, cap, rfl⟩ := hv.form
  have hr := hv.rs
  have hm := hv.len
  unfold maxLen at hm
  obtain ⟨n, hn⟩ : ∃ n, n = l.length := ⟨_, rfl⟩
  rw [← hn] at hm ⊢
  have HR := hid hr; have HN := hid hn
  clear hr hv hn
  go_enter Try.func17, Try.ntmps17
  go_wp2
  go_loopw [5] (fun i w1 => ∃ k : Nat, k ≤ n ∧ i = .int .i64 k ∧ w1 = w ∧ Hid (¬ T.has (l.take k) x)) (fun i _ => n - (intOf i).toNat)
  case atStart => exact ⟨0, by omega, rfl, rfl, hid (by simp [T.has_nil])⟩
  case round =>
    obtain ⟨k, hk, rfl, rfl, hno⟩ := hrel
    by_cases hlt : k < n
    · obtain ⟨f, t, hi⟩ := get_lt (l := l) (i := k) (by rw [← HN.out]; exact hlt)
      obtain ⟨b, o, rfl, hab, hc1, hc2⟩ := HR.out k f t hi
      have HI := hid hi
      clear hi hab
      have hyes : f ≤ x → x < t → T.has l x := fun h1 h2 => ⟨(f, t), List.mem_of_getElem? HI.out, h1, h2⟩
      have hnext : ¬ (f ≤ x ∧ x < t) → ¬ T.has (l.take (k + 1)) x := fun h h2 => by
        rw [take_snoc HI.out, T.has_append, T.has_cons] at h2
        rcases h2 with h2 | h2 | h2
        · exact hno.out h2
        · exact h h2
        · exact T.has_nil x h2
      have HY := hid hyes; have HX := hid hnext
      clear hyes hnext hno
      rcases (by omega : (f ≤ x ∧ x < t) ∨ (f ≤ x ∧ t ≤ x) ∨ x < f) with ⟨h1, h2⟩ | ⟨h1, h2⟩ | h1
      · have hd : decide (T.has l x) = true := by simpa using HY.out h1 h2
        have HD := hid hd; clear hd
        go_wp2
        go_ret
        exact ⟨by rw [HD.out]; rfl, Below.refl _ _⟩
      · have hd := HX.out (by omega)
        have HD := hid hd; clear hd
        go_wp2
        go_roundw
        case rel => exact ⟨k + 1, by omega, by go_num, trivial, HD⟩
        case measure => simp [intOf]; omega
      · have hd := HX.out (by omega)
        have HD := hid hd; clear hd
        go_wp2
        go_roundw
        case rel => exact ⟨k + 1, by omega, by go_num, trivial, HD⟩
        case measure => simp [intOf]; omega
    · have hd : decide (T.has l x) = false := by
        have h := hno.out
        rw [show k = l.length by have := HN.out; omega, List.take_length] at h
        simpa using h
      have HD := hid hd
      clear hd hno
      go_wp2
      go_ret
      exact ⟨by rw [HD.out]; rfl, Below.refl _ _⟩
set_option maxRecDepth 100000 in
set_option maxHeartbeats 4000000 in
theorem rCheck_any (v : Value) (l : Sp) (w : World) (hv : SS w v l) :
    Calls Try.prog 15 #[v] w fun e w' => e = .returned (.int .i64 (chk l)) ∧ Below w.heap.size w w' := by
  obtain ⟨p, cap, rfl⟩ := hv.form
  have hr := hv.rs
  have hm := hv.len
  unfold maxLen at hm
  obtain ⟨n, hn⟩ : ∃ n, n = l.length := ⟨_, rfl⟩
  rw [← hn] at hm ⊢
  have HR := hid hr; have HN := hid hn
  clear hr hv hn
  go_enter Try.func15, Try.ntmps15
  go_wp2
  go_loopw [3] (fun i w1 => ∃ (k : Nat) (m : Int), k ≤ n ∧ i = .int .i64 k ∧ Below w.heap.size w w1 ∧ Hid ((k = 0 ∧ m = -1) ∨ (0 < k ∧ 0 ≤ m ∧ ∃ g, l[k - 1]? = some (g, m))) ∧ Hid (T.ok 1024 (-1) l ↔ T.ok 1024 m (l.drop k))) (fun i _ => n - (intOf i).toNat)
  case atStart => exact ⟨0, -1, by omega, rfl, Below.refl _ _, hid (.inl ⟨rfl, rfl⟩), hid (by simp)⟩
  case round =>
    obtain ⟨k, m, hk, rfl, hb, hprev, hok⟩ := hrel
    by_cases hlt : k < n
    · obtain ⟨f, t, hi⟩ := get_lt (l := l) (i := k) (by rw [← HN.out]; exact hlt)
      have hrr := HR.out.up hb
      obtain ⟨b, o, rfl, hab, hc1, hc2⟩ := hrr k f t hi
      have HB := hid hb
      -- FILL
      have hstep : T.ok 1024 (-1) l ↔ (m < f ∧ f < t ∧ t ≤ 1024 ∧ T.ok 1024 t (l.drop (k + 1))) := by rw [hok.out, drop_get hi]; rfl
      have HO := hid hstep; have HI := hid hi
      have HBL := hid (show b < wr.heap.size from Nat.lt_of_lt_of_le hab hb.size)
      rcases hprev.out with ⟨rfl, rfl⟩ | ⟨hk0, hm0, g, hg⟩
      · rw [Nat.zero_mul, Nat.add_zero] at hc1 hc2
        rw [show ((0 : Nat) : Int) = 0 from rfl]
        rcases tf (isp f t) with his | his
        · have hst := of_decide_eq_true his
          have HT0 := hid (show 0 ≤ t by omega)
          have HD : Hid (T.ok 1024 (-1) l ↔ T.ok 1024 t (l.drop (0 + 1))) := hid (by
            rw [HO.out]
            constructor
            · rintro ⟨_, _, _, h⟩; exact h
            · intro h; exact ⟨by omega, by omega, by omega, h⟩)
          have HSP := hid his
          clear hrr hab hstep hok hprev hst his hb hi
          go_wp2
          refine wa_start (fun W => Below wr.heap.size wr W) (by kernel_rfl) (Below.drew (Below.refl _ _)) ?_
          have HS := hid (Below.drew (Below.refl wr.heap.size wr))
          refine wa_tkw 0 (some 10) (.slice (some ⟨b, o, none⟩) n cap) rfl (by kernel_rfl) rfl rfl HS.out (fun w h0 => by go_simp) ?_
          try simp only [Act.put, List.setIfInBounds_toArray, List.set_cons_zero, List.set_cons_succ]
          refine wa_tkw 1 (some 11) (.int .i64 0) rfl (by kernel_rfl) rfl rfl HS.out (fun w h0 => by go_simp) ?_
          try simp only [Act.put, List.setIfInBounds_toArray, List.set_cons_zero, List.set_cons_succ]
          refine wa_tkw 2 (some 12) (.pointer (some ⟨b, o, none⟩)) rfl (by kernel_rfl) rfl rfl HS.out (fun w h0 => by go_simp) ?_
          try simp only [Act.put, List.setIfInBounds_toArray, List.set_cons_zero, List.set_cons_succ]
          refine wa_tkw 3 (some 13) (SV f t) rfl (by kernel_rfl) rfl rfl HS.out (fun w h0 => by have q1 := (h0.cell (p := ⟨b, o, none⟩) HBL.out).trans hc1; have q2 := (h0.cell (p := ⟨b, o + 1, none⟩) HBL.out).trans hc2; go_simp) ?_
          try simp only [Act.put, List.setIfInBounds_toArray, List.set_cons_zero, List.set_cons_succ]
          refine wa_branch [4] (by kernel_rfl) rfl ?_
          refine ar_opw 4 rfl rfl (fun K hK => ?_) ar_nil
          go_simp
          go_at_call 26
          refine (IsSpan_any f t _).mono ?_
          rw [HSP.out]
          rintro e w5 ⟨rfl, hw5⟩
          have hS5 : Below wr.heap.size wr w5 := by rw [hw5]; exact (Below.drew (Below.refl _ _)).alloc (Nat.le_refl _) _
          replace HS := hid hS5
          clear hw5 hS5
          go_simp
          refine hK _ _ HS.out ?_
          clear hK K
          refine wa_tkw 5 (some 15) (.bool false) rfl (by kernel_rfl) rfl rfl HS.out (fun w h0 => by go_simp) ?_
          try simp only [Act.put, List.setIfInBounds_toArray, List.set_cons_zero, List.set_cons_succ]
          refine wa_tkw 6 (some 16) (.bool false) rfl (by kernel_rfl) rfl rfl HS.out (fun w h0 => by go_simp) ?_
          try simp only [Act.put, List.setIfInBounds_toArray, List.set_cons_zero, List.set_cons_succ]
          refine wa_tkw 7 (some 17) (.int .i64 0) rfl (by kernel_rfl) rfl rfl HS.out (fun w h0 => by go_simp) ?_
          try simp only [Act.put, List.setIfInBounds_toArray, List.set_cons_zero, List.set_cons_succ]
          refine wa_tkw 8 (some 18) (.bool false) rfl (by kernel_rfl) rfl rfl HS.out (fun w h0 => by go_simp) ?_
          try simp only [Act.put, List.setIfInBounds_toArray, List.set_cons_zero, List.set_cons_succ]
          refine wa_tkw 9 (some 19) (.bool false) rfl (by kernel_rfl) rfl rfl HS.out (fun w h0 => by go_simp) ?_
          try simp only [Act.put, List.setIfInBounds_toArray, List.set_cons_zero, List.set_cons_succ]
          refine wa_sk 10 (some 20) rfl (by kernel_rfl) rfl rfl HS.out ?_
          try simp only [Act.put, List.setIfInBounds_toArray, List.set_cons_zero, List.set_cons_succ]
          refine wa_sk 11 (some 21) rfl (by kernel_rfl) rfl rfl HS.out ?_
          try simp only [Act.put, List.setIfInBounds_toArray, List.set_cons_zero, List.set_cons_succ]
          refine wa_sk 12 (some 22) rfl (by kernel_rfl) rfl rfl HS.out ?_
          try simp only [Act.put, List.setIfInBounds_toArray, List.set_cons_zero, List.set_cons_succ]
          refine wa_sk 13 (some 23) rfl (by kernel_rfl) rfl rfl HS.out ?_
          try simp only [Act.put, List.setIfInBounds_toArray, List.set_cons_zero, List.set_cons_succ]
          refine wa_sk 14 (some 24) rfl (by kernel_rfl) rfl rfl HS.out ?_
          try simp only [Act.put, List.setIfInBounds_toArray, List.set_cons_zero, List.set_cons_succ]
          refine wa_sk 15 (some 25) rfl (by kernel_rfl) rfl rfl HS.out ?_
          try simp only [Act.put, List.setIfInBounds_toArray, List.set_cons_zero, List.set_cons_succ]
          refine wa_sk 16 (some 26) rfl (by kernel_rfl) rfl rfl HS.out ?_
          try simp only [Act.put, List.setIfInBounds_toArray, List.set_cons_zero, List.set_cons_succ]
          refine wa_sk 17 (some 27) rfl (by kernel_rfl) rfl rfl HS.out ?_
          try simp only [Act.put, List.setIfInBounds_toArray, List.set_cons_zero, List.set_cons_succ]
          refine wa_sk 18 (some 28) rfl (by kernel_rfl) rfl rfl HS.out ?_
          try simp only [Act.put, List.setIfInBounds_toArray, List.set_cons_zero, List.set_cons_succ]
          refine wa_sk 19 (some 29) rfl (by kernel_rfl) rfl rfl HS.out ?_
          try simp only [Act.put, List.setIfInBounds_toArray, List.set_cons_zero, List.set_cons_succ]
          refine wa_sk 20 (some 30) rfl (by kernel_rfl) rfl rfl HS.out ?_
          try simp only [Act.put, List.setIfInBounds_toArray, List.set_cons_zero, List.set_cons_succ]
          refine wa_sk 21 (some 31) rfl (by kernel_rfl) rfl rfl HS.out ?_
          try simp only [Act.put, List.setIfInBounds_toArray, List.set_cons_zero, List.set_cons_succ]
          refine wa_tkw 22 (some 32) (.bool false) rfl (by kernel_rfl) rfl rfl HS.out (fun w h0 => by go_simp) ?_
          try simp only [Act.put, List.setIfInBounds_toArray, List.set_cons_zero, List.set_cons_succ]
          refine wa_tkw 23 (some 33) (.bool false) rfl (by kernel_rfl) rfl rfl HS.out (fun w h0 => by go_simp) ?_
          try simp only [Act.put, List.setIfInBounds_toArray, List.set_cons_zero, List.set_cons_succ]
          refine wa_done (by kernel_rfl) ?_
          try simp only [Act.put, List.setIfInBounds_toArray, List.set_cons_zero, List.set_cons_succ]
          have HBN := hid (HB.out.trans (HS.out.mono HB.out.size))
          go_wp2
          go_roundw
          case rel => exact ⟨0 + 1, t, by omega, by go_num, HBN.out, hid (.inr ⟨by omega, HT0.out, f, by simpa using HI.out⟩), HD⟩
          case measure => simp [intOf]; omega
        · have hsf := of_decide_eq_false his
          have HD := hid (chk_no (l := l) (fun h => by have := HO.out.1 h; omega))
          have HSP := hid his
          clear hrr hab hstep hok hprev hsf his hb hi
          go_wp2
          refine wa_start (fun W => Below wr.heap.size wr W) (by kernel_rfl) (Below.drew (Below.refl _ _)) ?_
          have HS := hid (Below.drew (Below.refl wr.heap.size wr))
          refine wa_tkw 0 (some 10) (.slice (some ⟨b, o, none⟩) n cap) rfl (by kernel_rfl) rfl rfl HS.out (fun w h0 => by go_simp) ?_
          try simp only [Act.put, List.setIfInBounds_toArray, List.set_cons_zero, List.set_cons_succ]
          refine wa_tkw 1 (some 11) (.int .i64 0) rfl (by kernel_rfl) rfl rfl HS.out (fun w h0 => by go_simp) ?_
          try simp only [Act.put, List.setIfInBounds_toArray, List.set_cons_zero, List.set_cons_succ]
          refine wa_tkw 2 (some 12) (.pointer (some ⟨b, o, none⟩)) rfl (by kernel_rfl) rfl rfl HS.out (fun w h0 => by go_simp) ?_
          try simp only [Act.put, List.setIfInBounds_toArray, List.set_cons_zero, List.set_cons_succ]
          refine wa_tkw 3 (some 13) (SV f t) rfl (by kernel_rfl) rfl rfl HS.out (fun w h0 => by have q1 := (h0.cell (p := ⟨b, o, none⟩) HBL.out).trans hc1; have q2 := (h0.cell (p := ⟨b, o + 1, none⟩) HBL.out).trans hc2; go_simp) ?_
          try simp only [Act.put, List.setIfInBounds_toArray, List.set_cons_zero, List.set_cons_succ]
          refine wa_branch [4] (by kernel_rfl) rfl ?_
          refine ar_opw 4 rfl rfl (fun K hK => ?_) ar_nil
          go_simp
          go_at_call 26
          refine (IsSpan_any f t _).mono ?_
          rw [HSP.out]
          rintro e w5 ⟨rfl, hw5⟩
          have hS5 : Below wr.heap.size wr w5 := by rw [hw5]; exact (Below.drew (Below.refl _ _)).alloc (Nat.le_refl _) _
          replace HS := hid hS5
          clear hw5 hS5
          go_simp
          refine hK _ _ HS.out ?_
          clear hK K
          refine wa_tkw 5 (some 15) (.bool true) rfl (by kernel_rfl) rfl rfl HS.out (fun w h0 => by go_simp) ?_
          try simp only [Act.put, List.setIfInBounds_toArray, List.set_cons_zero, List.set_cons_succ]
          refine wa_tkw 6 (some 16) (.bool true) rfl (by kernel_rfl) rfl rfl HS.out (fun w h0 => by go_simp) ?_
          try simp only [Act.put, List.setIfInBounds_toArray, List.set_cons_zero, List.set_cons_succ]
          refine wa_sk 7 (some 17) rfl (by kernel_rfl) rfl rfl HS.out ?_
          try simp only [Act.put, List.setIfInBounds_toArray, List.set_cons_zero, List.set_cons_succ]
          refine wa_sk 8 (some 18) rfl (by kernel_rfl) rfl rfl HS.out ?_
          try simp only [Act.put, List.setIfInBounds_toArray, List.set_cons_zero, List.set_cons_succ]
          refine wa_sk 9 (some 19) rfl (by kernel_rfl) rfl rfl HS.out ?_
          try simp only [Act.put, List.setIfInBounds_toArray, List.set_cons_zero, List.set_cons_succ]
          refine wa_sk 10 (some 20) rfl (by kernel_rfl) rfl rfl HS.out ?_
          try simp only [Act.put, List.setIfInBounds_toArray, List.set_cons_zero, List.set_cons_succ]
          refine wa_sk 11 (some 21) rfl (by kernel_rfl) rfl rfl HS.out ?_
          try simp only [Act.put, List.setIfInBounds_toArray, List.set_cons_zero, List.set_cons_succ]
          refine wa_sk 12 (some 22) rfl (by kernel_rfl) rfl rfl HS.out ?_
          try simp only [Act.put, List.setIfInBounds_toArray, List.set_cons_zero, List.set_cons_succ]
          refine wa_sk 13 (some 23) rfl (by kernel_rfl) rfl rfl HS.out ?_
          try simp only [Act.put, List.setIfInBounds_toArray, List.set_cons_zero, List.set_cons_succ]
          refine wa_sk 14 (some 24) rfl (by kernel_rfl) rfl rfl HS.out ?_
          try simp only [Act.put, List.setIfInBounds_toArray, List.set_cons_zero, List.set_cons_succ]
          refine wa_sk 15 (some 25) rfl (by kernel_rfl) rfl rfl HS.out ?_
          try simp only [Act.put, List.setIfInBounds_toArray, List.set_cons_zero, List.set_cons_succ]
          refine wa_sk 16 (some 26) rfl (by kernel_rfl) rfl rfl HS.out ?_
          try simp only [Act.put, List.setIfInBounds_toArray, List.set_cons_zero, List.set_cons_succ]
          refine wa_sk 17 (some 27) rfl (by kernel_rfl) rfl rfl HS.out ?_
          try simp only [Act.put, List.setIfInBounds_toArray, List.set_cons_zero, List.set_cons_succ]
          refine wa_sk 18 (some 28) rfl (by kernel_rfl) rfl rfl HS.out ?_
          try simp only [Act.put, List.setIfInBounds_toArray, List.set_cons_zero, List.set_cons_succ]
          refine wa_sk 19 (some 29) rfl (by kernel_rfl) rfl rfl HS.out ?_
          try simp only [Act.put, List.setIfInBounds_toArray, List.set_cons_zero, List.set_cons_succ]
          refine wa_sk 20 (some 30) rfl (by kernel_rfl) rfl rfl HS.out ?_
          try simp only [Act.put, List.setIfInBounds_toArray, List.set_cons_zero, List.set_cons_succ]
          refine wa_sk 21 (some 31) rfl (by kernel_rfl) rfl rfl HS.out ?_
          try simp only [Act.put, List.setIfInBounds_toArray, List.set_cons_zero, List.set_cons_succ]
          refine wa_sk 22 (some 32) rfl (by kernel_rfl) rfl rfl HS.out ?_
          try simp only [Act.put, List.setIfInBounds_toArray, List.set_cons_zero, List.set_cons_succ]
          refine wa_tkw 23 (some 33) (.bool true) rfl (by kernel_rfl) rfl rfl HS.out (fun w h0 => by go_simp) ?_
          try simp only [Act.put, List.setIfInBounds_toArray, List.set_cons_zero, List.set_cons_succ]
          refine wa_done (by kernel_rfl) ?_
          try simp only [Act.put, List.setIfInBounds_toArray, List.set_cons_zero, List.set_cons_succ]
          have HBN := hid (HB.out.trans (HS.out.mono HB.out.size))
          go_wp2
          go_ret
          exact ⟨by rw [HD.out]; rfl, HBN.out⟩
      · obtain ⟨q, hq⟩ : ∃ q, q = k - 1 := ⟨_, rfl⟩
        rw [← hq] at hg
        obtain ⟨b', o', hbo, _, hp1, hp2⟩ := hrr q g m hg
        obtain ⟨rfl, rfl⟩ : b = b' ∧ o = o' := by simpa using hbo
        have hqk : (k : Int) - 1 = (q : Int) := by omega
        have hqn : q < n := by omega
        have hwq : IntKind.i64.wrap (q : Int) = (q : Int) := wrap_i64 _ (by omega) (by omega)
        rcases tf (isp f t) with his | his
        · have hst := of_decide_eq_true his
          rcases (by omega : m < f ∨ f ≤ m) with hmf | hmf
          · have HT0 := hid (show 0 ≤ t by omega)
            have HD : Hid (T.ok 1024 (-1) l ↔ T.ok 1024 t (l.drop (k + 1))) := hid (by
              rw [HO.out]
              constructor
              · rintro ⟨_, _, _, h⟩; exact h
              · intro h; exact ⟨by omega, by omega, by omega, h⟩)
            have HSP := hid his
            clear hrr hab hstep hok hprev hst his hb hi hg hbo hp1 hq
            go_wp2
            refine wa_start (fun W => Below wr.heap.size wr W) (by kernel_rfl) (Below.drew (Below.refl _ _)) ?_
            have HS := hid (Below.drew (Below.refl wr.heap.size wr))
            refine wa_tkw 0 (some 10) (.slice (some ⟨b, o, none⟩) n cap) rfl (by kernel_rfl) rfl rfl HS.out (fun w h0 => by go_simp) ?_
            try simp only [Act.put, List.setIfInBounds_toArray, List.set_cons_zero, List.set_cons_succ]
            refine wa_tkw 1 (some 11) (.int .i64 (k : Int)) rfl (by kernel_rfl) rfl rfl HS.out (fun w h0 => by go_simp) ?_
            try simp only [Act.put, List.setIfInBounds_toArray, List.set_cons_zero, List.set_cons_succ]
            refine wa_tkw 2 (some 12) (.pointer (some ⟨b, o + k * 2, none⟩)) rfl (by kernel_rfl) rfl rfl HS.out (fun w h0 => by go_simp) ?_
            try simp only [Act.put, List.setIfInBounds_toArray, List.set_cons_zero, List.set_cons_succ]
            refine wa_tkw 3 (some 13) (SV f t) rfl (by kernel_rfl) rfl rfl HS.out (fun w h0 => by have q1 := (h0.cell (p := ⟨b, o + k * 2, none⟩) HBL.out).trans hc1; have q2 := (h0.cell (p := ⟨b, o + k * 2 + 1, none⟩) HBL.out).trans hc2; go_simp) ?_
            try simp only [Act.put, List.setIfInBounds_toArray, List.set_cons_zero, List.set_cons_succ]
            refine wa_branch [4] (by kernel_rfl) rfl ?_
            refine ar_opw 4 rfl rfl (fun K hK => ?_) ar_nil
            go_simp
            go_at_call 26
            refine (IsSpan_any f t _).mono ?_
            rw [HSP.out]
            rintro e w5 ⟨rfl, hw5⟩
            have hS5 : Below wr.heap.size wr w5 := by rw [hw5]; exact (Below.drew (Below.refl _ _)).alloc (Nat.le_refl _) _
            replace HS := hid hS5
            clear hw5 hS5
            go_simp
            refine hK _ _ HS.out ?_
            clear hK K
            refine wa_tkw 5 (some 15) (.bool false) rfl (by kernel_rfl) rfl rfl HS.out (fun w h0 => by go_simp) ?_
            try simp only [Act.put, List.setIfInBounds_toArray, List.set_cons_zero, List.set_cons_succ]
            refine wa_tkw 6 (some 16) (.bool false) rfl (by kernel_rfl) rfl rfl HS.out (fun w h0 => by go_simp) ?_
            try simp only [Act.put, List.setIfInBounds_toArray, List.set_cons_zero, List.set_cons_succ]
            refine wa_tkw 7 (some 17) (.int .i64 (k : Int)) rfl (by kernel_rfl) rfl rfl HS.out (fun w h0 => by go_simp) ?_
            try simp only [Act.put, List.setIfInBounds_toArray, List.set_cons_zero, List.set_cons_succ]
            refine wa_tkw 8 (some 18) (.bool true) rfl (by kernel_rfl) rfl rfl HS.out (fun w h0 => by go_simp) ?_
            try simp only [Act.put, List.setIfInBounds_toArray, List.set_cons_zero, List.set_cons_succ]
            refine wa_tkw 9 (some 19) (.bool true) rfl (by kernel_rfl) rfl rfl HS.out (fun w h0 => by go_simp) ?_
            try simp only [Act.put, List.setIfInBounds_toArray, List.set_cons_zero, List.set_cons_succ]
            refine wa_tkw 10 (some 20) (.slice (some ⟨b, o, none⟩) n cap) rfl (by kernel_rfl) rfl rfl HS.out (fun w h0 => by go_simp) ?_
            try simp only [Act.put, List.setIfInBounds_toArray, List.set_cons_zero, List.set_cons_succ]
            refine wa_tkw 11 (some 21) (.int .i64 (k : Int)) rfl (by kernel_rfl) rfl rfl HS.out (fun w h0 => by go_simp) ?_
            try simp only [Act.put, List.setIfInBounds_toArray, List.set_cons_zero, List.set_cons_succ]
            refine wa_tkw 12 (some 22) (.int .i64 (q : Int)) rfl (by kernel_rfl) rfl rfl HS.out (fun w h0 => by go_simp) ?_
            try simp only [Act.put, List.setIfInBounds_toArray, List.set_cons_zero, List.set_cons_succ]
            refine wa_tkw 13 (some 23) (.pointer (some ⟨b, o + q * 2, none⟩)) rfl (by kernel_rfl) rfl rfl HS.out (fun w h0 => by go_simp) ?_
            try simp only [Act.put, List.setIfInBounds_toArray, List.set_cons_zero, List.set_cons_succ]
            refine wa_tkw 14 (some 24) (.pointer (some ⟨b, o + q * 2 + 1, none⟩)) rfl (by kernel_rfl) rfl rfl HS.out (fun w h0 => by go_simp) ?_
            try simp only [Act.put, List.setIfInBounds_toArray, List.set_cons_zero, List.set_cons_succ]
            refine wa_tkw 15 (some 25) (.int .i64 m) rfl (by kernel_rfl) rfl rfl HS.out (fun w h0 => by have q3 := (h0.cell (p := ⟨b, o + q * 2 + 1, none⟩) HBL.out).trans hp2; go_simp) ?_
            try simp only [Act.put, List.setIfInBounds_toArray, List.set_cons_zero, List.set_cons_succ]
            refine wa_tkw 16 (some 26) (.slice (some ⟨b, o, none⟩) n cap) rfl (by kernel_rfl) rfl rfl HS.out (fun w h0 => by go_simp) ?_
            try simp only [Act.put, List.setIfInBounds_toArray, List.set_cons_zero, List.set_cons_succ]
            refine wa_tkw 17 (some 27) (.int .i64 (k : Int)) rfl (by kernel_rfl) rfl rfl HS.out (fun w h0 => by go_simp) ?_
            try simp only [Act.put, List.setIfInBounds_toArray, List.set_cons_zero, List.set_cons_succ]
            refine wa_tkw 18 (some 28) (.pointer (some ⟨b, o + k * 2, none⟩)) rfl (by kernel_rfl) rfl rfl HS.out (fun w h0 => by go_simp) ?_
            try simp only [Act.put, List.setIfInBounds_toArray, List.set_cons_zero, List.set_cons_succ]
            refine wa_tkw 19 (some 29) (.pointer (some ⟨b, o + k * 2, none⟩)) rfl (by kernel_rfl) rfl rfl HS.out (fun w h0 => by go_simp) ?_
            try simp only [Act.put, List.setIfInBounds_toArray, List.set_cons_zero, List.set_cons_succ]
            refine wa_tkw 20 (some 30) (.int .i64 f) rfl (by kernel_rfl) rfl rfl HS.out (fun w h0 => by have q1 := (h0.cell (p := ⟨b, o + k * 2, none⟩) HBL.out).trans hc1; go_simp) ?_
            try simp only [Act.put, List.setIfInBounds_toArray, List.set_cons_zero, List.set_cons_succ]
            refine wa_tkw 21 (some 31) (.bool false) rfl (by kernel_rfl) rfl rfl HS.out (fun w h0 => by go_simp) ?_
            try simp only [Act.put, List.setIfInBounds_toArray, List.set_cons_zero, List.set_cons_succ]
            refine wa_tkw 22 (some 32) (.bool false) rfl (by kernel_rfl) rfl rfl HS.out (fun w h0 => by go_simp) ?_
            try simp only [Act.put, List.setIfInBounds_toArray, List.set_cons_zero, List.set_cons_succ]
            refine wa_tkw 23 (some 33) (.bool false) rfl (by kernel_rfl) rfl rfl HS.out (fun w h0 => by go_simp) ?_
            try simp only [Act.put, List.setIfInBounds_toArray, List.set_cons_zero, List.set_cons_succ]
            refine wa_done (by kernel_rfl) ?_
            try simp only [Act.put, List.setIfInBounds_toArray, List.set_cons_zero, List.set_cons_succ]
            have HBN := hid (HB.out.trans (HS.out.mono HB.out.size))
            go_wp2
            go_roundw
            case rel => exact ⟨k + 1, t, by omega, by go_num, HBN.out, hid (.inr ⟨by omega, HT0.out, f, by simpa using HI.out⟩), HD⟩
            case measure => simp [intOf]; omega
          · have HD := hid (chk_no (l := l) (fun h => by have := HO.out.1 h; omega))
            have HSP := hid his
            clear hrr hab hstep hok hprev hst his hb hi hg hbo hp1 hq
            go_wp2
            refine wa_start (fun W => Below wr.heap.size wr W) (by kernel_rfl) (Below.drew (Below.refl _ _)) ?_
            have HS := hid (Below.drew (Below.refl wr.heap.size wr))
            refine wa_tkw 0 (some 10) (.slice (some ⟨b, o, none⟩) n cap) rfl (by kernel_rfl) rfl rfl HS.out (fun w h0 => by go_simp) ?_
            try simp only [Act.put, List.setIfInBounds_toArray, List.set_cons_zero, List.set_cons_succ]
            refine wa_tkw 1 (some 11) (.int .i64 (k : Int)) rfl (by kernel_rfl) rfl rfl HS.out (fun w h0 => by go_simp) ?_
            try simp only [Act.put, List.setIfInBounds_toArray, List.set_cons_zero, List.set_cons_succ]
            refine wa_tkw 2 (some 12) (.pointer (some ⟨b, o + k * 2, none⟩)) rfl (by kernel_rfl) rfl rfl HS.out (fun w h0 => by go_simp) ?_
            try simp only [Act.put, List.setIfInBounds_toArray, List.set_cons_zero, List.set_cons_succ]
            refine wa_tkw 3 (some 13) (SV f t) rfl (by kernel_rfl) rfl rfl HS.out (fun w h0 => by have q1 := (h0.cell (p := ⟨b, o + k * 2, none⟩) HBL.out).trans hc1; have q2 := (h0.cell (p := ⟨b, o + k * 2 + 1, none⟩) HBL.out).trans hc2; go_simp) ?_
            try simp only [Act.put, List.setIfInBounds_toArray, List.set_cons_zero, List.set_cons_succ]
            refine wa_branch [4] (by kernel_rfl) rfl ?_
            refine ar_opw 4 rfl rfl (fun K hK => ?_) ar_nil
            go_simp
            go_at_call 26
            refine (IsSpan_any f t _).mono ?_
            rw [HSP.out]
            rintro e w5 ⟨rfl, hw5⟩
            have hS5 : Below wr.heap.size wr w5 := by rw [hw5]; exact (Below.drew (Below.refl _ _)).alloc (Nat.le_refl _) _
            replace HS := hid hS5
            clear hw5 hS5
            go_simp
            refine hK _ _ HS.out ?_
            clear hK K
            refine wa_tkw 5 (some 15) (.bool false) rfl (by kernel_rfl) rfl rfl HS.out (fun w h0 => by go_simp) ?_
            try simp only [Act.put, List.setIfInBounds_toArray, List.set_cons_zero, List.set_cons_succ]
            refine wa_tkw 6 (some 16) (.bool false) rfl (by kernel_rfl) rfl rfl HS.out (fun w h0 => by go_simp) ?_
            try simp only [Act.put, List.setIfInBounds_toArray, List.set_cons_zero, List.set_cons_succ]
            refine wa_tkw 7 (some 17) (.int .i64 (k : Int)) rfl (by kernel_rfl) rfl rfl HS.out (fun w h0 => by go_simp) ?_
            try simp only [Act.put, List.setIfInBounds_toArray, List.set_cons_zero, List.set_cons_succ]
            refine wa_tkw 8 (some 18) (.bool true) rfl (by kernel_rfl) rfl rfl HS.out (fun w h0 => by go_simp) ?_
            try simp only [Act.put, List.setIfInBounds_toArray, List.set_cons_zero, List.set_cons_succ]
            refine wa_tkw 9 (some 19) (.bool true) rfl (by kernel_rfl) rfl rfl HS.out (fun w h0 => by go_simp) ?_
            try simp only [Act.put, List.setIfInBounds_toArray, List.set_cons_zero, List.set_cons_succ]
            refine wa_tkw 10 (some 20) (.slice (some ⟨b, o, none⟩) n cap) rfl (by kernel_rfl) rfl rfl HS.out (fun w h0 => by go_simp) ?_
            try simp only [Act.put, List.setIfInBounds_toArray, List.set_cons_zero, List.set_cons_succ]
            refine wa_tkw 11 (some 21) (.int .i64 (k : Int)) rfl (by kernel_rfl) rfl rfl HS.out (fun w h0 => by go_simp) ?_
            try simp only [Act.put, List.setIfInBounds_toArray, List.set_cons_zero, List.set_cons_succ]
            refine wa_tkw 12 (some 22) (.int .i64 (q : Int)) rfl (by kernel_rfl) rfl rfl HS.out (fun w h0 => by go_simp) ?_
            try simp only [Act.put, List.setIfInBounds_toArray, List.set_cons_zero, List.set_cons_succ]
            refine wa_tkw 13 (some 23) (.pointer (some ⟨b, o + q * 2, none⟩)) rfl (by kernel_rfl) rfl rfl HS.out (fun w h0 => by go_simp) ?_
            try simp only [Act.put, List.setIfInBounds_toArray, List.set_cons_zero, List.set_cons_succ]
            refine wa_tkw 14 (some 24) (.pointer (some ⟨b, o + q * 2 + 1, none⟩)) rfl (by kernel_rfl) rfl rfl HS.out (fun w h0 => by go_simp) ?_
            try simp only [Act.put, List.setIfInBounds_toArray, List.set_cons_zero, List.set_cons_succ]
            refine wa_tkw 15 (some 25) (.int .i64 m) rfl (by kernel_rfl) rfl rfl HS.out (fun w h0 => by have q3 := (h0.cell (p := ⟨b, o + q * 2 + 1, none⟩) HBL.out).trans hp2; go_simp) ?_
            try simp only [Act.put, List.setIfInBounds_toArray, List.set_cons_zero, List.set_cons_succ]
            refine wa_tkw 16 (some 26) (.slice (some ⟨b, o, none⟩) n cap) rfl (by kernel_rfl) rfl rfl HS.out (fun w h0 => by go_simp) ?_
            try simp only [Act.put, List.setIfInBounds_toArray, List.set_cons_zero, List.set_cons_succ]
            refine wa_tkw 17 (some 27) (.int .i64 (k : Int)) rfl (by kernel_rfl) rfl rfl HS.out (fun w h0 => by go_simp) ?_
            try simp only [Act.put, List.setIfInBounds_toArray, List.set_cons_zero, List.set_cons_succ]
            refine wa_tkw 18 (some 28) (.pointer (some ⟨b, o + k * 2, none⟩)) rfl (by kernel_rfl) rfl rfl HS.out (fun w h0 => by go_simp) ?_
            try simp only [Act.put, List.setIfInBounds_toArray, List.set_cons_zero, List.set_cons_succ]
            refine wa_tkw 19 (some 29) (.pointer (some ⟨b, o + k * 2, none⟩)) rfl (by kernel_rfl) rfl rfl HS.out (fun w h0 => by go_simp) ?_
            try simp only [Act.put, List.setIfInBounds_toArray, List.set_cons_zero, List.set_cons_succ]
            refine wa_tkw 20 (some 30) (.int .i64 f) rfl (by kernel_rfl) rfl rfl HS.out (fun w h0 => by have q1 := (h0.cell (p := ⟨b, o + k * 2, none⟩) HBL.out).trans hc1; go_simp) ?_
            try simp only [Act.put, List.setIfInBounds_toArray, List.set_cons_zero, List.set_cons_succ]
            refine wa_tkw 21 (some 31) (.bool true) rfl (by kernel_rfl) rfl rfl HS.out (fun w h0 => by go_simp) ?_
            try simp only [Act.put, List.setIfInBounds_toArray, List.set_cons_zero, List.set_cons_succ]
            refine wa_tkw 22 (some 32) (.bool true) rfl (by kernel_rfl) rfl rfl HS.out (fun w h0 => by go_simp) ?_
            try simp only [Act.put, List.setIfInBounds_toArray, List.set_cons_zero, List.set_cons_succ]
            refine wa_tkw 23 (some 33) (.bool true) rfl (by kernel_rfl) rfl rfl HS.out (fun w h0 => by go_simp) ?_
            try simp only [Act.put, List.setIfInBounds_toArray, List.set_cons_zero, List.set_cons_succ]
            refine wa_done (by kernel_rfl) ?_
            try simp only [Act.put, List.setIfInBounds_toArray, List.set_cons_zero, List.set_cons_succ]
            have HBN := hid (HB.out.trans (HS.out.mono HB.out.size))
            go_wp2
            go_ret
            exact ⟨by rw [HD.out]; rfl, HBN.out⟩
        · have hsf := of_decide_eq_false his
          have HD := hid (chk_no (l := l) (fun h => by have := HO.out.1 h; omega))
          have HSP := hid his
          clear hrr hab hstep hok hprev hsf his hb hi hg hbo hp1 hq
          go_wp2
          refine wa_start (fun W => Below wr.heap.size wr W) (by kernel_rfl) (Below.drew (Below.refl _ _)) ?_
          have HS := hid (Below.drew (Below.refl wr.heap.size wr))
          refine wa_tkw 0 (some 10) (.slice (some ⟨b, o, none⟩) n cap) rfl (by kernel_rfl) rfl rfl HS.out (fun w h0 => by go_simp) ?_
          try simp only [Act.put, List.setIfInBounds_toArray, List.set_cons_zero, List.set_cons_succ]
          refine wa_tkw 1 (some 11) (.int .i64 (k : Int)) rfl (by kernel_rfl) rfl rfl HS.out (fun w h0 => by go_simp) ?_
          try simp only [Act.put, List.setIfInBounds_toArray, List.set_cons_zero, List.set_cons_succ]
          refine wa_tkw 2 (some 12) (.pointer (some ⟨b, o + k * 2, none⟩)) rfl (by kernel_rfl) rfl rfl HS.out (fun w h0 => by go_simp) ?_
          try simp only [Act.put, List.setIfInBounds_toArray, List.set_cons_zero, List.set_cons_succ]
          refine wa_tkw 3 (some 13) (SV f t) rfl (by kernel_rfl) rfl rfl HS.out (fun w h0 => by have q1 := (h0.cell (p := ⟨b, o + k * 2, none⟩) HBL.out).trans hc1; have q2 := (h0.cell (p := ⟨b, o + k * 2 + 1, none⟩) HBL.out).trans hc2; go_simp) ?_
          try simp only [Act.put, List.setIfInBounds_toArray, List.set_cons_zero, List.set_cons_succ]
          refine wa_branch [4] (by kernel_rfl) rfl ?_
          refine ar_opw 4 rfl rfl (fun K hK => ?_) ar_nil
          go_simp
          go_at_call 26
          refine (IsSpan_any f t _).mono ?_
          rw [HSP.out]
          rintro e w5 ⟨rfl, hw5⟩
          have hS5 : Below wr.heap.size wr w5 := by rw [hw5]; exact (Below.drew (Below.refl _ _)).alloc (Nat.le_refl _) _
          replace HS := hid hS5
          clear hw5 hS5
          go_simp
          refine hK _ _ HS.out ?_
          clear hK K
          refine wa_tkw 5 (some 15) (.bool true) rfl (by kernel_rfl) rfl rfl HS.out (fun w h0 => by go_simp) ?_
          try simp only [Act.put, List.setIfInBounds_toArray, List.set_cons_zero, List.set_cons_succ]
          refine wa_tkw 6 (some 16) (.bool true) rfl (by kernel_rfl) rfl rfl HS.out (fun w h0 => by go_simp) ?_
          try simp only [Act.put, List.setIfInBounds_toArray, List.set_cons_zero, List.set_cons_succ]
          refine wa_sk 7 (some 17) rfl (by kernel_rfl) rfl rfl HS.out ?_
          try simp only [Act.put, List.setIfInBounds_toArray, List.set_cons_zero, List.set_cons_succ]
          refine wa_sk 8 (some 18) rfl (by kernel_rfl) rfl rfl HS.out ?_
          try simp only [Act.put, List.setIfInBounds_toArray, List.set_cons_zero, List.set_cons_succ]
          refine wa_sk 9 (some 19) rfl (by kernel_rfl) rfl rfl HS.out ?_
          try simp only [Act.put, List.setIfInBounds_toArray, List.set_cons_zero, List.set_cons_succ]
          refine wa_sk 10 (some 20) rfl (by kernel_rfl) rfl rfl HS.out ?_
          try simp only [Act.put, List.setIfInBounds_toArray, List.set_cons_zero, List.set_cons_succ]
          refine wa_sk 11 (some 21) rfl (by kernel_rfl) rfl rfl HS.out ?_
          try simp only [Act.put, List.setIfInBounds_toArray, List.set_cons_zero, List.set_cons_succ]
          refine wa_sk 12 (some 22) rfl (by kernel_rfl) rfl rfl HS.out ?_
          try simp only [Act.put, List.setIfInBounds_toArray, List.set_cons_zero, List.set_cons_succ]
          refine wa_sk 13 (some 23) rfl (by kernel_rfl) rfl rfl HS.out ?_
          try simp only [Act.put, List.setIfInBounds_toArray, List.set_cons_zero, List.set_cons_succ]
          refine wa_sk 14 (some 24) rfl (by kernel_rfl) rfl rfl HS.out ?_
          try simp only [Act.put, List.setIfInBounds_toArray, List.set_cons_zero, List.set_cons_succ]
          refine wa_sk 15 (some 25) rfl (by kernel_rfl) rfl rfl HS.out ?_
          try simp only [Act.put, List.setIfInBounds_toArray, List.set_cons_zero, List.set_cons_succ]
          refine wa_sk 16 (some 26) rfl (by kernel_rfl) rfl rfl HS.out ?_
          try simp only [Act.put, List.setIfInBounds_toArray, List.set_cons_zero, List.set_cons_succ]
          refine wa_sk 17 (some 27) rfl (by kernel_rfl) rfl rfl HS.out ?_
          try simp only [Act.put, List.setIfInBounds_toArray, List.set_cons_zero, List.set_cons_succ]
          refine wa_sk 18 (some 28) rfl (by kernel_rfl) rfl rfl HS.out ?_
          try simp only [Act.put, List.setIfInBounds_toArray, List.set_cons_zero, List.set_cons_succ]
          refine wa_sk 19 (some 29) rfl (by kernel_rfl) rfl rfl HS.out ?_
          try simp only [Act.put, List.setIfInBounds_toArray, List.set_cons_zero, List.set_cons_succ]
          refine wa_sk 20 (some 30) rfl (by kernel_rfl) rfl rfl HS.out ?_
          try simp only [Act.put, List.setIfInBounds_toArray, List.set_cons_zero, List.set_cons_succ]
          refine wa_sk 21 (some 31) rfl (by kernel_rfl) rfl rfl HS.out ?_
          try simp only [Act.put, List.setIfInBounds_toArray, List.set_cons_zero, List.set_cons_succ]
          refine wa_sk 22 (some 32) rfl (by kernel_rfl) rfl rfl HS.out ?_
          try simp only [Act.put, List.setIfInBounds_toArray, List.set_cons_zero, List.set_cons_succ]
          refine wa_tkw 23 (some 33) (.bool true) rfl (by kernel_rfl) rfl rfl HS.out (fun w h0 => by go_simp) ?_
          try simp only [Act.put, List.setIfInBounds_toArray, List.set_cons_zero, List.set_cons_succ]
          refine wa_done (by kernel_rfl) ?_
          try simp only [Act.put, List.setIfInBounds_toArray, List.set_cons_zero, List.set_cons_succ]
          have HBN := hid (HB.out.trans (HS.out.mono HB.out.size))
          go_wp2
          go_ret
          exact ⟨by rw [HD.out]; rfl, HBN.out⟩
      -- END
    · have hd : T.ok 1024 (-1) l := by
        rw [hok.out, show k = l.length by have := HN.out; omega, List.drop_length]
        trivial
      have HD := hid (chk_ok hd); have HB := hid hb
      clear hd hok hb hprev
      go_wp2
      go_ret
      exact ⟨by rw [HD.out]; rfl, HB.out⟩
set_option maxRecDepth 100000 in
theorem rCount_any (v : Value) (l : Sp) (w : World) (hv : SS w v l) :
    Calls Try.prog 13 #[v] w fun e w' => e = .returned (.tuple #[.int .i64 (cnt l), .int .i64 (chk l)]) ∧ Below w.heap.size w w' := by
  have hvv := hv
  obtain ⟨p, cap, rfl⟩ := hv.form
  have hr := hv.rs
  have hm := hv.len
  unfold maxLen at hm
  obtain ⟨n, hn⟩ : ∃ n, n = l.length := ⟨_, rfl⟩
  rw [← hn] at hm hvv ⊢
  have HR := hid hr; have HN := hid hn; have HV := hid hvv
  clear hr hv hn hvv
  by_cases hok : T.ok 1024 (-1) l
  · have hc : cnt l = T.size l := if_pos hok
    have he := chk_ok hok
    have HC := hid hc; have HE := hid he; have HO := hid hok
    clear hc he hok
    rw [HC.out, HE.out]
    go_enter Try.func13, Try.ntmps13
    go_wp2_with (refine (rCheck_any _ l _ HV.out).mono ?_; rw [HE.out]; rintro e w1 ⟨rfl, hb1⟩; have HB1 := hid hb1; clear hb1)
    go_loopw [5, 6] (fun s i w2 => ∃ k : Nat, k ≤ n ∧ i = .int .i64 k ∧ s = .int .i64 (T.size (l.take k)) ∧ Below w.heap.size w w2) (fun _ i _ => n - (intOf i).toNat)
    case atStart => exact ⟨0, by omega, rfl, rfl, HB1.out⟩
    case round =>
      obtain ⟨k, hk, rfl, rfl, hb⟩ := hrel
      by_cases hlt : k < n
      · obtain ⟨f, t, hi⟩ := get_lt (l := l) (i := k) (by rw [← HN.out]; exact hlt)
        obtain ⟨b, o, rfl, hab, hc1, hc2⟩ := HR.out.up hb k f t hi
        have HB := hid hb
        have hs : T.size (l.take (k + 1)) = T.size (l.take k) + (t - f) := by rw [take_snoc hi, T.size_snoc]
        have h1 := T.size_bound (by omega) (T.ok_take k HO.out)
        have h2 := T.size_bound (by omega) (T.ok_take (k + 1) HO.out)
        obtain ⟨z, hz⟩ : ∃ z, z = T.size (l.take k) := ⟨_, rfl⟩
        obtain ⟨y, hy⟩ : ∃ y, y = T.size (l.take (k + 1)) := ⟨_, rfl⟩
        have hft := T.ok_to HO.out (List.mem_of_getElem? hi)
        simp only at hft
        rw [← hz, ← hy] at hs
        rw [← hz] at h1; rw [← hy] at h2; rw [← hz]
        obtain ⟨q1, q2, q3⟩ := hft
        obtain ⟨r1, r2⟩ := h1
        have HS := hid hs; have HY := hid hy
        clear hb hi hab hy hz hs h2
        go_wp2
        go_quiet (fail)
        go_wp2
        go_roundw
        case rel => exact ⟨k + 1, by omega, by go_num, by rw [← HY.out, HS.out]; congr 1; omega, HB.out.trans (below_drewN _ _ _)⟩
        case measure => simp [intOf]; omega
      · have hd : T.size (l.take k) = T.size l := by rw [show k = l.length by have := HN.out; omega, List.take_length]
        rw [hd]
        have HB := hid hb
        clear hd hb
        go_wp2
        exact bodyPost_ret (v := .tuple #[.int .i64 (T.size l), .int .i64 0]) (by simp [results, Try.results13, go_sem]) rfl ⟨rfl, HB.out⟩
  · have hc : cnt l = 0 := if_neg hok
    have he := chk_no hok
    have HC := hid hc; have HE := hid he
    clear hc he hok
    rw [HC.out, HE.out]
    go_enter Try.func13, Try.ntmps13
    go_wp2_with (refine (rCheck_any _ l _ HV.out).mono ?_; rw [HE.out]; rintro e w1 ⟨rfl, hb1⟩; have HB1 := hid hb1; clear hb1)
    exact bodyPost_ret (v := .tuple #[.int .i64 0, .int .i64 60]) (by simp [results, Try.results13, go_sem]) rfl ⟨rfl, HB1.out⟩
end Go.Proofs.Ytnbhihjhpomenaa

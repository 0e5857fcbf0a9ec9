/- Contracts: the reference's Equal, Few and Space. -/
import Derived.Test.YtgckigolbajhoaaDoorV
namespace Go.Proofs.YtgckigolbajhoaaDoor
open Go.RowKit Go
set_option linter.unusedVariables false
set_option linter.unusedSimpArgs false
theorem eq_of {l m : List Tk} (h1 : l.map L9.core = m.map L9.core) (h2 : l.map (·.a) = m.map (·.a)) : l = m := by
  induction l generalizing m with
  | nil => cases m with
    | nil => rfl
    | cons y m => simp at h1
  | cons x l ih =>
    cases m with
    | nil => simp at h1
    | cons y m =>
      simp only [List.map_cons, List.cons.injEq] at h1 h2
      rw [ih h1.2 h2.2]
      obtain ⟨a, b, c, d⟩ := x
      obtain ⟨a', b', c', d'⟩ := y
      have h3 := h1.1; have h4 := h2.1
      simp [L9.core] at h3 h4
      simp [h3, h4]
theorem wrap64_id {x : Int} (h : -9223372036854775808 ≤ x) (h2 : x ≤ 9223372036854775807) : wrap64 x = x := by unfold wrap64; omega
set_option maxRecDepth 100000 in
set_option maxHeartbeats 8000000 in
theorem requal_any (v1 v2 : Value) (l m : List Tk) (w : World) (h1 : KS w v1 l) (h2 : KS w v2 m) :
    Calls Tryd.prog 13 #[v1, v2] w fun e w' => e = .returned (.bool (decide (l = m))) ∧ Below w.heap.size w w' := by
  have HSM := hid (rsame_any v1 v2 l m w h1 h2)
  obtain ⟨p1, c1, rfl⟩ := h1.form
  obtain ⟨p2, c2, rfl⟩ := h2.form
  have hr1 : KR p1 w.heap.size l w := h1.gr 4 kc_len (by omega)
  have hr2 : KR p2 w.heap.size m w := h2.gr 4 kc_len (by omega)
  have hm1 := h1.len
  have HR1 := hid hr1; have HR2 := hid hr2
  obtain ⟨n1, hn1⟩ : ∃ n, n = l.length := ⟨_, rfl⟩
  obtain ⟨n2, hn2⟩ : ∃ n, n = m.length := ⟨_, rfl⟩
  rw [← hn1] at hm1 HSM ⊢
  rw [← hn2] at HSM ⊢
  have HN1 := hid hn1; have HN2 := hid hn2
  have HM := hid (show (n1 : Int) ≤ 9223372036854775807 by unfold maxLen at hm1; omega)
  clear h1 h2 hr1 hr2 hn1 hn2 hm1
  cases hs : sme l m
  · rw [hs] at HSM
    have HE := hid (show decide (l = m) = false from decide_eq_false (fun e => by subst e; simp [sme] at hs))
    clear hs
    go_enter Tryd.func13, Tryd.ntmps13
    go_wp2_with (go_at_call 18; refine HSM.out.mono ?_; rintro e w' ⟨rfl, hb⟩)
    go_ret
    exact ⟨by rw [HE.out]; rfl, hb⟩
  · rw [hs] at HSM
    have HCO := hid (of_decide_eq_true hs)
    have hne : n1 = n2 := by have := congrArg List.length HCO.out; simp at this; rw [HN1.out, HN2.out]; exact this
    subst hne
    clear hs
    go_enter Tryd.func13, Tryd.ntmps13
    go_wp2_with fail
    refine HSM.out.mono ?_
    rintro e w1 ⟨rfl, hb1⟩
    have HB1 := hid hb1
    clear hb1
    go_wp2_with fail
    go_loopw [5] (fun i wr => ∃ k : Nat, k ≤ n1 ∧ i = .int .i64 k ∧ Below w.heap.size w wr ∧ Hid ((l.take k).map (·.a) = (m.take k).map (·.a))) (fun i _ => n1 - (intOf i).toNat)
    case atStart => exact ⟨0, by omega, rfl, HB1.out, hid rfl⟩
    case round =>
      obtain ⟨k, hk, rfl, hb, hal⟩ := hrel
      have HBW := hid hb
      have hmx := HM.out
      by_cases hlt : k < n1
      · obtain ⟨x, hx⟩ := get_lt (l := l) (i := k) (by rw [← HN1.out]; exact hlt)
        obtain ⟨y, hy⟩ := get_lt (l := m) (i := k) (by rw [← HN2.out]; exact hlt)
        obtain ⟨b, o, hp, hbl, x0, x1, x2, x3⟩ := KR.at4 (HR1.out.up hb) hx
        obtain ⟨b', o', hp', hbl', y0, y1, y2, y3⟩ := KR.at4 (HR2.out.up hb) hy
        subst hp; subst hp'
        have t1 := take_snoc hx; have t2 := take_snoc hy
        have HX := hid hx; have HY := hid hy; have HT1 := hid t1; have HT2 := hid t2; have HAL := hid hal.out
        obtain ⟨xk, xt, xn, xa⟩ := x
        obtain ⟨yk, yt, yn, ya⟩ := y
        simp only at x3 y3
        clear hx hy hb hbl hbl' t1 t2 hal x0 x1 x2 y0 y1 y2
        by_cases hk1 : xa = ya
        · subst hk1
          have HE := hid (show (l.take (k + 1)).map (·.a) = (m.take (k + 1)).map (·.a) by rw [HT1.out, HT2.out, List.map_append, List.map_append, HAL.out]; rfl)
          go_wp2_with fail
          go_region
          have HD := hid (HBW.out.drew)
          clear x3 y3
          go_wp2
          go_roundw
          case rel => exact ⟨k + 1, by omega, by go_num, HD.out, HE⟩
          case measure => simp [intOf]; omega
        · have HE := hid (show decide (l = m) = false from decide_eq_false (fun e => hk1 (by
            have h1 := HX.out; have h2 := HY.out; rw [e] at h1; rw [h1] at h2; cases h2; rfl)))
          have q1 : (xa == ya) = false := by simpa using hk1
          have q2 : (xa != ya) = true := by simpa using hk1
          clear hk1
          go_wp2_with fail
          go_region
          have HD := hid (HBW.out.drew)
          clear x3 y3
          go_wp2
          go_ret
          exact ⟨by rw [HE.out]; rfl, HD.out⟩
      · obtain rfl : k = n1 := by omega
        have HE := hid (show decide (l = m) = true from decide_eq_true (eq_of HCO.out (by have := hal.out; rw [HN1.out, List.take_length] at this; rwa [← HN1.out, HN2.out, List.take_length] at this)))
        clear hb hal
        go_wp2
        go_ret
        exact ⟨by rw [HE.out]; rfl, HBW.out⟩
/-- few tokens, and short -/
def few (l : List Tk) : Bool := decide (l.length ≤ 200 ∧ (l.map (·.t.length)).sum ≤ 2000)
theorem sum_snoc (l : List Tk) (k : Nat) (x : Tk) (h : l[k]? = some x) : ((l.take (k + 1)).map (·.t.length)).sum = ((l.take k).map (·.t.length)).sum + x.t.length := by
  rw [take_snoc h]; simp
set_option maxRecDepth 100000 in
set_option maxHeartbeats 8000000 in
theorem few_any (v : Value) (l : List Tk) (w : World) (h : KS w v l) (ht : ∀ x ∈ l, x.t.length ≤ 140737488355328) :
    Calls Tryd.prog 14 #[v] w fun e w' => e = .returned (.bool (few l)) ∧ Below w.heap.size w w' := by
  obtain ⟨p1, c1, rfl⟩ := h.form
  have hr1 : KR p1 w.heap.size l w := h.gr 4 kc_len (by omega)
  have hm1 := h.len
  have HR1 := hid hr1
  have HT := hid ht
  obtain ⟨n1, hn1⟩ : ∃ n, n = l.length := ⟨_, rfl⟩
  rw [← hn1] at hm1 ⊢
  have HN1 := hid hn1
  have HM := hid (show (n1 : Int) ≤ 9223372036854775807 by unfold maxLen at hm1; omega)
  clear h hr1 hn1 hm1 ht
  go_enter Tryd.func14, Tryd.ntmps14
  go_wp2
  go_loop [3, 4] (fun s i => ∃ (k : Nat) (z : Int), k ≤ n1 ∧ i = .int .i64 k ∧ s = .int .i64 z ∧ Hid (n1 ≤ 200 → z = ((l.take k).map (·.t.length)).sum ∧ ((l.take k).map (·.t.length)).sum ≤ k * 140737488355328)) (fun _ i => n1 - (intOf i).toNat)
  case atStart => exact ⟨0, 0, by omega, rfl, rfl, hid (fun _ => ⟨by simp, by simp⟩)⟩
  case round =>
    obtain ⟨k, z, hk, rfl, rfl, hal⟩ := hrel
    have hmx := HM.out
    by_cases hlt : k < n1
    · obtain ⟨x, hx⟩ := get_lt (l := l) (i := k) (by rw [← HN1.out]; exact hlt)
      obtain ⟨b, o, hp, hbl, x0, x1, x2, x3⟩ := KR.at4 HR1.out hx
      subst hp
      have hxt := HT.out x (List.mem_of_getElem? hx)
      have hsn := hid (sum_snoc l k x hx)
      obtain ⟨xk, xt, xn, xa⟩ := x
      simp only at x1 hxt
      have hsz := mk_size xt
      obtain ⟨z2, hz2⟩ : ∃ z2, z2 = wrap64 (z + xt.length) := ⟨_, rfl⟩
      have HZ := hid hz2
      have HREL := hid (show n1 ≤ 200 → z2 = ((l.take (k + 1)).map (·.t.length)).sum ∧ ((l.take (k + 1)).map (·.t.length)).sum ≤ (k + 1) * 140737488355328 from fun h => by
        obtain ⟨h1, h2⟩ := hal.out h
        have h3 := hsn.out
        simp only at h3
        have hb : ((l.take k).map (·.t.length)).sum ≤ 200 * 140737488355328 := Nat.le_trans h2 (Nat.mul_le_mul (by omega) (Nat.le_refl _))
        rw [h3, hz2, wrap64_id (by omega) (by omega), h1]
        refine ⟨by push_cast; rfl, ?_⟩
        rw [Nat.add_mul]; omega)
      clear hx hbl x0 x2 x3 hal hz2
      go_wp2
      rw [← HZ.out]
      go_round
      case rel => exact ⟨k + 1, z2, by omega, by go_num, rfl, HREL⟩
      case measure => simp [intOf]; omega
    · obtain rfl : k = n1 := by omega
      by_cases h200 : k ≤ 200
      · obtain ⟨h1, h2⟩ := hal.out h200
        rw [HN1.out, List.take_length] at h1
        have HE := hid (show decide (z ≤ 2000) = few l by
          unfold few; rw [h1, ← HN1.out]; simp [h200]; omega)
        have h3 : (k : Int) ≤ 200 := by omega
        clear h1 h2 hal
        go_wp2
        go_ret
        exact ⟨by rw [← HE.out]; rfl, Below.refl _ _⟩
      · have HE := hid (show few l = false from decide_eq_false (fun h => h200 (by rw [HN1.out]; exact h.1)))
        have h3 : ¬ (k : Int) ≤ 200 := by omega
        clear hal
        go_wp2
        go_ret
        exact ⟨by rw [HE.out]; rfl, Below.refl _ _⟩
set_option maxRecDepth 100000 in
set_option maxHeartbeats 8000000 in
theorem space_c (c : UInt8) (w : World) : Calls Tryd.prog 21 #[.int .u8 c.toNat] w fun e w' => e = .returned (.bool (L9.isW c)) ∧ w = w' := by
  have hc := u8_lt c
  obtain ⟨n, hn⟩ : ∃ n, n = c.toNat := ⟨_, rfl⟩
  have hv := hid (show L9.isW c = decide (n = 32 ∨ n = 9 ∨ n = 10 ∨ n = 13) by rw [hn]; rfl)
  rw [← hn]
  clear hn
  rcases (by omega : n = 32 ∨ n = 9 ∨ n = 10 ∨ n = 13 ∨ (n ≠ 32 ∧ n ≠ 9 ∧ n ≠ 10 ∧ n ≠ 13)) with h | h | h | h | ⟨h1, h2, h3, h4⟩
  · subst h
    go_enter Tryd.func21, Tryd.ntmps21
    go_wp2
    go_ret
    exact ⟨by rw [hv.out]; rfl, rfl⟩
  · subst h
    go_enter Tryd.func21, Tryd.ntmps21
    go_wp2
    go_ret
    exact ⟨by rw [hv.out]; rfl, rfl⟩
  · subst h
    go_enter Tryd.func21, Tryd.ntmps21
    go_wp2
    go_ret
    exact ⟨by rw [hv.out]; rfl, rfl⟩
  · subst h
    go_enter Tryd.func21, Tryd.ntmps21
    go_wp2
    go_ret
    exact ⟨by rw [hv.out]; rfl, rfl⟩
  · have b1 : ((n : Int) == 32) = false := by simp; omega
    have b2 : ((n : Int) == 9) = false := by simp; omega
    have b3 : ((n : Int) == 10) = false := by simp; omega
    have b4 : ((n : Int) == 13) = false := by simp; omega
    have hv2 := hid (show L9.isW c = false by rw [hv.out]; simp [h1, h2, h3, h4])
    clear h1 h2 h3 h4
    go_enter Tryd.func21, Tryd.ntmps21
    go_wp2
    go_ret
    exact ⟨by rw [hv2.out]; rfl, rfl⟩
end Go.Proofs.YtgckigolbajhoaaDoor

/- Contracts: Same, slices.EqualFunc of tokens. -/
import Derived.Test.YtgckigolbajhoaaDoorS4
namespace Go.Proofs.YtgckigolbajhoaaDoor
open Go.RowKit Go
set_option linter.unusedVariables false
set_option linter.unusedSimpArgs false
theorem mk_list_inj {a b : List UInt8} : (ByteArray.mk a.toArray = ByteArray.mk b.toArray) ↔ a = b := by
  constructor
  · intro h; injection h with h; simpa using h
  · rintro rfl; rfl
set_option maxRecDepth 100000 in
theorem tok_eq (k n a k' n' a' : Int) (t t' : List UInt8) (w : World) : (Op.equalIn 10000 35 (.agg #[.int .i64 k, .string ⟨t.toArray⟩, .int .i64 n, .int .i64 a]) (.agg #[.int .i64 k', .string ⟨t'.toArray⟩, .int .i64 n', .int .i64 a'])).run Tryd.prog w = .ok (decide ((k, t, n, a) = (k', t', n', a'))) w := by
  have u3 := Tryd.underlying3
  have a3 := Tryd.isAgg3
  have z3 := Tryd.sizeOf3
  have u9 := Tryd.underlying9
  have a9 := Tryd.isAgg9
  have z9 := Tryd.sizeOf9
  have hS : Tryd.prog.underlying 35 = some (.struct (Tryd.prog.fieldsOf 35)) := by kernel_rfl
  have hp : Tryd.prog.stoodInHeld 35 = false := by kernel_rfl
  rw [show (10000 : Nat) = 9996 + 4 from rfl, show (9996 + 4 : Nat) = (9996 + 3) + 1 from rfl, run_equalIn_agg w _ 35 _ _ hS hp]
  generalize 9996 = d
  simp only [Program.fieldsOf, Tryd.underlying35] at ⊢
  clear hS hp
  go_simp
  (repeat' split) <;> simp_all
set_option maxRecDepth 100000 in
set_option maxHeartbeats 4000000 in
theorem same1_any (k n a k' n' a' : Int) (t t' : List UInt8) (w : World) : Calls Tryd.prog 37 #[.agg #[.int .i64 k, .string ⟨t.toArray⟩, .int .i64 n, .int .i64 a], .agg #[.int .i64 k', .string ⟨t'.toArray⟩, .int .i64 n', .int .i64 a']] w fun e w' =>
    e = .returned (.bool (decide (L9.core ⟨k, t, n, a⟩ = L9.core ⟨k', t', n', a'⟩))) ∧ Below w.heap.size w w' := by
  have HB := hid (((Below.refl w.heap.size w).alloc (Nat.le_refl _) (.cells #[.int .i64 k, .string ⟨t.toArray⟩, .int .i64 n, .int .i64 a'] 35)).alloc (by simp) (.cells #[.int .i64 k', .string ⟨t'.toArray⟩, .int .i64 n', .int .i64 a'] 35))
  have hpe := fun w => tok_eq k n a' k' n' a' t t' w
  have hg60 : Tryd.prog.eqGuardType Tryd.prog.depth 35 = false := by kernel_rfl
  have hv : decide ((k, t, n, a') = (k', t', n', a')) = decide (L9.core ⟨k, t, n, a⟩ = L9.core ⟨k', t', n', a'⟩) := by
    simp [L9.core]
  rw [hv] at hpe
  clear hv
  obtain ⟨d, hd⟩ : ∃ d, d = decide (L9.core ⟨k, t, n, a⟩ = L9.core ⟨k', t', n', a'⟩) := ⟨_, rfl⟩
  rw [← hd] at hpe ⊢
  clear hd
  go_enter Tryd.func37, Tryd.ntmps37
  go_wp2
  go_ret
  exact ⟨rfl, HB.out⟩
/-- equal but for their places -/
def sme (l m : List Tk) : Bool := decide (l.map L9.core = m.map L9.core)
theorem sme_len {l m : List Tk} (h : l.length ≠ m.length) : sme l m = false := decide_eq_false (fun e => h (by have := congrArg List.length e; simpa using this))
theorem sme_bad {l m : List Tk} {k : Nat} {x y : Tk} (h : l[k]? = some x) (g : m[k]? = some y) (hne : L9.core x ≠ L9.core y) : sme l m = false := decide_eq_false (fun e => hne (by
  have := congrArg (fun q => q[k]?) e
  simp only [List.getElem?_map, h, g, Option.map_some, Option.some.injEq] at this
  exact this))
set_option maxRecDepth 100000 in
set_option maxHeartbeats 4000000 in
theorem eqf_any (v1 v2 : Value) (l m : List Tk) (w : World) (h1 : KS w v1 l) (h2 : KS w v2 m) :
    Calls Tryd.prog 36 #[v1, v2, .func (.func 37) #[] #[]] w fun e w' => e = .returned (.bool (sme l m)) ∧ Below w.heap.size w w' := by
  obtain ⟨p1, c1, rfl⟩ := h1.form
  obtain ⟨p2, c2, rfl⟩ := h2.form
  have hr1 : KR p1 w.heap.size l w := h1.gr 4 kc_len (by omega)
  have hr2 : KR p2 w.heap.size m w := h2.gr 4 kc_len (by omega)
  have hm1 := h1.len
  have HR1 := hid hr1; have HR2 := hid hr2
  obtain ⟨n1, hn1⟩ : ∃ n, n = l.length := ⟨_, rfl⟩
  obtain ⟨n2, hn2⟩ : ∃ n, n = m.length := ⟨_, rfl⟩
  rw [← hn1] at hm1 ⊢
  rw [← hn2]
  have HN1 := hid hn1; have HN2 := hid hn2
  have HM := hid (show (n1 : Int) ≤ 9223372036854775807 by unfold maxLen at hm1; omega)
  clear h1 h2 hr1 hr2 hn1 hn2 hm1
  by_cases hne : n1 = n2
  · subst hne
    go_enter Tryd.func36, Tryd.ntmps36
    go_wp2
    go_loopw [17] (fun i wr => ∃ k : Nat, k ≤ n1 ∧ i = .int .i64 k ∧ Below w.heap.size w wr ∧ Hid ((l.take k).map L9.core = (m.take k).map L9.core)) (fun i _ => n1 - (intOf i).toNat)
    case atStart => exact ⟨0, by omega, rfl, Below.refl _ _, hid rfl⟩
    case round =>
      obtain ⟨k, hk, rfl, hb, hal⟩ := hrel
      have HBW := hid hb
      have hmx := HM.out
      by_cases hlt : k < n1
      · obtain ⟨x, hx⟩ := get_lt (l := l) (i := k) (by rw [← HN1.out]; exact hlt)
        obtain ⟨y, hy⟩ := get_lt (l := m) (i := k) (by rw [← HN2.out]; exact hlt)
        obtain ⟨b, o, hp, hbl, x0, x1, x2, x3⟩ := KR.at4 (HR1.out.up hb) hx
        obtain ⟨b', o', hp', hbl', y0, y1, y2, y3⟩ := KR.at4 (HR2.out.up hb) hy
        subst hp; subst hp'
        have HX := hid hx; have HY := hid hy
        have t1 := take_snoc hx; have t2 := take_snoc hy
        obtain ⟨xk, xt, xn, xa⟩ := x
        obtain ⟨yk, yt, yn, ya⟩ := y
        simp only at x0 x1 x2 x3 y0 y1 y2 y3
        have y0' := ((Below.refl wr.heap.size wr).alloc (Nat.le_refl _) (.cells #[.int .i64 xk, .string ⟨xt.toArray⟩, .int .i64 xn, .int .i64 xa] 35)).cell (p := ⟨b', o' + k * 4, none⟩) (Nat.lt_of_lt_of_le hbl' hb.size)
        have y1' := ((Below.refl wr.heap.size wr).alloc (Nat.le_refl _) (.cells #[.int .i64 xk, .string ⟨xt.toArray⟩, .int .i64 xn, .int .i64 xa] 35)).cell (p := ⟨b', o' + k * 4 + 1, none⟩) (Nat.lt_of_lt_of_le hbl' hb.size)
        have y2' := ((Below.refl wr.heap.size wr).alloc (Nat.le_refl _) (.cells #[.int .i64 xk, .string ⟨xt.toArray⟩, .int .i64 xn, .int .i64 xa] 35)).cell (p := ⟨b', o' + k * 4 + 2, none⟩) (Nat.lt_of_lt_of_le hbl' hb.size)
        have y3' := ((Below.refl wr.heap.size wr).alloc (Nat.le_refl _) (.cells #[.int .i64 xk, .string ⟨xt.toArray⟩, .int .i64 xn, .int .i64 xa] 35)).cell (p := ⟨b', o' + k * 4 + 3, none⟩) (Nat.lt_of_lt_of_le hbl' hb.size)
        rw [y0] at y0'; rw [y1] at y1'; rw [y2] at y2'; rw [y3] at y3'
        have HQ := hid (((Below.refl wr.heap.size wr).alloc (Nat.le_refl _) (.cells #[.int .i64 xk, .string ⟨xt.toArray⟩, .int .i64 xn, .int .i64 xa] 35)).alloc (by simp) (.cells #[.int .i64 yk, .string ⟨yt.toArray⟩, .int .i64 yn, .int .i64 ya] 35))
        have HS := hid (fun W => same1_any xk xn xa yk yn ya xt yt W)
        cases hd : decide (L9.core ⟨xk, xt, xn, xa⟩ = L9.core ⟨yk, yt, yn, ya⟩) with
        | true =>
          rw [hd] at HS
          have he := of_decide_eq_true hd
          have HE := hid (show (l.take (k + 1)).map L9.core = (m.take (k + 1)).map L9.core by rw [t1, t2, List.map_append, List.map_append, hal.out, List.map_singleton, List.map_singleton, he])
          clear hx hy hb hbl hbl' t1 t2 hd he hal
          go_wp2_with fail
          refine (HS.out _).mono ?_
          rintro e wn ⟨rfl, hbn⟩
          have HBN := hid (HBW.out.trans ((HQ.out.trans (hbn.mono HQ.out.size)).mono HBW.out.size))
          clear hbn x0 x1 x2 x3 y0 y1 y2 y3 y0' y1' y2' y3'
          go_wp2
          go_roundw
          case rel => exact ⟨k + 1, by omega, by go_num, HBN.out, HE⟩
          case measure => simp [intOf]; omega
        | false =>
          rw [hd] at HS
          have he := of_decide_eq_false hd
          have HE := hid (sme_bad hx hy he)
          clear hx hy hb hbl hbl' t1 t2 hd he hal
          go_wp2_with fail
          refine (HS.out _).mono ?_
          rintro e wn ⟨rfl, hbn⟩
          have HBN := hid (HBW.out.trans ((HQ.out.trans (hbn.mono HQ.out.size)).mono HBW.out.size))
          clear hbn x0 x1 x2 x3 y0 y1 y2 y3 y0' y1' y2' y3'
          go_wp2
          go_ret
          exact ⟨by rw [HE.out]; rfl, HBN.out⟩
      · obtain rfl : k = n1 := by omega
        have HE := hid (show sme l m = true from decide_eq_true (by have := hal.out; rw [HN1.out, List.take_length] at this; rwa [← HN1.out, HN2.out, List.take_length] at this))
        clear hb hal
        go_wp2
        go_ret
        exact ⟨by rw [HE.out]; rfl, HBW.out⟩
  · have HE := hid (sme_len (l := l) (m := m) (by rw [← HN1.out, ← HN2.out]; exact hne))
    have hb1 : ((n1 : Int) == n2) = false := by simp; omega
    have hb2 : ((n1 : Int) != n2) = true := by simp; omega
    clear hne
    go_enter Tryd.func36, Tryd.ntmps36
    go_wp2
    go_ret
    exact ⟨by rw [HE.out]; rfl, Below.refl _ _⟩
theorem Same_any (v1 v2 : Value) (l m : List Tk) (w : World) (h1 : KS w v1 l) (h2 : KS w v2 m) :
    Calls Tryd.prog 17 #[v1, v2] w fun e w' => e = .returned (.bool (sme l m)) ∧ Below w.heap.size w w' := by
  have H := hid (eqf_any v1 v2 l m w h1 h2)
  obtain ⟨p1, c1, rfl⟩ := h1.form
  obtain ⟨p2, c2, rfl⟩ := h2.form
  clear h1 h2
  go_enter Tryd.func17, Tryd.ntmps17
  go_wp2_with (go_at_call 36; refine H.out.mono ?_; rintro e w' ⟨rfl, hb⟩)
  go_ret
  exact ⟨rfl, hb⟩
end Go.Proofs.YtgckigolbajhoaaDoor

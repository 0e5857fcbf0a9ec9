/- The law of equal sets. -/
import Derived.Test.YtnbhihjhpomenaaQ
namespace Go.Proofs.Ytnbhihjhpomenaa
open Go.RowKit Go
set_option linter.unusedVariables false
set_option linter.unusedSimpArgs false
theorem all_iff {a b : Sp} (ha : T.ok 1024 (-1) a) (hb : T.ok 1024 (-1) b) : (∀ y : Nat, y < 1024 → (T.has a y ↔ T.has b y)) ↔ a = b := by
  constructor
  · intro h
    refine T.uniq ha hb (fun x => ?_)
    by_cases hx : 0 ≤ x ∧ x < 1024
    · have := h x.toNat (by omega)
      rwa [show ((x.toNat : Nat) : Int) = x from by omega] at this
    · constructor
      · intro e; have := T.ok_range ha e; omega
      · intro e; have := T.ok_range hb e; omega
  · rintro rfl y _; exact Iff.rfl
theorem upto_next {a b : Sp} {k : Nat} {z p q : Bool} (h : z = true ↔ ∀ y : Nat, y < k → (T.has a y ↔ T.has b y)) (hp : decide (T.has a k) = p) (hq : decide (T.has b k) = q) :
    ((z && (p == q)) = true) ↔ ∀ y : Nat, y < k + 1 → (T.has a y ↔ T.has b y) := by
  have e : (p == q) = true ↔ (T.has a k ↔ T.has b k) := by
    rw [← hp, ← hq]
    by_cases h1 : T.has a k <;> by_cases h2 : T.has b k <;> simp [h1, h2]
  rw [Bool.and_eq_true, h, e]
  constructor
  · rintro ⟨h1, h2⟩ y hy
    rcases (by omega : y < k ∨ y = k) with h3 | rfl
    · exact h1 y h3
    · exact h2
  · intro h1
    exact ⟨fun y hy => h1 y (by omega), h1 k (by omega)⟩
theorem take_next {a b : Sp} {k : Nat} {f t f' t' : Int} (hi : a[k]? = some (f, t)) (hj : b[k]? = some (f', t')) : a.take (k + 1) = b.take (k + 1) ↔ a.take k = b.take k ∧ f = f' ∧ t = t' := by
  rw [take_snoc hi, take_snoc hj]
  constructor
  · intro h
    have hla : k < a.length := (List.getElem?_eq_some_iff.1 hi).1
    have hlb : k < b.length := (List.getElem?_eq_some_iff.1 hj).1
    have := List.append_inj h (by rw [List.length_take, List.length_take]; omega)
    simpa using this
  · rintro ⟨h1, rfl, rfl⟩; rw [h1]
set_option maxRecDepth 100000 in
set_option maxHeartbeats 16000000 in
theorem unique_any (va vb : Value) (a b : Sp) (w : World) (hva : SS w va a) (hvb : SS w vb b) : Calls Try.prog 6 #[va, vb] w fun e w' => e = .returned (.bool true) ∧ Below w.heap.size w w' := by
  obtain ⟨pa, ca, hfa⟩ := hva.form
  obtain ⟨pb, cb', hfb⟩ := hvb.form
  obtain ⟨na, hna⟩ : ∃ n, n = a.length := ⟨_, rfl⟩
  obtain ⟨nb, hnb⟩ : ∃ n, n = b.length := ⟨_, rfl⟩
  rw [← hna] at hfa; rw [← hnb] at hfb
  subst hfa; subst hfb
  have hma := hva.len; have hmb := hvb.len
  rw [← hna] at hma; rw [← hnb] at hmb
  unfold maxLen at hma hmb
  have HVA := hid hva; have HVB := hid hvb; have HNA := hid hna; have HNB := hid hnb
  have HB := hid (Below.refl w.heap.size w)
  clear hva hvb hna hnb
  rcases tf (decide (a.length ≤ 40) && decide (b.length ≤ 40)) with hf | hf
  · rcases (Decidable.em (T.ok 1024 (-1) a)) with ha | ha
    · rcases (Decidable.em (T.ok 1024 (-1) b)) with hb0 | hb0
      · have HOA := hid ha; have HOB := hid hb0
        have HKA := hid (chk_ok ha); have HKB := hid (chk_ok hb0)
        clear ha hb0
        have HF := hid hf; clear hf
        go_enter Try.func6, Try.ntmps6
        go_wp2_with fail
        refine (sane_any _ ).mono ?_
        rintro e w1 ⟨rfl, hb⟩
        replace HVA := hid (HVA.out.ups hb)
        replace HVB := hid (HVB.out.ups hb)
        replace HB := hid (HB.out.trans (hb.mono HB.out.size))
        clear hb
        go_wp2_with fail
        refine (few_b _ _ a b _ HVA.out HVB.out).mono ?_
        rw [HF.out]
        rintro e w2 ⟨rfl, hb⟩
        replace HVA := hid (HVA.out.ups hb)
        replace HVB := hid (HVB.out.ups hb)
        replace HB := hid (HB.out.trans (hb.mono HB.out.size))
        clear hb
        go_wp2_with fail
        refine (Check_any _ a _ HVA.out).mono ?_
        rw [HKA.out]
        rintro e w3 ⟨rfl, hb⟩
        replace HVA := hid (HVA.out.ups hb)
        replace HVB := hid (HVB.out.ups hb)
        replace HB := hid (HB.out.trans (hb.mono HB.out.size))
        clear hb
        go_wp2_with fail
        refine (Check_any _ b _ HVB.out).mono ?_
        rw [HKB.out]
        rintro e w4 ⟨rfl, hb⟩
        replace HVA := hid (HVA.out.ups hb)
        replace HVB := hid (HVB.out.ups hb)
        replace HB := hid (HB.out.trans (hb.mono HB.out.size))
        clear hb
        go_wp2
        go_loopw [5, 25] (fun s i wr => ∃ (k : Nat) (z : Bool), k ≤ 1024 ∧ i = .int .i64 k ∧ s = .bool z ∧ Below w4.heap.size w4 wr ∧ Hid (z = true ↔ ∀ y : Nat, y < k → (T.has a y ↔ T.has b y))) (fun _ i _ => 1024 - (intOf i).toNat)
        case atStart => exact ⟨0, true, by omega, rfl, rfl, Below.refl _ _, hid ⟨fun _ y h => by omega, fun _ => rfl⟩⟩
        case round =>
          obtain ⟨k, z, hk, rfl, rfl, hb, hz⟩ := hrel
          have HBl := hid hb
          replace HVA := hid (HVA.out.ups hb)
          replace HVB := hid (HVB.out.ups hb)
          replace HB := hid (HB.out.trans (hb.mono HB.out.size))
          clear hb
          by_cases hlt : k < 1024
          · rcases tf z with rfl | rfl
            · obtain ⟨hpa | hpa, hpb | hpb⟩ := And.intro (tf (decide (T.has a k))) (tf (decide (T.has b k)))
              · have HX := hid (upto_next hz.out hpa hpb)
                have HPA := hid hpa; have HPB := hid hpb
                clear hpa hpb hz
                go_wp2_with fail
                refine (Has_any _ a _ _ HVA.out).mono ?_
                rw [HPA.out]
                rintro e w51 ⟨rfl, hb⟩
                replace HVA := hid (HVA.out.ups hb)
                replace HVB := hid (HVB.out.ups hb)
                replace HB := hid (HB.out.trans (hb.mono HB.out.size))
                replace HBl := hid (HBl.out.trans (hb.mono HBl.out.size))
                clear hb
                go_wp2_with fail
                refine (Has_any _ b _ _ HVB.out).mono ?_
                rw [HPB.out]
                rintro e w52 ⟨rfl, hb⟩
                replace HVA := hid (HVA.out.ups hb)
                replace HVB := hid (HVB.out.ups hb)
                replace HB := hid (HB.out.trans (hb.mono HB.out.size))
                replace HBl := hid (HBl.out.trans (hb.mono HBl.out.size))
                clear hb
                go_wp2
                go_roundw
                case rel => exact ⟨k + 1, _, by omega, by go_num, rfl, HBl.out, HX⟩
                case measure => simp [intOf]; omega
              · have HX := hid (upto_next hz.out hpa hpb)
                have HPA := hid hpa; have HPB := hid hpb
                clear hpa hpb hz
                go_wp2_with fail
                refine (Has_any _ a _ _ HVA.out).mono ?_
                rw [HPA.out]
                rintro e w51 ⟨rfl, hb⟩
                replace HVA := hid (HVA.out.ups hb)
                replace HVB := hid (HVB.out.ups hb)
                replace HB := hid (HB.out.trans (hb.mono HB.out.size))
                replace HBl := hid (HBl.out.trans (hb.mono HBl.out.size))
                clear hb
                go_wp2_with fail
                refine (Has_any _ b _ _ HVB.out).mono ?_
                rw [HPB.out]
                rintro e w52 ⟨rfl, hb⟩
                replace HVA := hid (HVA.out.ups hb)
                replace HVB := hid (HVB.out.ups hb)
                replace HB := hid (HB.out.trans (hb.mono HB.out.size))
                replace HBl := hid (HBl.out.trans (hb.mono HBl.out.size))
                clear hb
                go_wp2
                go_roundw
                case rel => exact ⟨k + 1, _, by omega, by go_num, rfl, HBl.out, HX⟩
                case measure => simp [intOf]; omega
              · have HX := hid (upto_next hz.out hpa hpb)
                have HPA := hid hpa; have HPB := hid hpb
                clear hpa hpb hz
                go_wp2_with fail
                refine (Has_any _ a _ _ HVA.out).mono ?_
                rw [HPA.out]
                rintro e w51 ⟨rfl, hb⟩
                replace HVA := hid (HVA.out.ups hb)
                replace HVB := hid (HVB.out.ups hb)
                replace HB := hid (HB.out.trans (hb.mono HB.out.size))
                replace HBl := hid (HBl.out.trans (hb.mono HBl.out.size))
                clear hb
                go_wp2_with fail
                refine (Has_any _ b _ _ HVB.out).mono ?_
                rw [HPB.out]
                rintro e w52 ⟨rfl, hb⟩
                replace HVA := hid (HVA.out.ups hb)
                replace HVB := hid (HVB.out.ups hb)
                replace HB := hid (HB.out.trans (hb.mono HB.out.size))
                replace HBl := hid (HBl.out.trans (hb.mono HBl.out.size))
                clear hb
                go_wp2
                go_roundw
                case rel => exact ⟨k + 1, _, by omega, by go_num, rfl, HBl.out, HX⟩
                case measure => simp [intOf]; omega
              · have HX := hid (upto_next hz.out hpa hpb)
                have HPA := hid hpa; have HPB := hid hpb
                clear hpa hpb hz
                go_wp2_with fail
                refine (Has_any _ a _ _ HVA.out).mono ?_
                rw [HPA.out]
                rintro e w51 ⟨rfl, hb⟩
                replace HVA := hid (HVA.out.ups hb)
                replace HVB := hid (HVB.out.ups hb)
                replace HB := hid (HB.out.trans (hb.mono HB.out.size))
                replace HBl := hid (HBl.out.trans (hb.mono HBl.out.size))
                clear hb
                go_wp2_with fail
                refine (Has_any _ b _ _ HVB.out).mono ?_
                rw [HPB.out]
                rintro e w52 ⟨rfl, hb⟩
                replace HVA := hid (HVA.out.ups hb)
                replace HVB := hid (HVB.out.ups hb)
                replace HB := hid (HB.out.trans (hb.mono HB.out.size))
                replace HBl := hid (HBl.out.trans (hb.mono HBl.out.size))
                clear hb
                go_wp2
                go_roundw
                case rel => exact ⟨k + 1, _, by omega, by go_num, rfl, HBl.out, HX⟩
                case measure => simp [intOf]; omega
            · have HX := hid (upto_next hz.out (p := _) (q := _) rfl rfl)
              clear hz
              go_wp2
              go_roundw
              case rel => exact ⟨k + 1, false, by omega, by go_num, rfl, HBl.out, HX⟩
              case measure => simp [intOf]; omega
          · obtain rfl : k = 1024 := by omega
            have hall : z = true ↔ a = b := hz.out.trans (all_iff HOA.out HOB.out)
            have HALL := hid hall
            clear hall hz HBl hk hlt
            rw [show ((1024 : Nat) : Int) = 1024 from rfl]
            have hra := HVA.out.rs; have hrb := HVB.out.rs
            have HRA := hid hra; have HRB := hid hrb
            clear hra hrb
            go_wp2
            go_loopw [7, 46] (fun s i w2 => ∃ (k : Nat) (y : Bool), k ≤ na ∧ i = .int .i64 k ∧ s = .bool y ∧ (∃ m, w2 = wr.drewN m) ∧ Hid (y = true ↔ (na = nb ∧ a.take k = b.take k))) (fun _ i _ => na - (intOf i).toNat)
            case atStart => exact ⟨0, _, by omega, rfl, rfl, ⟨0, rfl⟩, hid (by simp; omega)⟩
            case round =>
              obtain ⟨k, y, hk, rfl, rfl, ⟨m, rfl⟩, hy⟩ := hrel
              by_cases hlt : k < na
              · obtain ⟨f, t, hi⟩ := get_lt (l := a) (i := k) (by rw [← HNA.out]; exact hlt)
                obtain ⟨b1, o1, rfl, _, c1, c2⟩ := HRA.out k f t hi
                rcases tf y with rfl | rfl
                · obtain ⟨hn, htk⟩ := hy.out.1 rfl
                  have hlb : k < nb := by rw [← hn]; exact hlt
                  obtain ⟨f', t', hj⟩ := get_lt (l := b) (i := k) (by rw [← HNB.out]; exact hlb)
                  obtain ⟨b2, o2, rfl, _, d1, d2⟩ := HRB.out k f' t' hj
                  have hnx := take_next hi hj
                  have HNX := hid hnx; have HTK := hid htk; have HNN := hid hn
                  clear hnx htk hi hj hy hn
                  rcases (by omega : (f = f' ∧ t = t') ∨ f ≠ f' ∨ (f = f' ∧ t ≠ t')) with ⟨rfl, rfl⟩ | h | ⟨rfl, h⟩
                  · have HT : Hid (a.take (k + 1) = b.take (k + 1)) := hid (HNX.out.2 ⟨HTK.out, rfl, rfl⟩)
                    clear HNX HTK
                    go_wp2
                    go_quiet (fail)
                    go_wp2
                    go_roundw
                    case rel => exact ⟨k + 1, true, by omega, by go_num, rfl, ⟨_, (by first | exact drewN_two _ _ _ | rfl)⟩, hid ⟨fun _ => ⟨HNN.out, HT.out⟩, fun _ => rfl⟩⟩
                    case measure => simp [intOf]; omega
                  · have HX : Hid (false = true ↔ (na = nb ∧ a.take (k + 1) = b.take (k + 1))) := hid ⟨fun e => (by cases e), fun e => absurd (HNX.out.1 e.2).2.1 h⟩
                    have hb : (f == f') = false := by simp [h]
                    clear HNX HTK HNN h
                    go_wp2
                    go_quiet (fail)
                    go_wp2
                    go_roundw
                    case rel => exact ⟨k + 1, false, by omega, by go_num, rfl, ⟨_, (by first | exact drewN_two _ _ _ | rfl)⟩, HX⟩
                    case measure => simp [intOf]; omega
                  · have HX : Hid (false = true ↔ (na = nb ∧ a.take (k + 1) = b.take (k + 1))) := hid ⟨fun e => (by cases e), fun e => absurd (HNX.out.1 e.2).2.2 h⟩
                    have hb : (t == t') = false := by simp [h]
                    clear HNX HTK HNN h
                    go_wp2
                    go_quiet (fail)
                    go_wp2
                    go_roundw
                    case rel => exact ⟨k + 1, false, by omega, by go_num, rfl, ⟨_, (by first | exact drewN_two _ _ _ | rfl)⟩, HX⟩
                    case measure => simp [intOf]; omega
                · have HX : Hid (false = true ↔ (na = nb ∧ a.take (k + 1) = b.take (k + 1))) := hid ⟨fun e => (by cases e), fun e => hy.out.2 ⟨e.1, by
                    have h := congrArg (List.take k) e.2
                    rwa [List.take_take, List.take_take, Nat.min_eq_left (by omega)] at h⟩⟩
                  clear hy hi
                  go_wp2
                  go_quiet (fail)
                  go_wp2
                  go_roundw
                  case rel => exact ⟨k + 1, false, by omega, by go_num, rfl, ⟨_, (by first | exact drewN_two _ _ _ | rfl)⟩, HX⟩
                  case measure => simp [intOf]; omega
              · have hyz : y = z := by
                  have h1 : y = true ↔ a = b := by
                    rw [hy.out, show k = na by omega]
                    constructor
                    · rintro ⟨h1, h2⟩
                      rw [HNA.out, List.take_length, ← HNA.out, h1, HNB.out, List.take_length] at h2
                      exact h2
                    · rintro rfl
                      exact ⟨HNA.out.trans HNB.out.symm, rfl⟩
                  have h2 := HALL.out
                  cases y <;> cases z <;> simp_all
                subst hyz
                clear hy HALL
                go_wp2
                go_ret
                exact ⟨by cases y <;> rfl, HB.out.trans (below_drewN _ _ _)⟩
      · have HKA := hid (chk_ok ha); have HKB := hid (chk_no hb0)
        clear ha hb0
        have HF := hid hf; clear hf
        go_enter Try.func6, Try.ntmps6
        go_wp2_with fail
        refine (sane_any _ ).mono ?_
        rintro e w1 ⟨rfl, hb⟩
        replace HVA := hid (HVA.out.ups hb)
        replace HVB := hid (HVB.out.ups hb)
        replace HB := hid (HB.out.trans (hb.mono HB.out.size))
        clear hb
        go_wp2_with fail
        refine (few_b _ _ a b _ HVA.out HVB.out).mono ?_
        rw [HF.out]
        rintro e w2 ⟨rfl, hb⟩
        replace HVA := hid (HVA.out.ups hb)
        replace HVB := hid (HVB.out.ups hb)
        replace HB := hid (HB.out.trans (hb.mono HB.out.size))
        clear hb
        go_wp2_with fail
        refine (Check_any _ a _ HVA.out).mono ?_
        rw [HKA.out]
        rintro e w3 ⟨rfl, hb⟩
        replace HVA := hid (HVA.out.ups hb)
        replace HVB := hid (HVB.out.ups hb)
        replace HB := hid (HB.out.trans (hb.mono HB.out.size))
        clear hb
        go_wp2_with fail
        refine (Check_any _ b _ HVB.out).mono ?_
        rw [HKB.out]
        rintro e w4 ⟨rfl, hb⟩
        replace HVA := hid (HVA.out.ups hb)
        replace HVB := hid (HVB.out.ups hb)
        replace HB := hid (HB.out.trans (hb.mono HB.out.size))
        clear hb
        go_wp2
        go_ret
        exact ⟨rfl, HB.out⟩
    · have HKA := hid (chk_no ha)
      clear ha
      have HF := hid hf; clear hf
      go_enter Try.func6, Try.ntmps6
      go_wp2_with fail
      refine (sane_any _ ).mono ?_
      rintro e w1 ⟨rfl, hb⟩
      replace HVA := hid (HVA.out.ups hb)
      replace HVB := hid (HVB.out.ups hb)
      replace HB := hid (HB.out.trans (hb.mono HB.out.size))
      clear hb
      go_wp2_with fail
      refine (few_b _ _ a b _ HVA.out HVB.out).mono ?_
      rw [HF.out]
      rintro e w2 ⟨rfl, hb⟩
      replace HVA := hid (HVA.out.ups hb)
      replace HVB := hid (HVB.out.ups hb)
      replace HB := hid (HB.out.trans (hb.mono HB.out.size))
      clear hb
      go_wp2_with fail
      refine (Check_any _ a _ HVA.out).mono ?_
      rw [HKA.out]
      rintro e w3 ⟨rfl, hb⟩
      replace HVA := hid (HVA.out.ups hb)
      replace HVB := hid (HVB.out.ups hb)
      replace HB := hid (HB.out.trans (hb.mono HB.out.size))
      clear hb
      go_wp2
      go_ret
      exact ⟨rfl, HB.out⟩
  · skip
    have HF := hid hf; clear hf
    go_enter Try.func6, Try.ntmps6
    go_wp2_with fail
    refine (sane_any _ ).mono ?_
    rintro e w1 ⟨rfl, hb⟩
    replace HVA := hid (HVA.out.ups hb)
    replace HVB := hid (HVB.out.ups hb)
    replace HB := hid (HB.out.trans (hb.mono HB.out.size))
    clear hb
    go_wp2_with fail
    refine (few_b _ _ a b _ HVA.out HVB.out).mono ?_
    rw [HF.out]
    rintro e w2 ⟨rfl, hb⟩
    replace HVA := hid (HVA.out.ups hb)
    replace HVB := hid (HVB.out.ups hb)
    replace HB := hid (HB.out.trans (hb.mono HB.out.size))
    clear hb
    go_wp2
    go_ret
    exact ⟨rfl, HB.out⟩
end Go.Proofs.Ytnbhihjhpomenaa

/- The reader of the reference: the next number. -/
import Derived.Test.YtiklpimnmbjenaaRdB
import Derived.Deep.LoopGhost
namespace Go.Proofs.Ytiklpimnmbjenaa
open Go.RowKit Go
set_option linter.unusedVariables false
set_option linter.unusedSimpArgs false
theorem rn_big : ∀ (l : List Int) (s a : Nat), (∀ c ∈ l, 0 ≤ c ∧ c < 256) → 64 ≤ s → rn s a l = none := by
  intro l
  induction l with
  | nil => intro s a _ h; rw [rn]
  | cons c r ih =>
    intro s a hb h
    have hc := hb c (by simp)
    rw [rn]
    by_cases h1 : 18446744073709551616 ≤ c.toNat % 128 * 2 ^ s
    · simp only [h1, if_true]
    · simp only [h1, if_false]
      have hd : c.toNat % 128 = 0 := by
        apply Classical.byContradiction
        intro h0
        apply h1
        have : 2 ^ 64 ≤ 2 ^ s := Nat.pow_le_pow_right (by omega) h
        exact Nat.le_trans this (Nat.le_mul_of_pos_left _ (by omega))
      split
      · exact ih _ _ (fun x hx => hb x (by simp [hx])) (by omega)
      · have : c = 0 := by omega
        rw [if_pos ⟨this, by omega⟩]
theorem sum_val {a q k : Nat} (ha : a < 2 ^ (7 * k)) (h : k ≤ 8 ∨ k = 9 ∧ q ≤ 1) :
    IntKind.u64.wrap ((a : Int) + IntKind.u64.wrap ((q : Int) % 128 * 2 ^ (7 * k))) = ((a + q % 128 * 2 ^ (7 * k) : Nat) : Int) ∧ a + q % 128 * 2 ^ (7 * k) < 18446744073709551616 ∧ q % 128 * 2 ^ (7 * k) < 18446744073709551616 ∧ a + q % 128 * 2 ^ (7 * k) < 2 ^ (7 * (k + 1)) := by
  have : k = 0 ∨ k = 1 ∨ k = 2 ∨ k = 3 ∨ k = 4 ∨ k = 5 ∨ k = 6 ∨ k = 7 ∨ k = 8 ∨ k = 9 := by omega
  simp only [wrap_u64']
  rcases this with rfl | rfl | rfl | rfl | rfl | rfl | rfl | rfl | rfl | rfl <;> simp only [Nat.reduceMul, Nat.reducePow, Nat.reduceAdd, Int.reducePow] at * <;> omega
/-- what the reference's number answers and leaves -/
def OutU (w w' : World) (b at_ : Nat) (L : List Int) (o : Option (Nat × List Int)) (e : Ending) : Prop :=
  w.grownBy w' (some b) ∧ match o with
  | none => e = .returned (.int .u64 0) ∧ ∃ n, RR w' b L n true
  | some (u, r) => e = .returned (.int .u64 u) ∧ u < 18446744073709551616 ∧ ∃ n, at_ < n ∧ n ≤ L.length ∧ L.drop n = r ∧ RR w' b L n false
set_option maxRecDepth 100000 in
set_option maxHeartbeats 2000000 in
theorem number_any (b : Nat) (L : List Int) (at_ : Nat) (w : World) (hr : RR w b L at_ false) :
    Calls Try.prog 41 #[.pointer (some ⟨b, 0, none⟩)] w fun e w' => OutU w w' b at_ L (rn 0 0 (L.drop at_)) e := by
  have HR := hid hr; clear hr
  go_enter Try.func41, Try.ntmps41
  go_wp2
  go_loopg [3, 4] 10 (fun m av sv wr => ∃ (a k n : Nat), m = 10 - k ∧ k ≤ 9 ∧ av = .int .u64 a ∧ sv = .int .i64 k ∧ Hid (RR wr b L n false ∧ w.grownBy wr (some b) ∧ a < 2 ^ (7 * k) ∧ at_ + k = n ∧ rn 0 0 (L.drop at_) = rn (7 * k) a (L.drop n)))
  case atStart => exact ⟨0, 0, at_, rfl, by omega, rfl, rfl, HR.out, World.grownBy.refl _ _, by simp, rfl, by simp⟩
  case round =>
    obtain ⟨a, k, n, rfl, hk, rfl, rfl, HH⟩ := hrel
    have hb2 := HH.out.1.2.2.2.2.2.2.1
    have hkc : k = 0 ∨ k = 9 ∨ (0 < k ∧ k < 9) := by omega
    by_cases hn : n = L.length
    · have HE : Hid (rn 0 0 (L.drop at_) = none) := by
        show _ = _
        rw [HH.out.2.2.2.2, hn, List.drop_length, rn]
      have HN := hid hn; clear hn
      rcases hkc with rfl | rfl | ⟨k0, k9⟩
      · obtain rfl : a = 0 := by have := HH.out.2.2.1; omega
        go_wp2_with (go_at_call 40; refine (next_end b L n false _ HH.out.1 HN.out).mono ?_; rintro e w1 ⟨rfl, hr1, hg1⟩; have h19 := hr1.2.2.2.2.2.2.1; have h111 := hr1.2.2.2.2.2.2.2.2; have HR1 := hid hr1; clear hr1)
        go_ret
        refine ⟨grown_trans HH.out.2.1 hg1, ?_⟩
        rw [HE.out]
        exact ⟨rfl, _, HR1.out⟩
      · go_wp2_with (go_at_call 40; refine (next_end b L n false _ HH.out.1 HN.out).mono ?_; rintro e w1 ⟨rfl, hr1, hg1⟩; have h19 := hr1.2.2.2.2.2.2.1; have h111 := hr1.2.2.2.2.2.2.2.2; have HR1 := hid hr1; clear hr1)
        go_ret
        refine ⟨grown_trans HH.out.2.1 (grown_trans hg1 (grown_setCell _ _ _ _)), ?_⟩
        rw [HE.out]
        exact ⟨rfl, _, HR1.out.bad true⟩
      · have e9 : ((k : Int) == 9) = false := by simp; omega
        have e0 : decide ((k : Int) ≤ 0) = false := by simp; omega
        go_wp2_with (go_at_call 40; refine (next_end b L n false _ HH.out.1 HN.out).mono ?_; rintro e w1 ⟨rfl, hr1, hg1⟩; have h19 := hr1.2.2.2.2.2.2.1; have h111 := hr1.2.2.2.2.2.2.2.2; have HR1 := hid hr1; clear hr1)
        go_ret
        refine ⟨grown_trans HH.out.2.1 (grown_trans hg1 (grown_setCell _ _ _ _)), ?_⟩
        rw [HE.out]
        exact ⟨rfl, _, HR1.out.bad true⟩
    · have hlt : n < L.length := by have := HH.out.1.2.2.1; omega
      obtain ⟨c, hc⟩ : ∃ c, L[n]? = some c := ⟨L[n], by simp [hlt]⟩
      have hcb : 0 ≤ c ∧ c < 256 := HH.out.1.1 c (List.mem_of_getElem? hc)
      have hdr : L.drop n = c :: L.drop (n + 1) := by
        obtain ⟨h1, h2⟩ := List.getElem?_eq_some_iff.1 hc
        rw [← h2]; exact List.drop_eq_getElem_cons h1
      obtain ⟨q, rfl⟩ := Int.eq_ofNat_of_zero_le hcb.1
      obtain ⟨d, hd⟩ : ∃ d, d = q % 128 := ⟨_, rfl⟩
      have HK : Hid (∀ x, rn 0 0 (L.drop at_) = x ↔ (if 18446744073709551616 ≤ d * 2 ^ (7 * k) then none else if 128 ≤ (q : Int) then rn (7 * (k + 1)) (a + d * 2 ^ (7 * k)) (L.drop (n + 1)) else if (q : Int) = 0 ∧ 0 < 7 * k then none else some (a + d * 2 ^ (7 * k), L.drop (n + 1))) = x) := by
        intro x; rw [HH.out.2.2.2.2, hdr, rn, hd]; rfl
      have HC := hid hc; have HD := hid hd; clear hc hd hdr
      rcases hkc with rfl | rfl | ⟨k0, k9⟩
      · obtain rfl : a = 0 := by have := HH.out.2.2.1; omega
        have HV := hid (sum_val (q := q) HH.out.2.2.1 (Or.inl (by omega)))
        by_cases hq1 : 128 ≤ q
        · go_wp2_with (go_at_call 40; refine (next_byte b L n false _ _ HH.out.1 HC.out).mono ?_; rintro e w1 ⟨rfl, hr1, hg1⟩; have h19 := hr1.2.2.2.2.2.2.1; have h111 := hr1.2.2.2.2.2.2.2.2; have HR1 := hid hr1; clear hr1)
          go_roundg 9
          case measure => omega
          case rel =>
            refine ⟨0 + q % 128 * 2 ^ (7 * 0), 1, n + 1, rfl, by omega, ?_, rfl, HR1.out, grown_trans HH.out.2.1 hg1, HV.out.2.2.2, by have := HH.out.2.2.2.1; omega, ?_⟩
            · congr 1; simp only [Nat.mul_zero, Nat.pow_zero, Nat.mul_one, Nat.zero_add]; omega
            · have := HV.out.2.2.1
              rw [(HK.out _).2]
              rw [HD.out, if_neg (by omega), if_pos (by omega)]
        · have HE : Hid (rn 0 0 (L.drop at_) = some (0 + q % 128 * 2 ^ (7 * 0), L.drop (n + 1))) := by
            show _ = _
            have := HV.out.2.2.1
            rw [(HK.out _).2]
            rw [HD.out, if_neg (by omega), if_neg (by omega), if_neg (by omega)]
          go_wp2_with (go_at_call 40; refine (next_byte b L n false _ _ HH.out.1 HC.out).mono ?_; rintro e w1 ⟨rfl, hr1, hg1⟩; have h19 := hr1.2.2.2.2.2.2.1; have h111 := hr1.2.2.2.2.2.2.2.2; have HR1 := hid hr1; clear hr1)
          go_ret
          refine ⟨grown_trans HH.out.2.1 hg1, ?_⟩
          rw [HE.out]
          refine ⟨?_, HV.out.2.1, n + 1, by have := HH.out.2.2.2.1; omega, by omega, rfl, HR1.out⟩
          have e1 : ((0 + q % 128 * 2 ^ (7 * 0) : Nat) : Int) = (q : Int) % 128 := by simp only [Nat.mul_zero, Nat.pow_zero, Nat.mul_one, Nat.zero_add]; omega
          rw [e1]; rfl
      · by_cases hq1 : 1 < q
        · have HE : Hid (rn 0 0 (L.drop at_) = none) := by
            show _ = _
            rw [(HK.out none).2]
            split
            · rfl
            · split
              · exact rn_big _ _ _ (fun x hx => HH.out.1.1 x (List.mem_of_mem_drop hx)) (by omega)
              · exfalso; have := HD.out; omega
          go_wp2_with (go_at_call 40; refine (next_byte b L n false _ _ HH.out.1 HC.out).mono ?_; rintro e w1 ⟨rfl, hr1, hg1⟩; have h19 := hr1.2.2.2.2.2.2.1; have h111 := hr1.2.2.2.2.2.2.2.2; have HR1 := hid hr1; clear hr1)
          go_ret
          refine ⟨grown_trans HH.out.2.1 (grown_trans hg1 (grown_setCell _ _ _ _)), ?_⟩
          rw [HE.out]
          exact ⟨rfl, _, HR1.out.bad true⟩
        · by_cases hq : q = 0
          · subst hq
            have HE : Hid (rn 0 0 (L.drop at_) = none) := by
              show _ = _
              have : d = 0 := by rw [HD.out]
              rw [(HK.out none).2]
              rw [this, if_neg (by omega), if_neg (by omega), if_pos ⟨by omega, by omega⟩]
            go_wp2_with (go_at_call 40; refine (next_byte b L n false _ _ HH.out.1 HC.out).mono ?_; rintro e w1 ⟨rfl, hr1, hg1⟩; have h19 := hr1.2.2.2.2.2.2.1; have h111 := hr1.2.2.2.2.2.2.2.2; have HR1 := hid hr1; clear hr1)
            go_ret
            refine ⟨grown_trans HH.out.2.1 (grown_trans hg1 (grown_setCell _ _ _ _)), ?_⟩
            rw [HE.out]
            exact ⟨rfl, _, HR1.out.bad true⟩
          · obtain rfl : q = 1 := by omega
            have HV := hid (sum_val (q := 1) HH.out.2.2.1 (Or.inr ⟨rfl, by omega⟩))
            have HE : Hid (rn 0 0 (L.drop at_) = some (a + 1 % 128 * 2 ^ (7 * 9), L.drop (n + 1))) := by
              show _ = _
              have := HV.out.2.2.1
              rw [(HK.out _).2]
              rw [HD.out, if_neg (by omega), if_neg (by omega), if_neg (by omega)]
            go_wp2_with (go_at_call 40; refine (next_byte b L n false _ _ HH.out.1 HC.out).mono ?_; rintro e w1 ⟨rfl, hr1, hg1⟩; have h19 := hr1.2.2.2.2.2.2.1; have h111 := hr1.2.2.2.2.2.2.2.2; have HR1 := hid hr1; clear hr1)
            go_ret
            refine ⟨grown_trans HH.out.2.1 hg1, ?_⟩
            have e9 : IntKind.u64.wrap ((a : Int) + 9223372036854775808) = ((a + 1 % 128 * 2 ^ (7 * 9) : Nat) : Int) := HV.out.1
            rw [HE.out, e9]
            exact ⟨rfl, HV.out.2.1, n + 1, by have := HH.out.2.2.2.1; omega, by omega, rfl, HR1.out⟩
      · have e9 : ((k : Int) == 9) = false := by simp; omega
        have e0 : decide ((k : Int) ≤ 0) = false := by simp; omega
        by_cases hq : q = 0
        · have HE : Hid (rn 0 0 (L.drop at_) = none) := by
            show _ = _
            have : d = 0 := by rw [HD.out, hq]
            rw [(HK.out none).2]
            rw [this, if_neg (by omega), if_neg (by omega), if_pos ⟨by omega, by omega⟩]
          have eq0 : ((q : Int) == 0) = true := by simp [hq]
          clear hq
          go_wp2_with (go_at_call 40; refine (next_byte b L n false _ _ HH.out.1 HC.out).mono ?_; rintro e w1 ⟨rfl, hr1, hg1⟩; have h19 := hr1.2.2.2.2.2.2.1; have h111 := hr1.2.2.2.2.2.2.2.2; have HR1 := hid hr1; clear hr1)
          go_ret
          refine ⟨grown_trans HH.out.2.1 (grown_trans hg1 (grown_setCell _ _ _ _)), ?_⟩
          rw [HE.out]
          exact ⟨rfl, _, HR1.out.bad true⟩
        · have eq0 : ((q : Int) == 0) = false := by simp [hq]
          have HV := hid (sum_val (q := q) HH.out.2.2.1 (Or.inl (by omega)))
          by_cases hq1 : 128 ≤ q
          · go_wp2_with (go_at_call 40; refine (next_byte b L n false _ _ HH.out.1 HC.out).mono ?_; rintro e w1 ⟨rfl, hr1, hg1⟩; have h19 := hr1.2.2.2.2.2.2.1; have h111 := hr1.2.2.2.2.2.2.2.2; have HR1 := hid hr1; clear hr1)
            go_roundg (10 - (k + 1))
            case measure => omega
            case rel =>
              refine ⟨a + q % 128 * 2 ^ (7 * k), k + 1, n + 1, rfl, by omega, ?_, by go_num, HR1.out, grown_trans HH.out.2.1 hg1, HV.out.2.2.2, by have := HH.out.2.2.2.1; omega, ?_⟩
              · rw [HV.out.1]
              · have := HV.out.2.2.1
                rw [(HK.out _).2]
                rw [HD.out, if_neg (by omega), if_pos (by omega)]
          · have HE : Hid (rn 0 0 (L.drop at_) = some (a + q % 128 * 2 ^ (7 * k), L.drop (n + 1))) := by
              show _ = _
              have := HV.out.2.2.1
              rw [(HK.out _).2]
              rw [HD.out, if_neg (by omega), if_neg (by omega), if_neg (by omega)]
            go_wp2_with (go_at_call 40; refine (next_byte b L n false _ _ HH.out.1 HC.out).mono ?_; rintro e w1 ⟨rfl, hr1, hg1⟩; have h19 := hr1.2.2.2.2.2.2.1; have h111 := hr1.2.2.2.2.2.2.2.2; have HR1 := hid hr1; clear hr1)
            go_ret
            refine ⟨grown_trans HH.out.2.1 hg1, ?_⟩
            rw [HE.out, HV.out.1]
            exact ⟨rfl, HV.out.2.1, n + 1, by have := HH.out.2.2.2.1; omega, by omega, rfl, HR1.out⟩
end Go.Proofs.Ytiklpimnmbjenaa

/- Contracts of package group: elements and scalars. -/
import Derived.Test.YtaoehkoffhnidaaDoorPow
import Derived.Deep.DeepCutAuto
namespace Go.Proofs.YtaoehkoffhnidaaDoor
open Go.RowKit Go
set_option linter.unusedVariables false
set_option linter.unusedSimpArgs false

/-- elements of the group -/
def El (a : Nat) : Prop := 1 ≤ a ∧ a < 4611686018427377339 ∧ mp 4611686018427377339 a 2305843009213688669 = 1
/-- a number that is no element -/
def Ne (a : Int) : Prop := ∀ n : Nat, a = (n : Int) → ¬ El n
/-- a 64 bit number -/
def I64 (a : Int) : Prop := -9223372036854775808 ≤ a ∧ a ≤ 9223372036854775807
theorem bel {W w1 : World} {B : Nat} (hb : Below B W w1) {n : Nat} : Below B W (w1.drewN n) := below_drewN hb n

set_option maxRecDepth 100000 in
theorem Check_ok (a : Nat) (h : Hid (El a)) (w : World) : Calls Tryd.prog 22 #[.int .i64 (a : Int)] w fun e w' => e = .returned (.int .i64 0) ∧ Below w.heap.size w w' := by
  obtain ⟨h1, h2, h3⟩ := h.out
  have H3 := Lib.hid h3; clear h3
  have hd : decide ((a : Int) < 1) = false := decide_eq_false (by omega)
  have he : decide ((4611686018427377339 : Int) ≤ (a : Int)) = false := decide_eq_false (by omega)
  go_enter Tryd.func22, Tryd.ntmps22
  go_wp2_with fail
  refine (power_any a 2305843009213688669 h2 (by omega) _).mono ?_
  rintro e w' ⟨rfl, hb⟩
  rw [H3.out]
  go_wp2
  go_ret
  exact ⟨rfl, hb⟩
set_option maxRecDepth 100000 in
theorem Check_bad (a : Int) (h : Hid (Ne a)) (w : World) : Calls Tryd.prog 22 #[.int .i64 a] w fun e w' => e = .returned (.int .i64 30) ∧ Below w.heap.size w w' := by
  by_cases h1 : a < 1
  · have hd : decide ((a : Int) < 1) = true := decide_eq_true (by omega)
    go_enter Tryd.func22, Tryd.ntmps22
    go_wp2
    go_ret
    exact ⟨rfl, Below.refl _ _⟩
  · have hd : decide ((a : Int) < 1) = false := decide_eq_false (by omega)
    by_cases h2 : 4611686018427377339 ≤ a
    · have he : decide ((4611686018427377339 : Int) ≤ (a : Int)) = true := decide_eq_true (by omega)
      go_enter Tryd.func22, Tryd.ntmps22
      go_wp2
      go_ret
      exact ⟨rfl, Below.refl _ _⟩
    · obtain ⟨n, rfl⟩ := Int.eq_ofNat_of_zero_le (by omega : 0 ≤ a)
      have h3 : ¬ mp 4611686018427377339 n 2305843009213688669 = 1 := fun e => h.out n rfl ⟨by omega, by omega, e⟩
      have he : decide ((4611686018427377339 : Int) ≤ (n : Int)) = false := decide_eq_false (by omega)
      obtain ⟨x, hx⟩ : ∃ x, x = mp 4611686018427377339 n 2305843009213688669 := ⟨_, rfl⟩
      rw [← hx] at h3
      have hne : ((x : Int) != 1) = true := by simp; omega
      have HX := Lib.hid hx; clear hx
      have hlt : n < 4611686018427377339 := by omega
      go_enter Tryd.func22, Tryd.ntmps22
      go_wp2_with fail
      refine (power_any n 2305843009213688669 hlt (by omega) _).mono ?_
      rintro e w' ⟨rfl, hb⟩
      rw [← HX.out]
      go_wp2
      go_ret
      exact ⟨rfl, hb⟩
/-- scalars -/
def sc (k : Int) : Bool := decide (0 ≤ k) && decide (k < 2305843009213688669)
theorem all_false (l : List Int) (m : Nat) (v : Int) (h : l[m]? = some v) (hf : sc v = false) : l.all sc = false := by
  rw [List.all_eq_false]
  exact ⟨v, List.mem_of_getElem? h, by simp [hf]⟩
set_option maxRecDepth 100000 in
theorem scalars_any (ks : List Int) (g : Nat) (w : World) (hc : ∀ j v, ks[j]? = some v → w.cell? ⟨g, j, none⟩ = some (.int .i64 v)) (hl : ks.length ≤ 2) :
    Calls Tryd.prog 58 #[.slice (some ⟨g, 0, none⟩) ks.length ks.length] w fun e w' => e = .returned (.bool (ks.all sc)) ∧ w = w' := by
  have HC := Lib.hid hc; clear hc
  go_enter Tryd.func58, Tryd.ntmps58
  go_wp2_with fail
  go_loop [7] (fun i => ∃ m : Nat, m ≤ ks.length ∧ i = .int .i64 (m : Int) ∧ (ks.take m).all sc = true) (fun i => ks.length - (RowKit.intOf i).toNat)
  case atStart => exact ⟨0, Nat.zero_le _, rfl, rfl⟩
  case round =>
    obtain ⟨m, hm, rfl, hall⟩ := hrel
    have HA := Lib.hid hall; clear hall
    by_cases hlt : m < ks.length
    · obtain ⟨v, hv⟩ : ∃ v, ks[m]? = some v := ⟨ks[m], List.getElem?_eq_getElem hlt⟩
      have hcell := HC.out m v hv
      have ht : ks.take (m + 1) = ks.take m ++ [v] := by
        rw [List.take_add_one, hv]; rfl
      have HT := Lib.hid ht; have HV := Lib.hid hv; clear ht hv
      by_cases h1 : v < 0
      · have hd : decide (v < 0) = true := decide_eq_true h1
        have hf : ks.all sc = false := all_false ks m v HV.out (by unfold sc; rw [decide_eq_false (by omega)]; rfl)
        have HF := Lib.hid hf; clear hf
        go_wp2
        go_ret
        exact ⟨by rw [HF.out]; rfl, rfl⟩
      · have hd : decide (v < 0) = false := decide_eq_false h1
        by_cases h2 : v < 2305843009213688669
        · have he : decide ((2305843009213688669 : Int) ≤ v) = false := decide_eq_false (by omega)
          have hs : sc v = true := by unfold sc; rw [decide_eq_true (by omega), decide_eq_true h2]; rfl
          have HS := Lib.hid hs; clear hs
          go_wp2
          go_round
          case rel => exact ⟨m + 1, by omega, rfl, by rw [HT.out, List.all_append, HA.out]; simp [HS.out]⟩
          case measure => simp [RowKit.intOf]; omega
        · have he : decide ((2305843009213688669 : Int) ≤ v) = true := decide_eq_true (by omega)
          have hf : ks.all sc = false := all_false ks m v HV.out (by unfold sc; rw [decide_eq_false h2, Bool.and_false])
          have HF := Lib.hid hf; clear hf
          go_wp2
          go_ret
          exact ⟨by rw [HF.out]; rfl, rfl⟩
    · have hf : ks.all sc = true := by
        have := HA.out
        rwa [List.take_of_length_le (by omega)] at this
      have HF := Lib.hid hf; clear hf
      go_wp2
      go_ret
      exact ⟨by rw [HF.out]; rfl, rfl⟩
/-- scalars, as natural numbers -/
def Sc (k : Nat) : Prop := k < 2305843009213688669
/-- no scalar -/
def Ns (k : Int) : Prop := ∀ n : Nat, k = (n : Int) → ¬ Sc n
theorem sc_ok {k : Nat} (h : Sc k) : sc (k : Int) = true := by
  unfold sc; unfold Sc at h; rw [decide_eq_true (by omega), decide_eq_true (by omega)]; rfl
theorem sc_bad {k : Int} (h : Ns k) : sc k = false := by
  unfold sc
  by_cases h0 : 0 ≤ k
  · obtain ⟨n, rfl⟩ := Int.eq_ofNat_of_zero_le h0
    have := h n rfl
    unfold Sc at this
    rw [decide_eq_false (p := _ < _) (by omega), Bool.and_false]
  · rw [decide_eq_false h0]; rfl
theorem sc1 (k : Int) (g : Nat) (w : World) (b : Bool) (hb : sc k = b) (h0 : w.cell? ⟨g, 0, none⟩ = some (.int .i64 k)) :
    Calls Tryd.prog 58 #[.slice (some ⟨g, 0, none⟩) 1 1] w fun e w' => e = .returned (.bool b) ∧ w = w' := by
  have := scalars_any [k] g w (by intro j v h; cases j with
    | zero => simp at h; subst h; exact h0
    | succ j => simp at h) (by simp)
  simpa [hb] using this
theorem sc2 (k l : Int) (g : Nat) (w : World) (b : Bool) (hb : (sc k && sc l) = b) (h0 : w.cell? ⟨g, 0, none⟩ = some (.int .i64 k)) (h1 : w.cell? ⟨g, 1, none⟩ = some (.int .i64 l)) :
    Calls Tryd.prog 58 #[.slice (some ⟨g, 0, none⟩) 2 2] w fun e w' => e = .returned (.bool b) ∧ w = w' := by
  have := scalars_any [k, l] g w (by intro j v h; rcases j with _ | _ | j
                                     · simp at h; subst h; exact h0
                                     · simp at h; subst h; exact h1
                                     · simp at h) (by simp)
  simpa [hb] using this

def pz (c e : Int) : Ending := .returned (.tuple #[.int .i64 c, .int .i64 e])
set_option maxRecDepth 100000 in
theorem Mul_ok (a b : Nat) (ha : Hid (El a)) (hb : Hid (El b)) (w : World) : Calls Tryd.prog 26 #[.int .i64 (a : Int), .int .i64 (b : Int)] w fun e w' => e = pz ((a * b % 4611686018427377339 : Nat) : Int) 0 ∧ Below w.heap.size w w' := by
  obtain ⟨c, hc⟩ : ∃ c, a * b % 4611686018427377339 = c := ⟨_, rfl⟩
  rw [hc]
  have HC := Lib.hid hc; clear hc
  have a2 := ha.out.2.1; have b2 := hb.out.2.1
  go_enter Tryd.func26, Tryd.ntmps26
  go_wp2_with fail
  refine (Check_ok a ha _).mono ?_
  rintro e w1 ⟨rfl, h1⟩
  go_wp2_with fail
  refine (Check_ok b hb _).mono ?_
  rintro e w2 ⟨rfl, h2⟩
  go_wp2_with fail
  refine (product_r a b c HC a2 b2 _).mono ?_
  rintro e w3 ⟨rfl, n, rfl⟩
  go_wp2
  go_ret2
  exact ⟨rfl, below_drewN (h1.trans (h2.mono h1.size)) n⟩
set_option maxRecDepth 100000 in
theorem Mul_bad1 (a b : Int) (ha : Hid (Ne a)) (w : World) : Calls Tryd.prog 26 #[.int .i64 a, .int .i64 b] w fun e w' => e = pz 0 30 ∧ Below w.heap.size w w' := by
  go_enter Tryd.func26, Tryd.ntmps26
  go_wp2_with fail
  refine (Check_bad a ha _).mono ?_
  rintro e w1 ⟨rfl, h1⟩
  go_wp2
  go_ret2
  exact ⟨rfl, h1⟩
set_option maxRecDepth 100000 in
theorem Mul_bad2 (a : Nat) (b : Int) (ha : Hid (El a)) (hb : Hid (Ne b)) (w : World) : Calls Tryd.prog 26 #[.int .i64 (a : Int), .int .i64 b] w fun e w' => e = pz 0 30 ∧ Below w.heap.size w w' := by
  go_enter Tryd.func26, Tryd.ntmps26
  go_wp2_with fail
  refine (Check_ok a ha _).mono ?_
  rintro e w1 ⟨rfl, h1⟩
  go_wp2_with fail
  refine (Check_bad b hb _).mono ?_
  rintro e w2 ⟨rfl, h2⟩
  go_wp2
  go_ret2
  exact ⟨rfl, h1.trans (h2.mono h1.size)⟩
set_option maxRecDepth 100000 in
theorem Exp_bad (a k : Int) (ha : Hid (Ne a)) (w : World) : Calls Tryd.prog 24 #[.int .i64 a, .int .i64 k] w fun e w' => e = pz 0 30 ∧ Below w.heap.size w w' := by
  go_enter Tryd.func24, Tryd.ntmps24
  go_wp2_with fail
  refine (Check_bad a ha _).mono ?_
  rintro e w1 ⟨rfl, h1⟩
  go_wp2
  go_ret2
  exact ⟨rfl, h1⟩
set_option maxRecDepth 100000 in
theorem Exp_ok (a k : Nat) (ha : Hid (El a)) (hk : Hid (Sc k)) (w : World) : Calls Tryd.prog 24 #[.int .i64 (a : Int), .int .i64 (k : Int)] w fun e w' => e = pz (mp 4611686018427377339 a k : Int) 0 ∧ Below w.heap.size w w' := by
  have a2 := ha.out.2.1
  go_enter Tryd.func24, Tryd.ntmps24
  go_wp2_with fail
  refine (Check_ok a ha _).mono ?_
  rintro e w1 ⟨rfl, h1⟩
  go_wp2_with fail
  refine (sc1 (k : Int) _ _ true (sc_ok hk.out) (cell_new_l w1 _ 3).1).mono ?_
  rintro e w2 ⟨rfl, rfl⟩
  have hk63 : k < 9223372036854775808 := by have := hk.out; unfold Sc at this; omega
  go_wp2_with fail
  refine (power_any a k a2 hk63 _).mono ?_
  rintro e w3 ⟨rfl, h3⟩
  go_wp2
  go_ret2
  exact ⟨rfl, (h1.alloc h1.size _).trans (h3.mono (by simp; have := h1.size; omega))⟩
set_option maxRecDepth 100000 in
theorem Exp_arg (a : Nat) (k : Int) (ha : Hid (El a)) (hk : Hid (Ns k)) (w : World) : Calls Tryd.prog 24 #[.int .i64 (a : Int), .int .i64 k] w fun e w' => e = pz 0 1 ∧ Below w.heap.size w w' := by
  have a2 := ha.out.2.1
  go_enter Tryd.func24, Tryd.ntmps24
  go_wp2_with fail
  refine (Check_ok a ha _).mono ?_
  rintro e w1 ⟨rfl, h1⟩
  go_wp2_with fail
  refine (sc1 k _ _ false (sc_bad hk.out) (cell_new_l w1 _ 3).1).mono ?_
  rintro e w2 ⟨rfl, rfl⟩
  go_wp2
  go_ret2
  exact ⟨rfl, h1.alloc h1.size _⟩
theorem scQ1 : Hid (Sc 2305843009213688668) := Lib.hid (by unfold Sc; omega)
theorem el4 : Hid (El 4) := Lib.hid ⟨by decide, by decide, by decide +kernel⟩
set_option maxRecDepth 100000 in
theorem Inv_ok (a : Nat) (ha : Hid (El a)) (w : World) : Calls Tryd.prog 28 #[.int .i64 (a : Int)] w fun e w' => e = pz (mp 4611686018427377339 a 2305843009213688668 : Int) 0 ∧ Below w.heap.size w w' := by
  go_enter Tryd.func28, Tryd.ntmps28
  go_wp2_with fail
  refine (Exp_ok a 2305843009213688668 ha scQ1 _).mono ?_
  unfold pz
  rintro e w1 ⟨rfl, h1⟩
  go_wp2
  go_ret2
  exact ⟨rfl, h1⟩
set_option maxRecDepth 100000 in
theorem Inv_bad (a : Int) (ha : Hid (Ne a)) (w : World) : Calls Tryd.prog 28 #[.int .i64 a] w fun e w' => e = pz 0 30 ∧ Below w.heap.size w w' := by
  go_enter Tryd.func28, Tryd.ntmps28
  go_wp2_with fail
  refine (Exp_bad a _ ha _).mono ?_
  unfold pz
  rintro e w1 ⟨rfl, h1⟩
  go_wp2
  go_ret2
  exact ⟨rfl, h1⟩
set_option maxRecDepth 100000 in
theorem Base_ok (k : Nat) (hk : Hid (Sc k)) (w : World) : Calls Tryd.prog 23 #[.int .i64 (k : Int)] w fun e w' => e = pz (mp 4611686018427377339 4 k : Int) 0 ∧ Below w.heap.size w w' := by
  go_enter Tryd.func23, Tryd.ntmps23
  go_wp2_with fail
  refine (Exp_ok 4 k el4 hk _).mono ?_
  unfold pz
  rintro e w1 ⟨rfl, h1⟩
  go_wp2
  go_ret2
  exact ⟨rfl, h1⟩
set_option maxRecDepth 100000 in
theorem Base_arg (k : Int) (hk : Hid (Ns k)) (w : World) : Calls Tryd.prog 23 #[.int .i64 k] w fun e w' => e = pz 0 1 ∧ Below w.heap.size w w' := by
  go_enter Tryd.func23, Tryd.ntmps23
  go_wp2_with fail
  refine (Exp_arg 4 k el4 hk _).mono ?_
  unfold pz
  rintro e w1 ⟨rfl, h1⟩
  go_wp2
  go_ret2
  exact ⟨rfl, h1⟩
set_option maxRecDepth 100000 in
theorem Sum_ok (a b : Nat) (ha : Hid (Sc a)) (hb : Hid (Sc b)) (w : World) : Calls Tryd.prog 46 #[.int .i64 (a : Int), .int .i64 (b : Int)] w fun e w' => e = pz (((a + b) % 2305843009213688669 : Nat) : Int) 0 ∧ Below w.heap.size w w' := by
  have a2 : a < 2305843009213688669 := ha.out
  have b2 : b < 2305843009213688669 := hb.out
  go_enter Tryd.func46, Tryd.ntmps46
  go_wp2_with fail
  refine (sc2 (a : Int) (b : Int) _ _ true (by rw [sc_ok ha.out, sc_ok hb.out]; rfl) (by simp [go_sem]) (by simp [go_sem])).mono ?_
  rintro e w2 ⟨rfl, rfl⟩
  go_wp2
  go_ret2
  exact ⟨rfl, (Below.refl _ _).alloc (Nat.le_refl _) _⟩
set_option maxRecDepth 100000 in
theorem Sum_arg (a b : Int) (h : Hid ((sc a && sc b) = false)) (w : World) : Calls Tryd.prog 46 #[.int .i64 a, .int .i64 b] w fun e w' => e = pz 0 1 ∧ Below w.heap.size w w' := by
  go_enter Tryd.func46, Tryd.ntmps46
  go_wp2_with fail
  refine (sc2 a b _ _ false h.out (by simp [go_sem]) (by simp [go_sem])).mono ?_
  rintro e w2 ⟨rfl, rfl⟩
  go_wp2
  go_ret2
  exact ⟨rfl, (Below.refl _ _).alloc (Nat.le_refl _) _⟩
theorem product_q (a b r : Nat) (h : Hid (a * b % 2305843009213688669 = r)) (ha : a < 2305843009213688669) (hb : b < 2305843009213688669) (w : World) :
    Calls Tryd.prog 59 #[.int .i64 (a : Int), .int .i64 (b : Int), .int .i64 2305843009213688669] w fun e w' => e = .returned (.int .i64 (r : Int)) ∧ ∃ n, w' = w.drewN n :=
  (product_any a b 2305843009213688669 dvQ (by omega) (by omega) w).mono fun e w' ⟨h1, h2⟩ => ⟨by rw [h1, h.out], h2⟩
set_option maxRecDepth 100000 in
theorem Product_ok (a b : Nat) (ha : Hid (Sc a)) (hb : Hid (Sc b)) (w : World) : Calls Tryd.prog 29 #[.int .i64 (a : Int), .int .i64 (b : Int)] w fun e w' => e = pz ((a * b % 2305843009213688669 : Nat) : Int) 0 ∧ Below w.heap.size w w' := by
  have a2 : a < 2305843009213688669 := ha.out
  have b2 : b < 2305843009213688669 := hb.out
  obtain ⟨c, hc⟩ : ∃ c, a * b % 2305843009213688669 = c := ⟨_, rfl⟩
  rw [hc]
  have HC := Lib.hid hc; clear hc
  go_enter Tryd.func29, Tryd.ntmps29
  go_wp2_with fail
  refine (sc2 (a : Int) (b : Int) _ _ true (by rw [sc_ok ha.out, sc_ok hb.out]; rfl) (by simp [go_sem]) (by simp [go_sem])).mono ?_
  rintro e w2 ⟨rfl, rfl⟩
  go_wp2_with fail
  refine (product_q a b c HC a2 b2 _).mono ?_
  rintro e w3 ⟨rfl, n, rfl⟩
  go_wp2
  go_ret2
  exact ⟨rfl, below_drewN ((Below.refl _ _).alloc (Nat.le_refl _) _) n⟩
set_option maxRecDepth 100000 in
theorem Product_arg (a b : Int) (h : Hid ((sc a && sc b) = false)) (w : World) : Calls Tryd.prog 29 #[.int .i64 a, .int .i64 b] w fun e w' => e = pz 0 1 ∧ Below w.heap.size w w' := by
  go_enter Tryd.func29, Tryd.ntmps29
  go_wp2_with fail
  refine (sc2 a b _ _ false h.out (by simp [go_sem]) (by simp [go_sem])).mono ?_
  rintro e w2 ⟨rfl, rfl⟩
  go_wp2
  go_ret2
  exact ⟨rfl, (Below.refl _ _).alloc (Nat.le_refl _) _⟩
end Go.Proofs.YtaoehkoffhnidaaDoor

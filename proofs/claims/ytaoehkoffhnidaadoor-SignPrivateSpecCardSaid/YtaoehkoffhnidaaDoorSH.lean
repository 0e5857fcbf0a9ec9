/- Verify of the program. -/
import Derived.Test.YtaoehkoffhnidaaDoorSB
namespace Go.Proofs.YtaoehkoffhnidaaDoor
open Go.RowKit Go
open Dg (Konst BS)
set_option linter.unusedVariables false
set_option maxRecDepth 20000
set_option linter.unusedSimpArgs false
theorem all_range_eqI : ∀ (xs ys : List Int), xs.length = ys.length → ((List.range xs.length).all fun i => xs.getD i 0 == ys.getD i 0) = (xs == ys)
  | [], [], _ => rfl
  | x :: xs, y :: ys, h => by
    have ih := all_range_eqI xs ys (by simpa using h)
    rw [List.length_cons, List.range_succ_eq_map, List.all_cons, List.all_map]
    simp only [List.getD_cons_zero, Function.comp_def, List.getD_cons_succ, ih]
    simp [List.cons_beq_cons]
  | [], _ :: _, h => by simp at h
  | _ :: _, [], h => by simp at h
/-- arrays of numbers are compared -/
theorem run_equalIn_ints {P : Program} (w : World) (d : Nat) (t e : TypeId) (n : Nat) (k : IntKind) (ht : P.underlying t = some (.array n e)) (he : P.underlying e = some (.int k)) (hsz : ∀ w, (sizeOf e).run P w = .ok 1 w)
    (xs ys : List Int) (hx : xs.length = n) (hy : ys.length = n) :
    (Op.equalIn (d + 2) t (.agg (xs.map (Value.int k)).toArray) (.agg (ys.map (Value.int k)).toArray)).run P w = .ok (xs == ys) w := by
  rw [← all_range_eqI xs ys (hx.trans hy.symm), hx, List.range_eq_range', Op.equalIn]
  simp only [Sem.run_bind, run_underlying ht, Result.andThen_ok, hsz, Std.Legacy.Range.forIn_eq_forIn_range', Std.Legacy.Range.size, Nat.sub_zero, Nat.add_sub_cancel, Nat.div_one]
  have hl : ∀ i ∈ List.range' 0 n 1, i < n := fun i hi => by simpa using (List.mem_range'_1.1 hi).2
  generalize List.range' 0 n 1 = l at hl ⊢
  induction l with
  | nil => simp
  | cons i l ih =>
    have hi : i < n := hl i (by simp)
    have px : (part e (xs.map (Value.int k)).toArray (i * 1)).run P w = .ok (Value.int k (xs.getD i 0)) w := by
      simp [part, isAgg, run_underlying he, List.getD, List.getElem?_eq_getElem (show i < xs.length by omega)]
    have py : (part e (ys.map (Value.int k)).toArray (i * 1)).run P w = .ok (Value.int k (ys.getD i 0)) w := by
      simp [part, isAgg, run_underlying he, List.getD, List.getElem?_eq_getElem (show i < ys.length by omega)]
    have pe : (Op.equalIn (d + 1) e (Value.int k (xs.getD i 0)) (Value.int k (ys.getD i 0))).run P w = .ok (xs.getD i 0 == ys.getD i 0) w := by
      rw [run_equalIn_int w d e k k _ _ he]
    simp only [List.forIn_cons, Sem.run_bind, px, py, pe, Result.andThen_ok, List.all_cons]
    cases hb : (xs.getD i 0 == ys.getD i 0)
    · simp
    · simp only [Bool.not_true, Bool.false_eq_true, if_false, Sem.run_pure, Result.andThen_ok, Bool.true_and]
      exact ih fun j hj => hl j (by simp [hj])
theorem size26 : ∀ w : World, (sizeOf 26).run Tryd.prog w = .ok 1 w := fun w => by
  obtain ⟨i, hi, hf⟩ := Option.map_eq_some_iff.1 (show (Tryd.prog.info? 26).map (·.size) = some 1 by kernel_rfl)
  simp [sizeOf, typeInfo, hi, hf]
theorem errs_eq (a b c : Int) (w : World) (r : Bool) (h : ([a, b, c] == [0, 0, 0]) = r) : (Op.equalIn 10000 60 (.agg #[.int .i64 a, .int .i64 b, .int .i64 c]) (.agg #[.int .i64 0, .int .i64 0, .int .i64 0])).run Tryd.prog w = .ok r w := by
  rw [← h]
  exact run_equalIn_ints (P := Tryd.prog) w 9998 60 26 3 .i64 Tryd.underlying60 Tryd.underlying26 size26 [a, b, c] [0, 0, 0] rfl rfl
theorem el_ne0 : Hid (Ne 0) := Lib.hid fun n h hn => by have := hn.1; omega
theorem base_t (S : Int) : ∃ c e : Int, Hid (∀ w, Calls Tryd.prog 23 #[.int .i64 S] w fun x w' => x = pz c e ∧ Below w.heap.size w w') ∧ ((e = 0 ∧ ∃ s : Nat, S = (s : Int) ∧ Hid (Sc s) ∧ c = (mp 4611686018427377339 4 s : Nat)) ∨ (e = 1 ∧ Hid (Ns S))) := by
  rcases sc_or S with ⟨s, rfl, h⟩ | h
  · exact ⟨_, 0, Lib.hid (Base_ok s h), .inl ⟨rfl, s, rfl, h, rfl⟩⟩
  · exact ⟨_, 1, Lib.hid (Base_arg S h), .inr ⟨rfl, h⟩⟩
theorem exp_t (a : Int) (k : Nat) (hk : Hid (Sc k)) : ∃ c e : Int, Hid (∀ w, Calls Tryd.prog 24 #[.int .i64 a, .int .i64 (k : Int)] w fun x w' => x = pz c e ∧ Below w.heap.size w w') ∧ ((e = 0 ∧ ∃ n : Nat, a = (n : Int) ∧ Hid (El n) ∧ c = (mp 4611686018427377339 n k : Nat)) ∨ (e = 30 ∧ Hid (Ne a))) := by
  rcases el_or a with ⟨n, rfl, h⟩ | h
  · exact ⟨_, 0, Lib.hid (Exp_ok n k h hk), .inl ⟨rfl, n, rfl, h, rfl⟩⟩
  · exact ⟨_, 30, Lib.hid (Exp_bad a k h), .inr ⟨rfl, h⟩⟩
theorem mul_t (a b : Int) : ∃ c e : Int, Hid (∀ w, Calls Tryd.prog 26 #[.int .i64 a, .int .i64 b] w fun x w' => x = pz c e ∧ Below w.heap.size w w') ∧ ((e = 0 ∧ ∃ m n : Nat, a = (m : Int) ∧ b = (n : Int) ∧ Hid (El m) ∧ c = (m * n % 4611686018427377339 : Nat)) ∨ (e = 30 ∧ (Hid (Ne a) ∨ Hid (Ne b)))) := by
  rcases el_or a with ⟨m, rfl, ha⟩ | ha
  · rcases el_or b with ⟨n, rfl, hb⟩ | hb
    · exact ⟨_, 0, Lib.hid (Mul_ok m n ha hb), .inl ⟨rfl, m, n, rfl, rfl, ha, rfl⟩⟩
    · exact ⟨_, 30, Lib.hid (Mul_bad2 m b ha hb), .inr ⟨rfl, .inr hb⟩⟩
  · exact ⟨_, 30, Lib.hid (Mul_bad1 a b ha), .inr ⟨rfl, .inl ha⟩⟩
/-- what Verify asks -/
def Vf (pub R S : Int) (m : List UInt8) : Prop := ∃ p r s : Nat, pub = (p : Int) ∧ R = (r : Int) ∧ S = (s : Int) ∧ El p ∧ El r ∧ Sc s ∧
  mp 4611686018427377339 4 s = r * mp 4611686018427377339 p (chal pub R m) % 4611686018427377339
theorem el_pow' {a : Nat} (h : El a) (k : Nat) (hk : k < 2305843009213688669) : El (mp 4611686018427377339 a k) := by
  rw [mpP _ _ (by omega)]; exact el_pow h k
theorem vf_key (pub R S : Int) (m : List UInt8) (k : Nat) (c1 e1 c2 e2 c3 e3 : Int) (hkk : k = chal pub R m) (hks : Hid (Sc k))
    (hB : ((e1 = 0 ∧ ∃ s : Nat, S = (s : Int) ∧ Hid (Sc s) ∧ c1 = (mp 4611686018427377339 4 s : Nat)) ∨ (e1 = 1 ∧ Hid (Ns S))))
    (hX : ((e2 = 0 ∧ ∃ n : Nat, pub = (n : Int) ∧ Hid (El n) ∧ c2 = (mp 4611686018427377339 n k : Nat)) ∨ (e2 = 30 ∧ Hid (Ne pub))))
    (hM : ((e3 = 0 ∧ ∃ m n : Nat, R = (m : Int) ∧ c2 = (n : Int) ∧ Hid (El m) ∧ c3 = (m * n % 4611686018427377339 : Nat)) ∨ (e3 = 30 ∧ (Hid (Ne R) ∨ Hid (Ne c2))))) :
    ((e1 == 0 && (e2 == 0 && e3 == 0)) && (c1 == c3)) = true ↔ Vf pub R S m := by
  constructor
  · intro h
    simp only [Bool.and_eq_true, beq_iff_eq] at h
    obtain ⟨⟨h1, h2, h3⟩, h4⟩ := h
    rcases hB with ⟨_, s, rfl, ss, rfl⟩ | ⟨rfl, _⟩
    · rcases hX with ⟨_, q, rfl, qq, rfl⟩ | ⟨rfl, _⟩
      · rcases hM with ⟨_, x, y, rfl, hy, xx, rfl⟩ | ⟨rfl, _⟩
        · refine ⟨q, x, s, rfl, rfl, rfl, qq.out, xx.out, ss.out, ?_⟩
          have e : mp 4611686018427377339 q k = y := by exact_mod_cast hy
          rw [← hkk, e]; exact_mod_cast h4
        · omega
      · omega
    · omega
  · rintro ⟨q, x, s, rfl, rfl, rfl, hq, hx, hs, he⟩
    rcases hB with ⟨rfl, s', es, ss, rfl⟩ | ⟨_, hb⟩
    · rcases hX with ⟨rfl, q', eq, qq, rfl⟩ | ⟨_, hb⟩
      · rcases hM with ⟨rfl, x', y, ex, hy, xx, rfl⟩ | ⟨_, hb | hb⟩
        · obtain rfl : s = s' := by omega
          obtain rfl : q = q' := by omega
          obtain rfl : x = x' := by omega
          have e : mp 4611686018427377339 q k = y := by exact_mod_cast hy
          rw [← hkk, e] at he
          simp only [beq_self_eq_true, Bool.true_and, beq_iff_eq]
          exact_mod_cast he
        · exact absurd hx (hb.out x rfl)
        · obtain rfl : q = q' := by omega
          exact absurd (el_pow' hq k hks.out) (hb.out _ rfl)
      · exact absurd hq (hb.out q rfl)
    · exact absurd hs (hb.out s rfl)
set_option maxRecDepth 100000 in
set_option maxHeartbeats 2000000 in
theorem Verify_any (pub R S : Int) (v : Value) (m : List UInt8) (w : World) (hv : BS w v m) (hk : Konst w) (hn : m.length ≤ 1000000000) :
    Calls Tryd.prog 20 #[.int .i64 pub, v, .agg #[.int .i64 R, .int .i64 S]] w fun e w' => ∃ b, e = .returned (.bool b) ∧ (b = true ↔ Vf pub R S m) ∧ Below w.heap.size w w' := by
  obtain ⟨p, c, rfl⟩ := hv.form
  have HV := Lib.hid hv; have HK := Lib.hid hk; have HN := Lib.hid hn
  obtain ⟨ln, hln⟩ : ∃ ln, ln = m.length := ⟨_, rfl⟩
  rw [← hln] at HV ⊢
  obtain ⟨k, hkk⟩ : ∃ k, k = chal pub R m := ⟨_, rfl⟩
  have hks : Hid (Sc k) := Lib.hid (by rw [hkk]; exact sclOf_lt _ _)
  obtain ⟨c1, e1, B, hB⟩ := base_t S
  obtain ⟨c2, e2, X, hX⟩ := exp_t pub k hks
  obtain ⟨c3, e3, M, hM⟩ := mul_t R c2
  obtain ⟨bb, hbb⟩ : ∃ bb, bb = ((e1 == 0 && (e2 == 0 && e3 == 0)) && (c1 == c3)) := ⟨_, rfl⟩
  have key : Hid (bb = true ↔ Vf pub R S m) := Lib.hid (by rw [hbb]; exact vf_key pub R S m k c1 e1 c2 e2 c3 e3 hkk hks hB hX hM)
  have HBB := Lib.hid hbb
  have HKK := Lib.hid hkk
  have l1 : e1 = 0 ∨ e1 = 1 := by rcases hB with ⟨h, _⟩ | ⟨h, _⟩ <;> simp [h]
  have l2 : e2 = 0 ∨ e2 = 30 := by rcases hX with ⟨h, _⟩ | ⟨h, _⟩ <;> simp [h]
  have l3 : e3 = 0 ∨ e3 = 30 := by rcases hM with ⟨h, _⟩ | ⟨h, _⟩ <;> simp [h]
  clear hB hX hM hv hk hn hln hkk hbb
  have he := fun w : World => errs_eq e1 e2 e3 w _ rfl
  rcases l1 with rfl | rfl <;> rcases l2 with rfl | rfl <;> rcases l3 with rfl | rfl
  all_goals
    simp only [show (([0, 0, 0] : List Int) == [0, 0, 0]) = true from rfl, show (([0, 0, 30] : List Int) == [0, 0, 0]) = false from rfl, show (([0, 30, 0] : List Int) == [0, 0, 0]) = false from rfl, show (([0, 30, 30] : List Int) == [0, 0, 0]) = false from rfl, show (([1, 0, 0] : List Int) == [0, 0, 0]) = false from rfl, show (([1, 0, 30] : List Int) == [0, 0, 0]) = false from rfl, show (([1, 30, 0] : List Int) == [0, 0, 0]) = false from rfl, show (([1, 30, 30] : List Int) == [0, 0, 0]) = false from rfl] at he
    go_enter Tryd.func20, Tryd.ntmps20
    go_wp2_with fail
    refine Dg.calls_alloc (zs := [.int .i64 R, .int .i64 S]) ?_
    intro W0 hc0 hf0 hb0 hs0
    obtain ⟨g, hg⟩ : ∃ g, g = w.heap.size := ⟨_, rfl⟩
    rw [← hg] at hc0 ⊢
    have a0 : Hid (W0.cell? ⟨g, 0, none⟩ = some (.int .i64 R)) := hc0.at0 (j := 0) rfl
    have B0 := Lib.hid hb0
    clear hc0 hf0 hb0 hs0 hg
    refine (B.out _).mono ?_
    unfold pz
    rintro e w1 ⟨rfl, h1⟩
    have a1 := Dg.cell_up a0.out h1
    have A1 := Lib.hid a1
    have B1 := Lib.hid (Dg.below_tr B0.out h1)
    clear h1
    go_wp2_with fail
    clear a1
    refine (challenge_any pub R _ m _ (HV.out.ups B1.out) (HK.out.ups B1.out) HN.out).mono ?_
    rintro e w2 ⟨rfl, h2⟩
    have A2 := Lib.hid (Dg.cell_up A1.out h2)
    have B2 := Lib.hid (Dg.below_tr B1.out h2)
    clear h2
    rw [← HKK.out]
    go_wp2_with fail
    refine (X.out _).mono ?_
    unfold pz
    rintro e w3 ⟨rfl, h3⟩
    have a3 := Dg.cell_up A2.out h3
    have B3 := Lib.hid (Dg.below_tr B2.out h3)
    clear h3
    go_wp2_with fail
    clear a3
    refine (M.out _).mono ?_
    unfold pz
    rintro e w4 ⟨rfl, h4⟩
    have B4 := Lib.hid (Dg.below_tr B3.out h4)
    clear h4
    go_wp2
    go_ret
    exact ⟨bb, by rw [HBB.out]; rfl, key.out, B4.out⟩
end Go.Proofs.YtaoehkoffhnidaaDoor
namespace Go.Proofs.YtaoehkoffhnidaaDoor
open Go.RowKit Go
open Dg (Konst BS)
set_option linter.unusedVariables false
set_option maxRecDepth 20000
set_option linter.unusedSimpArgs false
set_option maxRecDepth 100000 in
set_option maxHeartbeats 2000000 in
theorem rVerify_any (pub R S : Int) (v : Value) (m : List UInt8) (w : World) (hv : BS w v m) (hn : m.length ≤ 90000000) :
    Calls Tryd.prog 21 #[.int .i64 pub, v, .agg #[.int .i64 R, .int .i64 S]] w fun e w' => ∃ b, e = .returned (.bool b) ∧ (b = true ↔ Vf pub R S m) ∧ Below w.heap.size w w' := by
  obtain ⟨p, c, rfl⟩ := hv.form
  have HV := Lib.hid hv; have HN := Lib.hid hn
  obtain ⟨ln, hln⟩ : ∃ ln, ln = m.length := ⟨_, rfl⟩
  rw [← hln] at HV ⊢
  have hb0 := Dg.below_al w (.cells #[.int .i64 R, .int .i64 S] 30)
  have hc0 := Dg.cells_alloc w [.int .i64 R, .int .i64 S] 30
  obtain ⟨g, hg⟩ : ∃ g, g = w.heap.size := ⟨_, rfl⟩
  rw [← hg] at hc0
  obtain ⟨W0, hW0⟩ : ∃ W0, W0 = w.alloc (.cells #[.int .i64 R, .int .i64 S] 30) := ⟨_, rfl⟩
  rw [show w.alloc (.cells [Value.int .i64 R, .int .i64 S].toArray 30) = W0 from hW0.symm] at hc0
  rw [← hW0] at hb0
  have a0 : Hid (W0.cell? ⟨g, 0, none⟩ = some (.int .i64 R)) := hc0.at0 (j := 0) rfl
  have a1 : Hid (W0.cell? ⟨g, 1, none⟩ = some (.int .i64 S)) := hc0.at0 (j := 1) rfl
  have B0 := Lib.hid hb0; have HG := Lib.hid hg; have HW := Lib.hid hW0
  clear hc0 hb0 hg hW0 hv hn hln
  have bad : (¬ Vf pub R S m) → (false = true ↔ Vf pub R S m) := fun h => ⟨fun e => absurd e (by decide), fun k => absurd k h⟩
  rcases el_or pub with ⟨q, rfl, hq⟩ | hq
  · rcases el_or R with ⟨r, rfl, hr⟩ | hr
    · by_cases s0 : S < 0
      · have nv := Lib.hid (bad (by rintro ⟨p, r, s, _, _, rfl, _⟩; omega))
        go_enter Tryd.func21, Tryd.ntmps21
        go_wp2_with fail
        rw [← HG.out, ← HW.out]
        refine (rCheck_ok q hq _).mono ?_
        rintro e u ⟨rfl, rfl⟩
        have c0 := a0.out; have c1 := a1.out
        go_wp2_with fail
        refine (rCheck_ok r hr _).mono ?_
        rintro e u ⟨rfl, rfl⟩
        go_wp2
        go_ret
        exact ⟨false, rfl, nv.out, B0.out⟩
      · by_cases s1 : S < 2305843009213688669
        · obtain ⟨s, rfl⟩ := Int.eq_ofNat_of_zero_le (by omega : 0 ≤ S)
          have hs : Hid (Sc s) := Lib.hid (by unfold Sc; omega)
          obtain ⟨k, hkk⟩ : ∃ k, k = chal q r m := ⟨_, rfl⟩
          have hks : Hid (Sc k) := Lib.hid (by rw [hkk]; exact sclOf_lt _ _)
          obtain ⟨y, hy⟩ : ∃ y, mp 4611686018427377339 q k = y := ⟨_, rfl⟩
          have hye : Hid (El y) := Lib.hid (by rw [← hy]; exact el_pow' hq.out k hks.out)
          obtain ⟨x, hx⟩ : ∃ x, mp 4611686018427377339 4 s = x := ⟨_, rfl⟩
          obtain ⟨z, hz⟩ : ∃ z, r * y % 4611686018427377339 = z := ⟨_, rfl⟩
          have key : Hid (((x : Int) == (z : Int)) = true ↔ Vf q r s m) := Lib.hid (by
            constructor
            · intro h
              have h : x = z := by have := eq_of_beq h; omega
              exact ⟨q, r, s, rfl, rfl, rfl, hq.out, hr.out, hs.out, by rw [hx, ← hkk, hy, hz]; exact h⟩
            · rintro ⟨q', r', s', e1, e2, e3, _, _, _, he⟩
              obtain rfl : q = q' := by omega
              obtain rfl : r = r' := by omega
              obtain rfl : s = s' := by omega
              rw [hx, ← hkk, hy, hz] at he
              rw [he]; exact beq_self_eq_true _)
          have HY := Lib.hid hy; have HX := Lib.hid hx; have HZ := Lib.hid hz; have HKK := Lib.hid hkk
          have d2 : decide ((s : Int) < 0) = false := by simp
          have d3 : decide (2305843009213688669 ≤ (s : Int)) = false := by simp; omega
          clear hy hx hz hkk bad s0 s1
          go_enter Tryd.func21, Tryd.ntmps21
          go_wp2_with fail
          rw [← HG.out, ← HW.out]
          refine (rCheck_ok q hq _).mono ?_
          rintro e u ⟨rfl, rfl⟩
          have c0 := a0.out; have c1 := a1.out
          go_wp2_with fail
          refine (rCheck_ok r hr _).mono ?_
          rintro e u ⟨rfl, rfl⟩
          go_wp2_with fail
          refine (rbaser s x hs HX _).mono ?_
          unfold pz
          rintro e u ⟨rfl, rfl⟩
          go_wp2_with fail
          clear c0 c1 d2 d3
          refine (rchal_any q r _ m _ (HV.out.ups B0.out) HN.out).mono ?_
          rintro e w1 ⟨rfl, h1⟩
          rw [← HKK.out]
          have c0 := Dg.cell_up a0.out h1
          have B1 := Lib.hid (Dg.below_tr B0.out h1)
          clear h1
          go_wp2_with fail
          refine (rexpr q k y hq hks HY _).mono ?_
          unfold pz
          rintro e u ⟨rfl, rfl⟩
          go_wp2_with fail
          refine (rmulr r y z hr hye HZ _).mono ?_
          unfold pz
          rintro e u ⟨rfl, rfl⟩
          clear c0
          go_wp2
          go_ret
          exact ⟨_, rfl, key.out, B1.out⟩
        · have nv := Lib.hid (bad (by rintro ⟨p, r, s, _, _, rfl, _, _, hs, _⟩; unfold Sc at hs; omega))
          have d3 : (2305843009213688669 : Int) ≤ S := by omega
          clear bad
          go_enter Tryd.func21, Tryd.ntmps21
          go_wp2_with fail
          rw [← HG.out, ← HW.out]
          refine (rCheck_ok q hq _).mono ?_
          rintro e u ⟨rfl, rfl⟩
          have c0 := a0.out; have c1 := a1.out
          go_wp2_with fail
          refine (rCheck_ok r hr _).mono ?_
          rintro e u ⟨rfl, rfl⟩
          go_wp2
          go_ret
          exact ⟨false, rfl, nv.out, B0.out⟩
    · have nv := Lib.hid (bad (by rintro ⟨p, r, s, _, rfl, _, _, h, _⟩; exact hr.out r rfl h))
      clear bad
      go_enter Tryd.func21, Tryd.ntmps21
      go_wp2_with fail
      rw [← HG.out, ← HW.out]
      refine (rCheck_ok q hq _).mono ?_
      rintro e u ⟨rfl, rfl⟩
      have c0 := a0.out; have c1 := a1.out
      go_wp2_with fail
      refine (rCheck_bad R hr _).mono ?_
      rintro e u ⟨rfl, rfl⟩
      go_wp2
      go_ret
      exact ⟨false, rfl, nv.out, B0.out⟩
  · have nv := Lib.hid (bad (by rintro ⟨p, r, s, rfl, _, _, h, _⟩; exact hq.out p rfl h))
    clear bad
    go_enter Tryd.func21, Tryd.ntmps21
    go_wp2_with fail
    rw [← HG.out, ← HW.out]
    refine (rCheck_bad pub hq _).mono ?_
    rintro e u ⟨rfl, rfl⟩
    go_wp2
    go_ret
    exact ⟨false, rfl, nv.out, B0.out⟩
end Go.Proofs.YtaoehkoffhnidaaDoor

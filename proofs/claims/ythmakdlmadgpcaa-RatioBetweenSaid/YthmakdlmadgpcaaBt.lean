/- The law of means between values. -/
import Derived.Test.YthmakdlmadgpcaaBp
namespace Go.Proofs.Ythmakdlmadgpcaa
open Go.RowKit Go
set_option linter.unusedVariables false
set_option linter.unusedSimpArgs false
theorem bothc_vd2 {an ad bn bd : Int} (ha : Vd an ad) (hb : Vd bn bd) : bothc an ad bn bd = (cmpr (an * bd) (bn * ad), 0) := by
  unfold bothc; rw [if_pos (chk_ok.2 ha), if_pos (chk_ok.2 hb)]
/-- least and greatest value with a weight among the first i -/
def Inv (xs ys : List Int) (i : Nat) (lo hi : Int) (b : Bool) : Prop :=
  (b = false → ∀ j, j < i → ys.getD j 0 = 0) ∧ (b = true → ∀ j, j < i → 0 < ys.getD j 0 → lo ≤ xs.getD j 0 ∧ xs.getD j 0 ≤ hi) ∧ (b = true → ∃ j, j < i ∧ 0 < ys.getD j 0)
theorem inv_zero {xs ys : List Int} {i : Nat} {lo hi : Int} {b : Bool} (h : Inv xs ys i lo hi b) (h0 : ys.getD i 0 = 0) : Inv xs ys (i + 1) lo hi b := by
  obtain ⟨a1, a2, a3⟩ := h
  refine ⟨fun hb j hj => ?_, fun hb j hj h1 => ?_, fun hb => ?_⟩
  · rcases (by omega : j < i ∨ j = i) with h2 | rfl
    · exact a1 hb j h2
    · exact h0
  · rcases (by omega : j < i ∨ j = i) with h2 | rfl
    · exact a2 hb j h2 h1
    · omega
  · obtain ⟨j, hj, h1⟩ := a3 hb
    exact ⟨j, by omega, h1⟩
theorem inv_pos {xs ys : List Int} {i : Nat} {lo hi lo' hi' : Int} {b : Bool} (h : Inv xs ys i lo hi b) (h0 : 0 < ys.getD i 0) (h1 : lo' ≤ xs.getD i 0) (h2 : xs.getD i 0 ≤ hi') (h3 : b = true → lo' ≤ lo ∧ hi ≤ hi') : Inv xs ys (i + 1) lo' hi' true := by
  obtain ⟨a1, a2, a3⟩ := h
  refine ⟨fun hb => by simp at hb, fun _ j hj hp => ?_, fun _ => ⟨i, by omega, h0⟩⟩
  rcases (by omega : j < i ∨ j = i) with h4 | rfl
  · cases b with
    | false => have := a1 rfl j h4; omega
    | true => have := a2 rfl j h4 hp; have := h3 rfl; omega
  · exact ⟨h1, h2⟩
theorem take_getD (ys : List Int) (n j : Nat) (h : j < n) : (ys.take n).getD j 0 = ys.getD j 0 := by
  rw [List.getD_eq_getElem?_getD, List.getD_eq_getElem?_getD, List.getElem?_take, if_pos h]
set_option maxRecDepth 100000 in
set_option maxHeartbeats 8000000 in
theorem between_main (p1 p2 : Option Addr) (c1 c2 l1 l2 : Nat) (f : Int) (xs ys : List Int) (hxy : Hid (Sm xs ys)) (hlx : Hid (l1 = xs.length)) (hly : Hid (l2 = ys.length)) (hn : l1 ≤ 200) (hle : l1 ≤ l2) (hm : l2 ≤ 9223372036854775807) (hf0 : 1 ≤ f) (hf1 : f ≤ 255) (w : World)
    (hr1 : Hid (RD .i8 p1 w.heap.size xs w)) (hr2 : Hid (RD .u8 p2 w.heap.size ys w)) :
    Calls Try.prog 9 #[.slice p1 l1 c1, .slice p2 l2 c2, .int .u8 f] w fun e w' => e = .returned (.bool true) ∧ Below w.heap.size w w' := by
  have T0 := hid (Below.refl w.heap.size w)
  have hfb : (f == 0) = false := by simp; omega
  have hfd : decide (f = 0) = false := decide_eq_false (by omega)
  have hd1 : decide (200 < (l1 : Int)) = false := decide_eq_false (by omega)
  have hd2 : decide ((l2 : Int) < (l1 : Int)) = false := decide_eq_false (by omega)
  have hd3 : decide (l2 < l1) = false := decide_eq_false (by omega)
  have HF := hid (show 1 ≤ f ∧ f ≤ 255 from ⟨hf0, hf1⟩)
  have HN := hid hn; have HLE := hid hle
  go_enter Try.func9, Try.ntmps9
  go_wp2_with fail
  refine (sane_any _).mono ?_
  rintro e w1 ⟨rfl, hb1⟩
  have T1 := hid (below_t T0.out hb1)
  clear hb1
  go_wp2_with fail
  clear hd1 hd2 hd3 hfb hfd
  go_loopw [7, 8, 9, 10, 11, 12, 42] (fun q1 q2 q3 lo hi b k wr => ∃ (i : Nat) (lo' hi' : Int) (b' : Bool), i ≤ l1 ∧ k = .int .i64 (i : Int) ∧ lo = .int .i64 lo' ∧ hi = .int .i64 hi' ∧ b = .bool b' ∧ Hid (Three wr w.heap.size q1 q2 q3 (xs.take i) (ys.take i) ((ys.take i).map (· * f))) ∧ Hid (Below w.heap.size w wr) ∧ Hid (-128 ≤ lo' ∧ lo' ≤ 127 ∧ -128 ≤ hi' ∧ hi' ≤ 127) ∧ Hid (Inv xs ys i lo' hi' b'))
    (fun _ _ _ _ _ _ k _ => l1 - (RowKit.intOf k).toNat)
  case atStart => exact ⟨0, 0, 0, false, by omega, rfl, rfl, rfl, rfl, hid (by simpa using three_nil w1 w.heap.size), T1, hid (by omega), hid ⟨fun _ j hj => by omega, fun h => by simp at h, fun h => by simp at h⟩⟩
  case round =>
    obtain ⟨i, lo, hi, b, hi1, rfl, rfl, rfl, rfl, hT, hB, hLH, hI⟩ := hrel
    by_cases hlt : i < l1
    · obtain ⟨a1, rfl, hb1, hx1⟩ := (hr1.out.up hB.out) i (by rw [← hlx.out]; exact hlt)
      obtain ⟨a2, rfl, hb2, hy1⟩ := (hr2.out.up hB.out) i (by rw [← hly.out]; omega)
      have ex := take_snoc xs i (by rw [← hlx.out]; exact hlt)
      have ey := take_snoc ys i (by rw [← hly.out]; omega)
      have bx := hxy.out.x i
      have by1 := hxy.out.z i
      have iz := @inv_zero xs ys i lo hi b hI.out
      have ip := fun lo' hi' => @inv_pos xs ys i lo hi lo' hi' b hI.out
      obtain ⟨X, hX⟩ : ∃ X, X = xs.getD i 0 := ⟨_, rfl⟩
      obtain ⟨Y, hY⟩ : ∃ Y, Y = ys.getD i 0 := ⟨_, rfl⟩
      rw [← hX] at hx1 ex bx ip
      rw [← hY] at hy1 ey by1 iz ip
      obtain ⟨x1, x2⟩ := bx
      obtain ⟨y1, y2⟩ := by1
      obtain ⟨M, hM⟩ : ∃ M, Y * f = M := ⟨_, rfl⟩
      have hmb := mul_bd (show -255 ≤ Y by omega) (show Y ≤ 255 by omega) (show -255 ≤ f by omega) (show f ≤ 255 by omega)
      rw [hM] at hmb
      obtain ⟨m1, m2⟩ := hmb
      have ez : ((ys.take (i + 1)).map (· * f)) = (ys.take i).map (· * f) ++ [M] := by rw [ey, List.map_append]; simp [hM]
      have hsz := hB.out.size
      obtain ⟨q1', W1, e1, t1, g1⟩ := hT.out.app X (by simp; omega) hsz
      have hsz1 : w.heap.size ≤ W1.heap.size := Nat.le_trans hsz g1.size
      obtain ⟨q2', W2, e2, t2, g2⟩ := t1.rot.app Y (by simp; omega) hsz1
      have hsz2 : w.heap.size ≤ W2.heap.size := Nat.le_trans hsz1 g2.size
      obtain ⟨q3', W3, e3, t3, g3⟩ := t2.rot.app M (by simp; omega) hsz2
      have t4 := t3.rot
      rw [← ex, ← ey, ← ez] at t4
      have E1 := hid e1; have E2 := hid e2; have E3 := hid e3; have T4 := hid t4
      have B4 := hid (hB.out.trans ((g1.trans g2).trans g3))
      have IZ := hid iz; have IP := hid ip
      clear e1 e2 e3 t1 t2 t3 t4 g1 g2 g3 hsz hsz1 hsz2 ex ey ez iz ip hX hY hT hI
      by_cases hY0 : 0 < Y
      · have dY : decide (0 < Y) = true := decide_eq_true hY0
        cases b with
        | false =>
          have hinv := hid (IP.out X X hY0 (by omega) (by omega) (by simp))
          have hb2' := hid (show -128 ≤ X ∧ X ≤ 127 ∧ -128 ≤ X ∧ X ≤ 127 from ⟨x1, x2, x1, x2⟩)
          clear IZ IP hLH
          go_wp2_with (at_builtin; first | (refine wpList_append_run rfl (.tmp 52) (.tmp 55) 34 34 rfl _ _ _ rfl rfl E1.out ?_) | (refine wpList_append_run rfl (.tmp 57) (.tmp 59) 34 34 rfl _ _ _ rfl rfl E2.out ?_) | (refine wpList_append_run rfl (.tmp 61) (.tmp 66) 34 34 rfl _ _ _ rfl rfl E3.out ?_))
          go_roundw
          case rel => exact ⟨i + 1, X, X, true, by omega, rfl, rfl, rfl, rfl, T4, B4, hb2', hinv⟩
          case measure => simp [RowKit.intOf]; omega
        | true =>
          by_cases hlo : X < lo
          · have dlo : decide (X < lo) = true := decide_eq_true hlo
            by_cases hhi : hi < X
            · have dhi : decide (hi < X) = true := decide_eq_true hhi
              have hlh := hLH.out
              have hinv := hid (IP.out (X) (X) hY0 (by omega) (by omega) (fun _ => by omega))
              have hb2' := hid (show -128 ≤ X ∧ X ≤ 127 ∧ -128 ≤ X ∧ X ≤ 127 by omega)
              clear IZ IP hLH hlh hlo hhi
              go_wp2_with (at_builtin; first | (refine wpList_append_run rfl (.tmp 52) (.tmp 55) 34 34 rfl _ _ _ rfl rfl E1.out ?_) | (refine wpList_append_run rfl (.tmp 57) (.tmp 59) 34 34 rfl _ _ _ rfl rfl E2.out ?_) | (refine wpList_append_run rfl (.tmp 61) (.tmp 66) 34 34 rfl _ _ _ rfl rfl E3.out ?_))
              go_roundw
              case rel => exact ⟨i + 1, X, X, true, by omega, rfl, rfl, rfl, rfl, T4, B4, hb2', hinv⟩
              case measure => simp [RowKit.intOf]; omega
            · have dhi : decide (hi < X) = false := decide_eq_false hhi
              have hlh := hLH.out
              have hinv := hid (IP.out (X) (hi) hY0 (by omega) (by omega) (fun _ => by omega))
              have hb2' := hid (show -128 ≤ X ∧ X ≤ 127 ∧ -128 ≤ hi ∧ hi ≤ 127 by omega)
              clear IZ IP hLH hlh hlo hhi
              go_wp2_with (at_builtin; first | (refine wpList_append_run rfl (.tmp 52) (.tmp 55) 34 34 rfl _ _ _ rfl rfl E1.out ?_) | (refine wpList_append_run rfl (.tmp 57) (.tmp 59) 34 34 rfl _ _ _ rfl rfl E2.out ?_) | (refine wpList_append_run rfl (.tmp 61) (.tmp 66) 34 34 rfl _ _ _ rfl rfl E3.out ?_))
              go_roundw
              case rel => exact ⟨i + 1, X, hi, true, by omega, rfl, rfl, rfl, rfl, T4, B4, hb2', hinv⟩
              case measure => simp [RowKit.intOf]; omega
          · have dlo : decide (X < lo) = false := decide_eq_false hlo
            by_cases hhi : hi < X
            · have dhi : decide (hi < X) = true := decide_eq_true hhi
              have hlh := hLH.out
              have hinv := hid (IP.out (lo) (X) hY0 (by omega) (by omega) (fun _ => by omega))
              have hb2' := hid (show -128 ≤ lo ∧ lo ≤ 127 ∧ -128 ≤ X ∧ X ≤ 127 by omega)
              clear IZ IP hLH hlh hlo hhi
              go_wp2_with (at_builtin; first | (refine wpList_append_run rfl (.tmp 52) (.tmp 55) 34 34 rfl _ _ _ rfl rfl E1.out ?_) | (refine wpList_append_run rfl (.tmp 57) (.tmp 59) 34 34 rfl _ _ _ rfl rfl E2.out ?_) | (refine wpList_append_run rfl (.tmp 61) (.tmp 66) 34 34 rfl _ _ _ rfl rfl E3.out ?_))
              go_roundw
              case rel => exact ⟨i + 1, lo, X, true, by omega, rfl, rfl, rfl, rfl, T4, B4, hb2', hinv⟩
              case measure => simp [RowKit.intOf]; omega
            · have dhi : decide (hi < X) = false := decide_eq_false hhi
              have hlh := hLH.out
              have hinv := hid (IP.out (lo) (hi) hY0 (by omega) (by omega) (fun _ => by omega))
              have hb2' := hid (show -128 ≤ lo ∧ lo ≤ 127 ∧ -128 ≤ hi ∧ hi ≤ 127 by omega)
              clear IZ IP hLH hlh hlo hhi
              go_wp2_with (at_builtin; first | (refine wpList_append_run rfl (.tmp 52) (.tmp 55) 34 34 rfl _ _ _ rfl rfl E1.out ?_) | (refine wpList_append_run rfl (.tmp 57) (.tmp 59) 34 34 rfl _ _ _ rfl rfl E2.out ?_) | (refine wpList_append_run rfl (.tmp 61) (.tmp 66) 34 34 rfl _ _ _ rfl rfl E3.out ?_))
              go_roundw
              case rel => exact ⟨i + 1, lo, hi, true, by omega, rfl, rfl, rfl, rfl, T4, B4, hb2', hinv⟩
              case measure => simp [RowKit.intOf]; omega
      · have dY : decide (0 < Y) = false := decide_eq_false hY0
        have hinv := hid (IZ.out (by omega))
        clear IZ IP hY0
        go_wp2_with (at_builtin; first | (refine wpList_append_run rfl (.tmp 52) (.tmp 55) 34 34 rfl _ _ _ rfl rfl E1.out ?_) | (refine wpList_append_run rfl (.tmp 57) (.tmp 59) 34 34 rfl _ _ _ rfl rfl E2.out ?_) | (refine wpList_append_run rfl (.tmp 61) (.tmp 66) 34 34 rfl _ _ _ rfl rfl E3.out ?_))
        go_roundw
        case rel => exact ⟨i + 1, lo, hi, b, by omega, rfl, rfl, rfl, rfl, T4, B4, hLH, hinv⟩
        case measure => simp [RowKit.intOf]; omega
    · obtain rfl : i = l1 := by omega
      have hzl : (ys.take i).length = i := by simp; have := HLE.out; have := hly.out; omega
      have hsm : Sm xs (ys.take i) := ⟨hxy.out.1, fun z hz => hxy.out.2 z (List.mem_of_mem_take hz)⟩
      obtain ⟨p, q, m1, m2, hv, hz0, hz1⟩ := means f hsm (by rw [hzl, hlx.out]) (by rw [← hlx.out]; exact HN.out) HF.out
      have htx : xs.take i = xs := List.take_of_length_le (by rw [hlx.out]; exact Nat.le_refl _)
      have hT := hT.out
      rw [htx] at hT
      have V1 := hid hT.o1.is; have V2 := hid hT.o2.is; have V3 := hid hT.o3.is
      have X1 := hid (fun x (hx : x ∈ xs) => (⟨by have := hxy.out.1 x hx; omega, by have := hxy.out.1 x hx; omega⟩ : I64 x))
      have M1 := hid m1; have M2 := hid m2
      have hfin : (b = false ∧ p = 0 ∧ q = 1) ∨ (b = true ∧ (bothc lo 1 p q).1 ≤ 0 ∧ (bothc lo 1 p q).2 = 0 ∧ (bothc p q hi 1).1 ≤ 0 ∧ (bothc p q hi 1).2 = 0) := by
        have hI := hI.out
        have hLH := hLH.out
        cases b with
        | false =>
          refine .inl ⟨rfl, hz0 ?_⟩
          rw [ws_zero hsm]
          intro j hj
          have hj2 : j < i := by have := List.mem_range.1 hj; rw [hlx.out]; exact this
          rw [take_getD _ _ _ hj2]
          exact hI.1 rfl j hj2
        | true =>
          obtain ⟨j, hj, hp⟩ := hI.2.2 rfl
          have hS : ws (ys.take i) (List.range xs.length) ≠ 0 := fun h0 => by
            have := (ws_zero hsm _).1 h0 j (List.mem_range.2 (by rw [← hlx.out]; exact hj))
            rw [take_getD _ _ _ hj] at this
            omega
          have e := hz1 hS
          have hpos := (ws_sm hsm (List.range xs.length)).1
          have hbt := between hsm (List.range xs.length) lo hi (fun j hj hp => by
            have hj2 : j < i := by have := List.mem_range.1 hj; rw [hlx.out]; exact this
            rw [take_getD _ _ _ hj2] at hp
            exact hI.2.1 rfl j hj2 hp)
          have v1 := vd_int lo (by omega) (by omega)
          have v2 := vd_int hi (by omega) (by omega)
          rw [bothc_vd2 v1 hv, bothc_vd2 hv v2]
          exact .inr ⟨rfl, cmp_lo hv.q1 (by omega) e hbt.1, rfl, cmp_hi hv.q1 (by omega) e hbt.2, rfl⟩
      have HFIN := hid hfin
      have JP := hid (show I64 p from ⟨by have := hv.p1; omega, by have := hv.p2; omega⟩)
      have JQ := hid (show I64 q from ⟨by have := hv.q1; omega, by have := hv.q2; omega⟩)
      have JL := hid (show I64 lo from ⟨by have := hLH.out; omega, by have := hLH.out; omega⟩)
      have JH := hid (show I64 hi from ⟨by have := hLH.out; omega, by have := hLH.out; omega⟩)
      have T1 := hB
      clear hzl hsm m1 m2 hv hz0 hz1 htx hT hfin hI hLH hB hlt hi1
      go_wp2_with fail
      refine (Mean_any _ _ xs (ys.take i) X1 _ V1.out V2.out).mono ?_
      rintro e w2 ⟨rfl, hb2⟩
      rw [M1.out]
      have V1 := hid (V1.out.ups hb2)
      have V2 := hid (V2.out.ups hb2)
      have V3 := hid (V3.out.ups hb2)
      have T2 := hid (below_t T1.out hb2)
      clear hb2
      have A0 : Below w2.heap.size w2 (w2.alloc (.cells #[.int .i64 (p), .int .i64 (q)] 23)) := (Below.refl _ _).alloc (Nat.le_refl _) _
      have V1 := hid (V1.out.ups A0)
      have V2 := hid (V2.out.ups A0)
      have V3 := hid (V3.out.ups A0)
      have F1 := hid (fr_new w2 (p) (q))
      have T2 := hid (below_t T2.out A0)
      clear A0
      go_wp2_with fail
      refine (Mean_any _ _ xs ((ys.take i).map (· * f)) X1 _ V1.out V3.out).mono ?_
      rintro e w3 ⟨rfl, hb3⟩
      rw [M2.out]
      have V1 := hid (V1.out.ups hb3)
      have V2 := hid (V2.out.ups hb3)
      have V3 := hid (V3.out.ups hb3)
      have F1 := hid (F1.out.ups hb3)
      have T3 := hid (below_t T2.out hb3)
      clear hb3
      have A0 : Below w3.heap.size w3 (w3.alloc (.cells #[.int .i64 (p), .int .i64 (q)] 23)) := (Below.refl _ _).alloc (Nat.le_refl _) _
      have V1 := hid (V1.out.ups A0)
      have V2 := hid (V2.out.ups A0)
      have V3 := hid (V3.out.ups A0)
      have F1 := hid (F1.out.ups A0)
      have F2 := hid (fr_new w3 (p) (q))
      have T3 := hid (below_t T3.out A0)
      clear A0
      clear V1 V2 V3 M1 M2 X1
      obtain ⟨F1c0, F1c1, _, _⟩ := F1.out
      obtain ⟨F2c0, F2c1, _, _⟩ := F2.out
      rcases HFIN.out with ⟨rfl, rfl, rfl⟩ | ⟨rfl, h1, h2, h3, h4⟩
      · go_wp2
        go_ret
        exact ⟨by simp, T3.out⟩
      · obtain ⟨⟨n1, n2⟩, hn1⟩ : ∃ x, x = bothc lo 1 p q := ⟨_, rfl⟩
        obtain ⟨⟨k1, k2⟩, hk1⟩ : ∃ x, x = bothc p q hi 1 := ⟨_, rfl⟩
        rw [← hn1] at h1 h2
        rw [← hk1] at h3 h4
        simp only at h1 h2 h3 h4
        subst h2 h4
        have HN1 := hid hn1.symm; have HK1 := hid hk1.symm
        have dn : decide (n1 ≤ 0) = true := decide_eq_true h1
        have dk : decide (k1 ≤ 0) = true := decide_eq_true h3
        clear hn1 hk1 h1 h3
        go_wp2_with fail
        refine (Compare_any lo 1 p q JL.out (i64s (by decide)) JP.out JQ.out _).mono ?_
        rintro e w4 ⟨rfl, hb4⟩
        rw [HN1.out]
        have F1 := hid (F1.out.ups hb4)
        have T4 := hid (below_t T3.out hb4)
        clear F1c0 F1c1 F2c0 F2c1 hb4
        obtain ⟨F1c0, F1c1, _, _⟩ := F1.out
        go_wp2_with fail
        refine (Compare_any p q hi 1 JP.out JQ.out JH.out (i64s (by decide)) _).mono ?_
        rintro e w5 ⟨rfl, hb5⟩
        rw [HK1.out]
        have T5 := hid (below_t T4.out hb5)
        clear F1c0 F1c1 hb5
        go_wp2
        go_ret
        exact ⟨rfl, T5.out⟩
set_option maxRecDepth 100000 in
theorem between_any (v1 v2 : Value) (f : Int) (xs ys : List Int) (hx : ∀ x ∈ xs, -128 ≤ x ∧ x ≤ 127) (hy : ∀ x ∈ ys, 0 ≤ x ∧ x ≤ 255) (hf : 0 ≤ f ∧ f ≤ 255) (w : World) (hv1 : IS .i8 w v1 xs) (hv2 : IS .u8 w v2 ys) :
    Calls Try.prog 9 #[v1, v2, .int .u8 f] w fun e w' => e = .returned (.bool true) ∧ Below w.heap.size w w' := by
  obtain ⟨p1, c1, rfl⟩ := hv1.form
  obtain ⟨p2, c2, rfl⟩ := hv2.form
  have hr1 := hid hv1.rd; have hr2 := hid hv2.rd
  have hm1 := hv1.len; have hm2 := hv2.len
  unfold maxLen at hm1 hm2
  obtain ⟨l1, hl1⟩ : ∃ l1, l1 = xs.length := ⟨_, rfl⟩
  obtain ⟨l2, hl2⟩ : ∃ l2, l2 = ys.length := ⟨_, rfl⟩
  have HX := hid (show Sm xs ys from ⟨hx, hy⟩)
  rw [← hl1] at hm1 ⊢; rw [← hl2] at hm2 ⊢
  have HL1 := hid hl1; have HL2 := hid hl2
  have T0 := hid (Below.refl w.heap.size w)
  obtain ⟨hf0, hf1⟩ := hf
  clear hl1 hl2 hv1 hv2 hx hy
  by_cases h1 : 200 < l1
  · go_enter Try.func9, Try.ntmps9
    go_wp2_with fail
    refine (sane_any _).mono ?_
    rintro e w1 ⟨rfl, hb1⟩
    have T1 := hid (below_t T0.out hb1)
    clear hb1
    go_wp2
    go_ret
    exact ⟨rfl, T1.out⟩
  · by_cases h2 : l2 < l1
    · go_enter Try.func9, Try.ntmps9
      go_wp2_with fail
      refine (sane_any _).mono ?_
      rintro e w1 ⟨rfl, hb1⟩
      have T1 := hid (below_t T0.out hb1)
      clear hb1
      go_wp2
      go_ret
      exact ⟨rfl, T1.out⟩
    · by_cases h3 : f = 0
      · subst h3
        go_enter Try.func9, Try.ntmps9
        go_wp2_with fail
        refine (sane_any _).mono ?_
        rintro e w1 ⟨rfl, hb1⟩
        have T1 := hid (below_t T0.out hb1)
        clear hb1
        go_wp2
        go_ret
        exact ⟨rfl, T1.out⟩
      · exact between_main p1 p2 c1 c2 l1 l2 f xs ys HX HL1 HL2 (by omega) (by omega) hm2 (by omega) hf1 w hr1 hr2
end Go.Proofs.Ythmakdlmadgpcaa

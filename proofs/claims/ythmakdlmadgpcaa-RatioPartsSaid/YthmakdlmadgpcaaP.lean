/- The chapter's examples. -/
import Derived.Test.YthmakdlmadgpcaaO
namespace Go.Proofs.Ythmakdlmadgpcaa
open Go.RowKit Go
set_option linter.unusedVariables false
set_option linter.unusedSimpArgs false
theorem i64s {n : Int} (h : (decide (-9223372036854775808 ≤ n) && decide (n ≤ 9223372036854775807)) = true) : I64 n := by
  simp at h; exact h
/-- a row of numbers in a new block -/
theorem is_new (w : World) (l : List Int) (hn : l.length ≤ 1000) : IS .i64 (w.alloc (.cells (l.map (Value.int .i64)).toArray 3)) (.slice (some ⟨w.heap.size, 0, none⟩) l.length l.length) l := by
  refine .inr ⟨_, l.length, rfl, Nat.le_refl _, by unfold maxLen; omega, ?_, by simp⟩
  intro j v hj
  have h := World.alloc_heap_new w (.cells (l.map (Value.int .i64)).toArray 3)
  have hadd : (⟨w.heap.size, 0, none⟩ : Addr).add j = ⟨w.heap.size, j, none⟩ := by
    unfold Addr.add; split
    · rename_i h; subst h; rfl
    · simp
  rw [hadd]
  obtain ⟨hjl, hjv⟩ := List.getElem?_eq_some_iff.1 hj
  simp only [World.cell?, h]
  simpa using hj
set_option maxRecDepth 100000 in
set_option maxHeartbeats 4000000 in
theorem sane_any (w : World) : Calls Try.prog 11 #[] w fun e w' => e = .returned (.bool true) ∧ Below w.heap.size w w' := by
  go_enter Try.func11, Try.ntmps11
  go_wp2_with fail
  refine (New_any (6) (-4) (i64s (by decide)) (i64s (by decide)) _).mono ?_
  rintro e w1 ⟨rfl, hb1⟩
  rw [show nw (6) (-4) = (-3, 2, 0) from by decide +kernel]
  have HB1 := hid hb1; clear hb1
  have A1 : Below w1.heap.size w1 (w1.alloc (.cells #[.int .i64 (-3), .int .i64 (2)] 23)) := (Below.refl _ _).alloc (Nat.le_refl _) _
  have F1 := hid (fr_new w1 (-3) (2))
  have T1 := hid (HB1.out.trans (A1.mono HB1.out.size))
  clear A1
  go_wp2_with fail
  refine (New_any (1) (0) (i64s (by decide)) (i64s (by decide)) _).mono ?_
  rintro e w2 ⟨rfl, hb2⟩
  rw [show nw (1) (0) = (0, 0, 1) from by decide +kernel]
  have HB2 := hid hb2; clear hb2
  have F1 := hid (F1.out.ups HB2.out)
  have A2 : Below w2.heap.size w2 (w2.alloc (.cells #[.int .i64 (0), .int .i64 (0)] 23)) := (Below.refl _ _).alloc (Nat.le_refl _) _
  have F1 := hid (F1.out.ups A2)
  have F2 := hid (fr_new w2 (0) (0))
  have T2 := hid ((T1.out.trans (HB2.out.mono T1.out.size)).trans (A2.mono (Nat.le_trans T1.out.size HB2.out.size)))
  clear A2
  go_wp2_with fail
  refine (New_any (2147483648) (2) (i64s (by decide)) (i64s (by decide)) _).mono ?_
  rintro e w3 ⟨rfl, hb3⟩
  rw [show nw (2147483648) (2) = (1073741824, 1, 0) from by decide +kernel]
  have HB3 := hid hb3; clear hb3
  have F1 := hid (F1.out.ups HB3.out)
  have A3 : Below w3.heap.size w3 (w3.alloc (.cells #[.int .i64 (1073741824), .int .i64 (1)] 23)) := (Below.refl _ _).alloc (Nat.le_refl _) _
  have F1 := hid (F1.out.ups A3)
  have F3 := hid (fr_new w3 (1073741824) (1))
  have T3 := hid ((T2.out.trans (HB3.out.mono T2.out.size)).trans (A3.mono (Nat.le_trans T2.out.size HB3.out.size)))
  clear A3
  go_wp2_with fail
  refine (New_any (2147483649) (2) (i64s (by decide)) (i64s (by decide)) _).mono ?_
  rintro e w4 ⟨rfl, hb4⟩
  rw [show nw (2147483649) (2) = (0, 0, 2) from by decide +kernel]
  have HB4 := hid hb4; clear hb4
  have F1 := hid (F1.out.ups HB4.out)
  have F3 := hid (F3.out.ups HB4.out)
  have A4 : Below w4.heap.size w4 (w4.alloc (.cells #[.int .i64 (0), .int .i64 (0)] 23)) := (Below.refl _ _).alloc (Nat.le_refl _) _
  have F1 := hid (F1.out.ups A4)
  have F3 := hid (F3.out.ups A4)
  have F4 := hid (fr_new w4 (0) (0))
  have T4 := hid ((T3.out.trans (HB4.out.mono T3.out.size)).trans (A4.mono (Nat.le_trans T3.out.size HB4.out.size)))
  clear A4
  go_wp2_with fail
  refine (New_any (1) (2) (i64s (by decide)) (i64s (by decide)) _).mono ?_
  rintro e w5 ⟨rfl, hb5⟩
  rw [show nw (1) (2) = (1, 2, 0) from by decide +kernel]
  have HB5 := hid hb5; clear hb5
  have F1 := hid (F1.out.ups HB5.out)
  have F3 := hid (F3.out.ups HB5.out)
  have A5 : Below w5.heap.size w5 (w5.alloc (.cells #[.int .i64 (1), .int .i64 (2)] 23)) := (Below.refl _ _).alloc (Nat.le_refl _) _
  have F1 := hid (F1.out.ups A5)
  have F3 := hid (F3.out.ups A5)
  have F5 := hid (fr_new w5 (1) (2))
  have T5 := hid ((T4.out.trans (HB5.out.mono T4.out.size)).trans (A5.mono (Nat.le_trans T4.out.size HB5.out.size)))
  clear A5
  go_wp2_with fail
  refine (New_any (1) (3) (i64s (by decide)) (i64s (by decide)) _).mono ?_
  rintro e w6 ⟨rfl, hb6⟩
  rw [show nw (1) (3) = (1, 3, 0) from by decide +kernel]
  have HB6 := hid hb6; clear hb6
  have F1 := hid (F1.out.ups HB6.out)
  have F3 := hid (F3.out.ups HB6.out)
  have F5 := hid (F5.out.ups HB6.out)
  have A6 : Below w6.heap.size w6 (w6.alloc (.cells #[.int .i64 (1), .int .i64 (3)] 23)) := (Below.refl _ _).alloc (Nat.le_refl _) _
  have F1 := hid (F1.out.ups A6)
  have F3 := hid (F3.out.ups A6)
  have F5 := hid (F5.out.ups A6)
  have F6 := hid (fr_new w6 (1) (3))
  have T6 := hid ((T5.out.trans (HB6.out.mono T5.out.size)).trans (A6.mono (Nat.le_trans T5.out.size HB6.out.size)))
  clear A6
  obtain ⟨F5c0, F5c1, _, _⟩ := F5.out
  obtain ⟨F6c0, F6c1, _, _⟩ := F6.out
  go_wp2_with fail
  refine (Add_any 1 2 1 3 (i64s (by decide)) (i64s (by decide)) (i64s (by decide)) (i64s (by decide)) _).mono ?_
  rintro e w7 ⟨rfl, hb7⟩
  rw [show both 1 2 1 3 (sm 1 2 1 3) = (5, 6, 0) from by decide +kernel]
  have HB7 := hid hb7; clear hb7
  clear F5c0 F5c1 F6c0 F6c1
  have F1 := hid (F1.out.ups HB7.out)
  have F3 := hid (F3.out.ups HB7.out)
  have F5 := hid (F5.out.ups HB7.out)
  have F6 := hid (F6.out.ups HB7.out)
  have A7 : Below w7.heap.size w7 (w7.alloc (.cells #[.int .i64 (5), .int .i64 (6)] 23)) := (Below.refl _ _).alloc (Nat.le_refl _) _
  have F1 := hid (F1.out.ups A7)
  have F3 := hid (F3.out.ups A7)
  have F5 := hid (F5.out.ups A7)
  have F6 := hid (F6.out.ups A7)
  have F7 := hid (fr_new w7 (5) (6))
  have T7 := hid ((T6.out.trans (HB7.out.mono T6.out.size)).trans (A7.mono (Nat.le_trans T6.out.size HB7.out.size)))
  clear A7
  obtain ⟨F5c0, F5c1, _, _⟩ := F5.out
  obtain ⟨F6c0, F6c1, _, _⟩ := F6.out
  go_wp2_with fail
  refine (Mul_any 1 2 1 3 (i64s (by decide)) (i64s (by decide)) (i64s (by decide)) (i64s (by decide)) _).mono ?_
  rintro e w8 ⟨rfl, hb8⟩
  rw [show both 1 2 1 3 (pr 1 2 1 3) = (1, 6, 0) from by decide +kernel]
  have HB8 := hid hb8; clear hb8
  clear F5c0 F5c1 F6c0 F6c1
  have F1 := hid (F1.out.ups HB8.out)
  have F3 := hid (F3.out.ups HB8.out)
  have F5 := hid (F5.out.ups HB8.out)
  have F6 := hid (F6.out.ups HB8.out)
  have F7 := hid (F7.out.ups HB8.out)
  have A8 : Below w8.heap.size w8 (w8.alloc (.cells #[.int .i64 (1), .int .i64 (6)] 23)) := (Below.refl _ _).alloc (Nat.le_refl _) _
  have F1 := hid (F1.out.ups A8)
  have F3 := hid (F3.out.ups A8)
  have F5 := hid (F5.out.ups A8)
  have F6 := hid (F6.out.ups A8)
  have F7 := hid (F7.out.ups A8)
  have F8 := hid (fr_new w8 (1) (6))
  have T8 := hid ((T7.out.trans (HB8.out.mono T7.out.size)).trans (A8.mono (Nat.le_trans T7.out.size HB8.out.size)))
  clear A8
  obtain ⟨F5c0, F5c1, _, _⟩ := F5.out
  obtain ⟨F6c0, F6c1, _, _⟩ := F6.out
  go_wp2_with fail
  refine (Compare_any 1 2 1 3 (i64s (by decide)) (i64s (by decide)) (i64s (by decide)) (i64s (by decide)) _).mono ?_
  rintro e w9 ⟨rfl, hb9⟩
  rw [show bothc 1 2 1 3 = (1, 0) from by decide +kernel]
  have HB9 := hid hb9; clear hb9
  clear F5c0 F5c1 F6c0 F6c1
  have F1 := hid (F1.out.ups HB9.out)
  have F3 := hid (F3.out.ups HB9.out)
  have F5 := hid (F5.out.ups HB9.out)
  have F7 := hid (F7.out.ups HB9.out)
  have F8 := hid (F8.out.ups HB9.out)
  have T9 := hid (T8.out.trans (HB9.out.mono T8.out.size))
  have G1 : Below w9.heap.size w9 (w9.alloc (.cells #[.int .i64 1, .int .i64 4] 3)) := (Below.refl _ _).alloc (Nat.le_refl _) _
  have G2 : Below (w9.alloc (.cells #[.int .i64 1, .int .i64 4] 3)).heap.size (w9.alloc (.cells #[.int .i64 1, .int .i64 4] 3)) ((w9.alloc (.cells #[.int .i64 1, .int .i64 4] 3)).alloc (.cells #[.int .i64 2, .int .i64 1] 3)) := (Below.refl _ _).alloc (Nat.le_refl _) _
  have V1 : IS .i64 (w9.alloc (.cells #[.int .i64 1, .int .i64 4] 3)) (.slice (some ⟨w9.heap.size, 0, none⟩) 2 2) [1, 4] := is_new w9 [1, 4] (by decide)
  have V2 : IS .i64 ((w9.alloc (.cells #[.int .i64 1, .int .i64 4] 3)).alloc (.cells #[.int .i64 2, .int .i64 1] 3)) (.slice (some ⟨w9.heap.size + 1, 0, none⟩) 2 2) [2, 1] := by
    have h := is_new (w9.alloc (.cells #[.int .i64 1, .int .i64 4] 3)) [2, 1] (by decide)
    rw [World.size_alloc] at h
    exact h
  have V1 := hid (V1.ups G2); have V2 := hid V2
  have F1 := hid ((F1.out.ups G1).ups G2)
  have F3 := hid ((F3.out.ups G1).ups G2)
  have F5 := hid ((F5.out.ups G1).ups G2)
  have F7 := hid ((F7.out.ups G1).ups G2)
  have F8 := hid ((F8.out.ups G1).ups G2)
  have T9 := hid ((T9.out.trans (G1.mono T9.out.size)).trans (G2.mono (Nat.le_trans T9.out.size G1.size)))
  clear G1 G2
  go_wp2_with fail
  refine (Mean_any _ _ [1, 4] [2, 1] (hid (by intro x hx; simp at hx; rcases hx with rfl | rfl <;> exact ⟨by decide, by decide⟩)) _ V1.out V2.out).mono ?_
  rintro e w10 ⟨rfl, hb10⟩
  rw [show mn [1, 4] [2, 1] = (2, 1, 0) from by decide +kernel]
  have HB10 := hid hb10; clear hb10
  clear V1 V2
  have F1 := hid (F1.out.ups HB10.out)
  have F3 := hid (F3.out.ups HB10.out)
  have F5 := hid (F5.out.ups HB10.out)
  have F7 := hid (F7.out.ups HB10.out)
  have F8 := hid (F8.out.ups HB10.out)
  have A10 : Below w10.heap.size w10 (w10.alloc (.cells #[.int .i64 (2), .int .i64 (1)] 23)) := (Below.refl _ _).alloc (Nat.le_refl _) _
  have F1 := hid (F1.out.ups A10)
  have F3 := hid (F3.out.ups A10)
  have F5 := hid (F5.out.ups A10)
  have F7 := hid (F7.out.ups A10)
  have F8 := hid (F8.out.ups A10)
  have F10 := hid (fr_new w10 (2) (1))
  have T10 := hid ((T9.out.trans (HB10.out.mono T9.out.size)).trans (A10.mono (Nat.le_trans T9.out.size HB10.out.size)))
  clear A10
  go_wp2_with fail
  refine (Mean_any _ _ [] [] (hid (by intro x hx; simp at hx)) _ (.inl ⟨rfl, rfl⟩) (.inl ⟨rfl, rfl⟩)).mono ?_
  rintro e w11 ⟨rfl, hb11⟩
  rw [show mn [] [] = (0, 1, 0) from by decide +kernel]
  have HB11 := hid hb11; clear hb11
  have F1 := hid (F1.out.ups HB11.out)
  have F3 := hid (F3.out.ups HB11.out)
  have F5 := hid (F5.out.ups HB11.out)
  have F7 := hid (F7.out.ups HB11.out)
  have F8 := hid (F8.out.ups HB11.out)
  have F10 := hid (F10.out.ups HB11.out)
  have A11 : Below w11.heap.size w11 (w11.alloc (.cells #[.int .i64 (0), .int .i64 (1)] 23)) := (Below.refl _ _).alloc (Nat.le_refl _) _
  have F1 := hid (F1.out.ups A11)
  have F3 := hid (F3.out.ups A11)
  have F5 := hid (F5.out.ups A11)
  have F7 := hid (F7.out.ups A11)
  have F8 := hid (F8.out.ups A11)
  have F10 := hid (F10.out.ups A11)
  have F11 := hid (fr_new w11 (0) (1))
  have T11 := hid ((T10.out.trans (HB11.out.mono T10.out.size)).trans (A11.mono (Nat.le_trans T10.out.size HB11.out.size)))
  clear A11
  obtain ⟨F1c0, F1c1, _, _⟩ := F1.out
  obtain ⟨F3c0, F3c1, _, _⟩ := F3.out
  obtain ⟨F7c0, F7c1, _, _⟩ := F7.out
  obtain ⟨F8c0, F8c1, _, _⟩ := F8.out
  obtain ⟨F10c0, F10c1, _, _⟩ := F10.out
  obtain ⟨F11c0, F11c1, _, _⟩ := F11.out
  obtain ⟨F5c0, F5c1, _, _⟩ := F5.out
  go_wp2_with fail
  refine (Check_any 1 2 (i64s (by decide)) (i64s (by decide)) _).mono ?_
  rintro e w12 ⟨rfl, hb12⟩
  rw [show chk 1 2 = 0 from by decide +kernel]
  have HB12 := hid hb12; clear hb12
  have F1 := hid (F1.out.ups HB12.out)
  have F3 := hid (F3.out.ups HB12.out)
  have F5 := hid (F5.out.ups HB12.out)
  have F7 := hid (F7.out.ups HB12.out)
  have F8 := hid (F8.out.ups HB12.out)
  have F10 := hid (F10.out.ups HB12.out)
  have F11 := hid (F11.out.ups HB12.out)
  have T12 := hid (T11.out.trans (HB12.out.mono T11.out.size))
  clear F1c0 F1c1 F3c0 F3c1 F7c0 F7c1 F8c0 F8c1 F10c0 F10c1 F11c0 F11c1 F5c0 F5c1
  go_wp2_with fail
  refine (Check_any 0 0 (i64s (by decide)) (i64s (by decide)) _).mono ?_
  rintro e w13 ⟨rfl, hb13⟩
  rw [show chk 0 0 = 50 from by decide +kernel]
  have HB13 := hid hb13; clear hb13
  have F1 := hid (F1.out.ups HB13.out)
  have F3 := hid (F3.out.ups HB13.out)
  have F5 := hid (F5.out.ups HB13.out)
  have F7 := hid (F7.out.ups HB13.out)
  have F8 := hid (F8.out.ups HB13.out)
  have F10 := hid (F10.out.ups HB13.out)
  have F11 := hid (F11.out.ups HB13.out)
  have T13 := hid (T12.out.trans (HB13.out.mono T12.out.size))
  go_wp2
  go_ret
  exact ⟨rfl, T13.out⟩
end Go.Proofs.Ythmakdlmadgpcaa

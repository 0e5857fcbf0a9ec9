/- Private of the reference. -/
import Derived.Test.YtaoehkoffhnidaaDoorSL
namespace Go.Proofs.YtaoehkoffhnidaaDoor
open Go.RowKit Go
open Dg (Konst BS IsD OB w8 w8_length hid below_al append_ob wpList_append_run)
set_option linter.unusedVariables false
set_option maxRecDepth 20000
set_option linter.unusedSimpArgs false
set_option maxRecDepth 100000 in
set_option maxHeartbeats 1000000 in
theorem rPrivate_any (l : List UInt8) (us : List Value) (s : ByteArray) (n : Int) (w : World) (hd : IsD l us) (hs : s.size ≤ 1000000) :
    Calls Tryd.prog 19 #[.agg us.toArray, .string s, .int .i64 n] w fun e w' => e = .returned (.int .i64 ((privN l s n : Nat) : Int)) ∧ Below w.heap.size w w' := by
  have HD := hid hd; have HSZ := hid hs
  have hcv : ∀ W, (convert 9 22 (.string s)).run Tryd.prog W = .ok (.slice (some ⟨W.heap.size, 0, none⟩) s.size (grownCap W s.size 0 5)) (Lib.bytesWorld W 5 s) := fun W => Lib.run_convert_string_bytes (P := Tryd.prog) W 9 22 5 s Tryd.underlying9 Tryd.underlying22 Tryd.underlying5
  have HCV := hid hcv
  clear hd hs hcv
  go_enter Tryd.func19, Tryd.ntmps19
  go_upto_region 1 with fail
  refine Dg.code_alloc (zs := us) ?_
  intro W0 hc0 hf0 hb0 hs0
  obtain ⟨g, hg⟩ : ∃ g, g = w.heap.size := ⟨_, rfl⟩
  rw [← hg] at hc0 ⊢
  have C0 := hid (HD.out.bs hc0 (by omega)); have B0 := hid hb0
  clear hc0 hf0 hb0 hs0 hg
  have hal : Below W0.heap.size W0 (W0.alloc (.cells #[] 5)) := below_al _ _
  have hl := HD.out.len
  obtain ⟨v1, w1, hr1, ho1, hb1⟩ := append_ob (w := W0.alloc (.cells #[] 5)) (base := W0.heap.size) (v := .slice (some ⟨W0.heap.size, 0, none⟩) 0 0) (l := []) (.inr ⟨rfl, _, rfl⟩) (C0.out.ups hal) (by simp [hl]) hal.size
  rw [List.nil_append] at ho1
  have hB1 := hal.trans hb1
  have R1 := hid hr1; have O1 := hid ho1; have B1 := hid hB1
  clear hr1 ho1 hb1 hB1 hal
  go_wp2_with (at_builtin; refine wpList_append_run rfl (.tmp 8) (.tmp 9) 22 22 rfl _ _ _ rfl rfl R1.out ?_)
  refine (Dg.rBytes_any n _).mono ?_
  rintro e w2 ⟨u2, rfl, ob2, h2⟩
  have hB2 := B1.out.trans (h2.mono B1.out.size)
  obtain ⟨v3, w3, hr3, ho3, hb3⟩ := append_ob (O1.out.ups h2) (ob2.bs (by rw [w8_length]; omega)) (by simp [w8_length, hl]) hB2.size
  have R3 := hid hr3; have O3 := hid ho3; have B3 := hid (hB2.trans hb3)
  clear hr3 ho3 hb3 ob2 h2 hB2 R1 O1
  have hcs := Dg.str_bs w3 s (Nat.le_trans HSZ.out (by omega))
  have hcb := Dg.str_below w3 s
  obtain ⟨v4, w4, hr4, ho4, hb4⟩ := append_ob (O3.out.ups hcb) hcs (by have := HSZ.out; simp [w8_length, hl]; omega) (Nat.le_trans B3.out.size hcb.size)
  have R4 := hid hr4; have O4 := hid ho4; have B4 := hid ((B3.out.trans (hcb.mono B3.out.size)).trans hb4)
  clear hr4 ho4 hb4 hcs hcb
  have hcv := HCV.out w3
  go_wp2_with (at_builtin; first | (refine wpList_append_run rfl (.tmp 11) (.tmp 13) 22 22 rfl _ _ _ rfl rfl R3.out ?_) | (refine wpList_append_run rfl (.tmp 15) (.tmp 17) 22 22 rfl _ _ _ rfl rfl R4.out ?_))
  refine (rsclr privT v4 _ w4 (O4.out.bs (by simp [w8_length]; omega)) (by decide) (by have := HSZ.out; simp [w8_length, hl]; omega)).mono ?_
  rintro e w5 ⟨rfl, h5⟩
  rw [show sclOf privT (l ++ w8 n ++ s.data.toList) = privN l s n from rfl]
  have hB := Dg.below_tr B0.out (B4.out.trans (h5.mono B4.out.size))
  clear h5 hcv hl
  go_wp2
  go_ret
  exact ⟨rfl, hB⟩
end Go.Proofs.YtaoehkoffhnidaaDoor

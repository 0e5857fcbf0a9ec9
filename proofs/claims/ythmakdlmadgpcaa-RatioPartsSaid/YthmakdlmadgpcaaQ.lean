/- The law of New and Check. -/
import Derived.Test.YthmakdlmadgpcaaP
import Derived.Test.YthmakdlmadgpcaaH
import Derived.Test.YthmakdlmadgpcaaG
import Derived.StillTailTactics
import Derived.Deep.RegionLaw
import Derived.Deep.RegionHeld3
namespace Go.Proofs.Ythmakdlmadgpcaa
open Go.RowKit Go
set_option linter.unusedVariables false
set_option linter.unusedSimpArgs false
theorem rcheck : Hid RCheck := hid fun p q hp hq w => rCheck_any p q hp hq w
theorem nw_i64 (n d : Int) : I64 (nw n d).1 ∧ I64 (nw n d).2.1 := by
  rcases nw_cases n d with ⟨p, q, h, hv⟩ | h | h <;> rw [h]
  · exact ⟨⟨by have := hv.p1; show _ ≤ p; omega, by have := hv.p2; show p ≤ _; omega⟩, ⟨by have := hv.q1; show _ ≤ q; omega, by have := hv.q2; show q ≤ _; omega⟩⟩
  · exact ⟨⟨by decide, by decide⟩, ⟨by decide, by decide⟩⟩
  · exact ⟨⟨by decide, by decide⟩, ⟨by decide, by decide⟩⟩
set_option maxRecDepth 100000 in
set_option maxHeartbeats 2000000 in
theorem newspec_any (n d rn rd : Int) (hn : I64 n) (hd : I64 d) (hrn : I64 rn) (hrd : I64 rd) (w : World) :
    Calls Try.prog 3 #[.int .i64 n, .int .i64 d, RV rn rd] w fun e w' => e = .returned (.bool true) ∧ Below w.heap.size w w' := by
  have HN := hid hn; have HD := hid hd; have HRN := hid hrn; have HRD := hid hrd; clear hn hd hrn hrd
  have T0 := hid ((Below.refl _ w).alloc (Nat.le_refl _) (.cells #[.int .i64 rn, .int .i64 rd] 23))
  have F0 := hid (fr_new w rn rd)
  go_enter Try.func3, Try.ntmps3
  go_wp2_with fail
  refine (sane_any _).mono ?_
  rintro e w1 ⟨rfl, hb1⟩
  have T1 := hid (below_t T0.out hb1)
  have F0 := hid (F0.out.ups hb1)
  clear hb1
  go_wp2_with fail
  refine (New_any n d HN.out HD.out _).mono ?_
  rintro e w2 ⟨rfl, hb2⟩
  have T2 := hid (below_t T1.out hb2)
  have F0 := hid (F0.out.ups hb2)
  obtain ⟨I1, I2⟩ := nw_i64 n d
  obtain ⟨⟨p, q, e⟩, hx⟩ : ∃ x, x = nw n d := ⟨_, rfl⟩
  rw [← hx] at I1 I2 ⊢
  have HX := hid hx; have HI1 := hid I1; have HI2 := hid I2
  have A2 : Below w2.heap.size w2 (w2.alloc (.cells #[.int .i64 p, .int .i64 q] 23)) := (Below.refl _ _).alloc (Nat.le_refl _) _
  have F1 := hid (fr_new w2 p q)
  have F0 := hid (F0.out.ups A2)
  have T2 := hid (below_t T2.out A2)
  clear hb2 hx I1 I2 A2
  go_wp2_with fail
  refine (rNew_any n d HN.out HD.out _).mono ?_
  rintro e w3 ⟨rfl, hb3⟩
  rw [← HX.out]
  have A3 : Below w3.heap.size w3 (w3.alloc (.cells #[.int .i64 p, .int .i64 q] 23)) := (Below.refl _ _).alloc (Nat.le_refl _) _
  have T3 := hid (below_t (below_t T2.out hb3) A3)
  have F0 := hid ((F0.out.ups hb3).ups A3)
  have F1 := hid ((F1.out.ups hb3).ups A3)
  have F2 := hid (fr_new w3 p q)
  clear hb3 A3 HX HN HD
  obtain ⟨W, hW⟩ : ∃ W, W = w3.alloc (.cells #[.int .i64 p, .int .i64 q] 23) := ⟨_, rfl⟩
  rw [← hW] at T3 F0 F1 F2
  go_wp2_with fail
  rw [← hW]
  clear hW
  have K1 : Hid (∀ W', Below W.heap.size W W' → (W'.cell? ⟨w.heap.size, 0, none⟩ = some (.int .i64 rn) ∧ W'.cell? ⟨w.heap.size, 1, none⟩ = some (.int .i64 rd)) ∧ (W'.cell? ⟨w2.heap.size, 0, none⟩ = some (.int .i64 p) ∧ W'.cell? ⟨w2.heap.size, 1, none⟩ = some (.int .i64 q)) ∧ (W'.cell? ⟨w3.heap.size, 0, none⟩ = some (.int .i64 p) ∧ W'.cell? ⟨w3.heap.size, 1, none⟩ = some (.int .i64 q))) := hid fun W' hW' =>
    ⟨⟨(F0.out.ups hW').c0, (F0.out.ups hW').c1⟩, ⟨(F1.out.ups hW').c0, (F1.out.ups hW').c1⟩, ⟨(F2.out.ups hW').c0, (F2.out.ups hW').c1⟩⟩
  have B0 : Below W.heap.size W W.drew := (Below.refl _ _).drew
  go_region_held3 (fun W' => (W'.cell? ⟨w.heap.size, 0, none⟩ = some (.int .i64 rn) ∧ W'.cell? ⟨w.heap.size, 1, none⟩ = some (.int .i64 rd)) ∧ (W'.cell? ⟨w2.heap.size, 0, none⟩ = some (.int .i64 p) ∧ W'.cell? ⟨w2.heap.size, 1, none⟩ = some (.int .i64 q)) ∧ (W'.cell? ⟨w3.heap.size, 0, none⟩ = some (.int .i64 p) ∧ W'.cell? ⟨w3.heap.size, 1, none⟩ = some (.int .i64 q)))
    (first | exact K1.out _ B4 | exact K1.out _ B3 | exact K1.out _ B2 | exact K1.out _ B1 | exact K1.out _ B0)
    (first
      | (go_at_call_of 14 (Value.agg #[.int .i64 rn, .int .i64 rd]); refine (Check_any rn rd HRN.out HRD.out _).mono ?_; rintro e w4 ⟨rfl, hb4⟩; have B1 := below_t B0 hb4)
      | (go_at_call_of 15 (Value.agg #[.int .i64 rn, .int .i64 rd]); refine (rCheck_any rn rd HRN.out HRD.out _).mono ?_; rintro e w5 ⟨rfl, hb5⟩; have B2 := below_t B1 hb5)
      | (go_at_call_of 14 (Value.agg #[.int .i64 p, .int .i64 q]); refine (Check_any p q HI1.out HI2.out _).mono ?_; rintro e w6 ⟨rfl, hb6⟩; have B3 := below_t B2 hb6)
      | (go_at_call_of 15 (Value.agg #[.int .i64 p, .int .i64 q]); refine (rCheck_any p q HI1.out HI2.out _).mono ?_; rintro e w7 ⟨rfl, hb7⟩; have B4 := below_t B3 hb7))
  go_wp2
  go_ret
  exact ⟨by simp, T3.out.trans (B4.mono T3.out.size)⟩
end Go.Proofs.Ythmakdlmadgpcaa

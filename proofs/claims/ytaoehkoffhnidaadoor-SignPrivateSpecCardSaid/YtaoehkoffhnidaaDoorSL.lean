/- Private of the program. -/
import Derived.Test.YtaoehkoffhnidaaDoorSB
import Derived.Test.YtaoehkoffhnidaaDoorDReh
namespace Go.Proofs.YtaoehkoffhnidaaDoor
open Go.RowKit Go
open Dg (Konst BS IsD w8 w8_length hid wa_start wa_tk wa_move wa_asg wa_done wa_branch ar_op ar_nil WA AR)
set_option linter.unusedVariables false
set_option maxRecDepth 20000
set_option linter.unusedSimpArgs false
/-- the private key of a seed, a label and a number -/
def privN (l : List UInt8) (s : ByteArray) (n : Int) : Nat := sclOf privT (l ++ w8 n ++ s.data.toList)
section
variable {o : Oper} {a : Act} {w : World} {K : Act → World → Prop} {Q : Exit → Act → World → Prop}
/-- a string becomes bytes -/
theorem st_conv (dt : Option Tmp) (hd : o.dst = dt) (x : Operand) (ho : o.op = .convert 9 22 x) (s : ByteArray) (hx : a.eval x = .string s) (hs : s.size ≤ 1000000000)
    (h : ∀ W p c, BS W (.slice (some p) s.size c) s.data.toList → Below w.heap.size w W → K (a.put dt (.slice (some p) s.size c)) W) : Oper.wp Tryd.prog o a w K Q := by
  subst hd
  have hh := h _ _ _ (Dg.str_bs w s hs) (Dg.str_below w s)
  have hcv := Lib.run_convert_string_bytes (P := Tryd.prog) w 9 22 5 s Tryd.underlying9 Tryd.underlying22 Tryd.underlying5
  unfold Oper.wp execOp
  simp only [ho, hx]
  simp only [Sem.run_bind]
  simp [hcv, Result.andThen]
  exact hh
/-- three byte slices in a list -/
theorem st_parts (dt : Option Tmp) (hd : o.dst = dt) (x y z : Operand) (ho : o.op = .buildSlice 77 3 #[(0, x), (1, y), (2, z)]) (p q r : Addr) (l m n c d e : Nat) (hx : a.eval x = .slice (some p) l c) (hy : a.eval y = .slice (some q) m d) (hz : a.eval z = .slice (some r) n e)
    (h : ∀ W g, Dg.Cells W ⟨g, 0, none⟩ [.slice (some p) l c, .slice (some q) m d, .slice (some r) n e] → g < W.heap.size → Below w.heap.size w W → K (a.put dt (.slice (some ⟨g, 0, none⟩) 3 3)) W) : Oper.wp Tryd.prog o a w K Q := by
  subst hd
  have hh := h _ _ (Dg.cells_alloc w [.slice (some p) l c, .slice (some q) m d, .slice (some r) n e] 22) (by simp) (Dg.below_al _ _)
  unfold Oper.wp execOp
  simp only [ho]
  simp only [List.map_toArray, List.map_cons, List.map_nil, hx, hy, hz]
  go_simp
  exact hh
end
set_option maxRecDepth 100000 in
set_option maxHeartbeats 4000000 in
theorem Private_any (l : List UInt8) (us : List Value) (s : ByteArray) (n : Int) (w : World) (hd : IsD l us) (hk : Konst w) (hs : s.size ≤ 1000000) :
    Calls Tryd.prog 18 #[.agg us.toArray, .string s, .int .i64 n] w fun e w' => e = .returned (.int .i64 ((privN l s n : Nat) : Int)) ∧ Below w.heap.size w w' := by
  have HK := hid hk; have HD := hid hd; have HSZ := hid hs
  have hcv : ∀ W, (convert 9 22 (.string s)).run Tryd.prog W = .ok (.slice (some ⟨W.heap.size, 0, none⟩) s.size (grownCap W s.size 0 5)) (Lib.bytesWorld W 5 s) := fun W => Lib.run_convert_string_bytes (P := Tryd.prog) W 9 22 5 s Tryd.underlying9 Tryd.underlying22 Tryd.underlying5
  have HCV := hid hcv
  clear hd hs hk hcv
  go_enter Tryd.func18, Tryd.ntmps18
  go_upto_region 1 with fail
  refine Dg.code_alloc (zs := us) ?_
  intro W0 hc0 hf0 hb0 hs0
  obtain ⟨g, hg⟩ : ∃ g, g = w.heap.size := ⟨_, rfl⟩
  rw [← hg] at hc0 ⊢
  have C0 := hid (HD.out.bs hc0 (by omega)); have B0 := hid hb0; have K0 := hid (HK.out.ups hb0)
  clear hc0 hf0 hb0 hs0 hg
  have HS := hid ((Below.refl W0.heap.size W0).drew)
  have C0 := hid (C0.out.ups HS.out)
  refine wa_start (S := fun W => Below W0.heap.size W0 W) (by kernel_rfl) HS.out ?_
  refine wa_tk 0 (some 7) (.slice (some ⟨g, 0, none⟩) 32 32) rfl (by kernel_rfl) rfl rfl HS.out (fun w h0 => by go_simp) ?_
  simp only [Act.put, List.setIfInBounds_toArray, List.set_cons_zero, List.set_cons_succ]
  refine wa_move 1 (some 8) (.tmp 2) (.int .i64 n) rfl rfl rfl (by kernel_rfl) rfl rfl HS.out ?_
  simp only [Act.put, List.setIfInBounds_toArray, List.set_cons_zero, List.set_cons_succ]
  refine wa_move 3 (some 10) (.tmp 1) (.string s) rfl rfl rfl (by kernel_rfl) rfl rfl HS.out ?_
  simp only [Act.put, List.setIfInBounds_toArray, List.set_cons_zero, List.set_cons_succ]
  repeat' (first
    | exact ar_nil
    | (refine ar_op 2 rfl rfl (fun K hK => ?_) ?_; go_simp; go_at_call 53; refine (Dg.eight_any n _).mono ?_; rintro e W2 ⟨rfl, hx, hb⟩; have HS := hid (HS.out.trans (hb.mono HS.out.size)); have C0 := hid (C0.out.ups hb); (first | (have H9 := hid (H9.out.ups hb)) | skip); (first | (have H11 := hid (H11.out.ups hb)) | skip); have H9 := hid hx; clear hx; refine hK.out _ _ HS.out ?_; clear hK K; clear hb; try simp only [Act.put, List.setIfInBounds_toArray, List.set_cons_zero, List.set_cons_succ])
    | (refine ar_op 4 rfl rfl (fun K hK => ?_) ?_; refine st_conv (some 11) rfl (.tmp 10) rfl s rfl (Nat.le_trans HSZ.out (by omega)) ?_; intro W4 p4 c4 hx hb; have HS := hid (HS.out.trans (hb.mono HS.out.size)); have C0 := hid (C0.out.ups hb); (first | (have H9 := hid (H9.out.ups hb)) | skip); (first | (have H11 := hid (H11.out.ups hb)) | skip); have H11 := hid hx; clear hx; refine hK.out _ _ HS.out ?_; clear hK K; clear hb; try simp only [Act.put, List.setIfInBounds_toArray, List.set_cons_zero, List.set_cons_succ])
    | (refine wa_branch [2, 4] (by decide +kernel) rfl ?_)
    | (refine wa_branch [2] (by decide +kernel) rfl ?_)
    | (refine wa_branch [4] (by decide +kernel) rfl ?_)
    | fail)
  all_goals
    refine wa_branch [5] (by decide +kernel) rfl ?_
    refine ar_op 5 rfl rfl (fun K hK => ?_) ar_nil
    refine st_parts (some 12) rfl (.tmp 7) (.tmp 9) (.tmp 11) rfl _ _ _ _ _ _ _ _ _ rfl rfl rfl ?_
    intro W5 g5 hc hg hb
    have HS := hid (HS.out.trans (hb.mono HS.out.size))
    have C0 := hid (C0.out.ups hb); have H9 := hid (H9.out.ups hb); have H11 := hid (H11.out.ups hb)
    have HC5 := hid hc; have HG5 := hid hg
    clear hc hg hb
    refine hK.out _ _ HS.out ?_
    clear hK K
    try simp only [Act.put, List.setIfInBounds_toArray, List.set_cons_zero, List.set_cons_succ]
    refine wa_branch [6] (by decide +kernel) rfl ?_
    refine ar_op 6 rfl rfl (fun K hK => ?_) ar_nil
    go_simp
    go_at_call 52
    refine (scalar_any privT g5 3 _ [l, w8 n, s.data.toList] W5 HC5.out HG5.out rfl ?_ (by simp [w8_length]; omega) (by have h1 := HD.out.len; have h2 := HSZ.out; simp [w8_length, h1]; omega) (by omega) (K0.out.ups HS.out) (by decide)).mono ?_
    · intro k hk
      rcases (by omega : k = 0 ∨ k = 1 ∨ k = 2) with rfl | rfl | rfl
      · exact ⟨_, _, rfl, rfl, C0.out⟩
      · exact ⟨_, _, rfl, rfl, H9.out⟩
      · exact ⟨_, _, rfl, rfl, H11.out⟩
    · rintro e W6 ⟨rfl, hb⟩
      have HS := hid (HS.out.trans (hb.mono HS.out.size))
      rw [show sclOf privT ([l, w8 n, s.data.toList] : List (List UInt8)).flatten = privN l s n by unfold privN; congr 1; simp]
      clear hb C0 H9 H11 HC5 HG5
      refine hK.out _ _ HS.out ?_
      clear hK K
      try simp only [Act.put, List.setIfInBounds_toArray, List.set_cons_zero, List.set_cons_succ]
      refine wa_branch [7] (by decide +kernel) rfl ?_
      refine ar_op 7 rfl rfl (fun K hK => ?_) ar_nil
      go_simp
      refine hK.out _ _ HS.out ?_
      clear hK K
      try simp only [Act.put, List.setIfInBounds_toArray, List.set_cons_zero, List.set_cons_succ]
      refine wa_done (by decide +kernel) ?_
      go_wp2
      go_ret
      exact ⟨rfl, Dg.below_tr B0.out HS.out⟩
end Go.Proofs.YtaoehkoffhnidaaDoor

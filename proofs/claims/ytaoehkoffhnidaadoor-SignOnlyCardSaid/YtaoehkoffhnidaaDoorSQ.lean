/- The law SignOnly. -/
import Derived.Test.YtaoehkoffhnidaaDoorSP
import Derived.Test.YtaoehkoffhnidaaDoorDReh
namespace Go.Proofs.YtaoehkoffhnidaaDoor
open Go.RowKit Go
open Dg (Konst BS hid wa_start wa_tk wa_move wa_asg wa_done wa_branch ar_op ar_nil WA AR)
set_option linter.unusedVariables false
set_option maxRecDepth 20000
set_option linter.unusedSimpArgs false
section
variable {o : Oper} {a : Act} {w : World} {K : Act → World → Prop} {Q : Exit → Act → World → Prop}
/-- four numbers in a list -/
theorem st_ints (dt : Option Tmp) (hd : o.dst = dt) (x y z u : Operand) (ho : o.op = .buildSlice 25 4 #[(0, x), (1, y), (2, z), (3, u)]) (p q r s : Int) (hx : a.eval x = .int .i64 p) (hy : a.eval y = .int .i64 q) (hz : a.eval z = .int .i64 r) (hu : a.eval u = .int .i64 s)
    (h : ∀ W g, Dg.Cells W ⟨g, 0, none⟩ [.int .i64 p, .int .i64 q, .int .i64 r, .int .i64 s] → g < W.heap.size → Below w.heap.size w W → K (a.put dt (.slice (some ⟨g, 0, none⟩) 4 4)) W) : Oper.wp Tryd.prog o a w K Q := by
  subst hd
  have hh := h _ _ (Dg.cells_alloc w [.int .i64 p, .int .i64 q, .int .i64 r, .int .i64 s] 3) (by simp) (Dg.below_al _ _)
  unfold Oper.wp execOp
  simp only [ho]
  simp only [List.map_toArray, List.map_cons, List.map_nil, hx, hy, hz, hu]
  go_simp
  exact hh
end
set_option maxRecDepth 100000 in
set_option maxHeartbeats 4000000 in
theorem sonly_any (x : Int) (v : Value) (o : Int) (m : List UInt8) (w : World) (hv : BS w v m) (hk : Konst w) :
    Calls Tryd.prog 8 #[.int .i64 x, v, .int .i64 o] w fun e w' => e = .returned (.bool true) ∧ Below w.heap.size w w' := by
  obtain ⟨k, P, R, S, HKN, HG⟩ := sg_of x m
  obtain ⟨ko, HKO⟩ : ∃ ko, Hid (keyN o = ko) := ⟨_, hid rfl⟩
  have hko : ko < 2305843009213688669 := by rw [← HKO.out]; exact (keyN_pk o).out.2
  have hS : S < 2305843009213688669 := HG.out.scS.out
  obtain ⟨p, c, rfl⟩ := hv.form
  have HV := hid hv; have HK := hid hk
  obtain ⟨ln, hln⟩ : ∃ ln, ln = m.length := ⟨_, rfl⟩
  rw [← hln] at HV ⊢
  have HLN := hid hln
  clear hv hk hln
  by_cases hle : ln ≤ 1000
  · have hn : Hid (m.length ≤ 1000000000) := hid (by have := HLN.out; omega)
    have hd : decide ((1000 : Int) < (ln : Int)) = false := by simp; omega
    obtain ⟨s1, hs1⟩ : ∃ s1, IntKind.i64.wrap ((S : Int) + 2305843009213688669) = s1 := ⟨_, rfl⟩
    obtain ⟨s2, hs2⟩ : ∃ s2, IntKind.i64.wrap ((S : Int) - 2305843009213688669) = s2 := ⟨_, rfl⟩
    obtain ⟨s3, hs3⟩ : ∃ s3, IntKind.i64.wrap ((ko : Int) - 1) = s3 := ⟨_, rfl⟩
    have HS1 := hid hs1; have HS2 := hid hs2; have HS3 := hid hs3
    clear hle hs1 hs2 hs3 hko hS
    go_enter Tryd.func8, Tryd.ntmps8
    go_wp2_with fail
    refine (ssane_any _ HK.out).mono ?_
    rintro e w1 ⟨rfl, h1⟩
    have B1 := hid h1
    clear h1
    go_wp2_with fail
    refine (Key_any x k HKN _).mono ?_
    rintro e u ⟨rfl, rfl⟩
    go_wp2_with fail
    refine (Sg.pub HG _).mono ?_
    unfold pz
    rintro e w2 ⟨rfl, h2⟩
    have B2 := hid (Dg.below_tr B1.out h2)
    clear h2
    go_wp2_with fail
    refine (Sg.sign HG _ _ (HV.out.ups B2.out) (HK.out.ups B2.out) hn.out).mono ?_
    unfold ps
    rintro e w3 ⟨rfl, h3⟩
    have B3 := hid (Dg.below_tr B2.out h3)
    clear h3
    go_upto_region 8 with fail
    refine Dg.code_alloc (zs := [.int .i64 (R : Int), .int .i64 (S : Int)]) ?_
    intro W4 hc hf hb hs
    obtain ⟨g, hg⟩ : ∃ g, g = w3.heap.size := ⟨_, rfl⟩
    rw [← hg] at hc ⊢
    have B4 := hid (Dg.below_tr B3.out hb); have C4 := hid hc
    clear hc hf hb hs hg hd
    go_upto_region 10 with fail
    have HS := hid ((Below.refl W4.heap.size W4).drew)
    refine wa_start (S := fun W => Below W4.heap.size W4 W) (by kernel_rfl) HS.out ?_
    refine wa_move 0 (some 38) (.tmp 2) (.int .i64 o) rfl rfl rfl (by kernel_rfl) rfl rfl HS.out ?_
    try simp only [Act.put, List.setIfInBounds_toArray, List.set_cons_zero, List.set_cons_succ]
    refine wa_move 1 (some 39) (.tmp 2) (.int .i64 o) rfl rfl rfl (by kernel_rfl) rfl rfl HS.out ?_
    try simp only [Act.put, List.setIfInBounds_toArray, List.set_cons_zero, List.set_cons_succ]
    refine wa_tk 4 (some 42) (.pointer (some ⟨g, 1, none⟩)) rfl (by kernel_rfl) rfl rfl HS.out (fun w h0 => by go_simp) ?_
    try simp only [Act.put, List.setIfInBounds_toArray, List.set_cons_zero, List.set_cons_succ]
    refine wa_tk 5 (some 43) (.int .i64 (S : Int)) rfl (by kernel_rfl) rfl rfl HS.out (fun w h0 => by have c1 : w.cell? ⟨g, 1, none⟩ = some (.int .i64 (S : Int)) := (C4.out.ups h0).at0 (j := 1) rfl; go_simp) ?_
    try simp only [Act.put, List.setIfInBounds_toArray, List.set_cons_zero, List.set_cons_succ]
    refine wa_tk 6 (some 44) (.int .i64 s1) rfl (by kernel_rfl) rfl rfl HS.out (fun w h0 => by have e := HS1.out; go_simp) ?_
    try simp only [Act.put, List.setIfInBounds_toArray, List.set_cons_zero, List.set_cons_succ]
    refine wa_tk 7 (some 45) (.pointer (some ⟨g, 1, none⟩)) rfl (by kernel_rfl) rfl rfl HS.out (fun w h0 => by go_simp) ?_
    try simp only [Act.put, List.setIfInBounds_toArray, List.set_cons_zero, List.set_cons_succ]
    refine wa_tk 8 (some 46) (.int .i64 (S : Int)) rfl (by kernel_rfl) rfl rfl HS.out (fun w h0 => by have c1 : w.cell? ⟨g, 1, none⟩ = some (.int .i64 (S : Int)) := (C4.out.ups h0).at0 (j := 1) rfl; go_simp) ?_
    try simp only [Act.put, List.setIfInBounds_toArray, List.set_cons_zero, List.set_cons_succ]
    refine wa_tk 9 (some 47) (.int .i64 s2) rfl (by kernel_rfl) rfl rfl HS.out (fun w h0 => by have e := HS2.out; go_simp) ?_
    try simp only [Act.put, List.setIfInBounds_toArray, List.set_cons_zero, List.set_cons_succ]
    refine wa_tk 12 (some 50) (.int .i64 0) rfl (by kernel_rfl) rfl rfl HS.out (fun w h0 => by go_simp) ?_
    try simp only [Act.put, List.setIfInBounds_toArray, List.set_cons_zero, List.set_cons_succ]
    refine wa_branch [2] (by decide +kernel) rfl ?_
    refine ar_op 2 rfl rfl (fun K hK => ?_) ar_nil
    go_simp
    go_at_call 13
    refine (Key_any o ko HKO _).mono ?_
    rintro e u ⟨rfl, rfl⟩
    refine hK.out _ _ HS.out ?_
    clear hK K
    try simp only [Act.put, List.setIfInBounds_toArray, List.set_cons_zero, List.set_cons_succ]
    refine wa_tk 3 (some 41) (.int .i64 s3) rfl (by kernel_rfl) rfl rfl HS.out (fun w h0 => by have e := HS3.out; go_simp) ?_
    try simp only [Act.put, List.setIfInBounds_toArray, List.set_cons_zero, List.set_cons_succ]
    refine wa_branch [10] (by decide +kernel) rfl ?_
    refine ar_op 10 rfl rfl (fun K hK => ?_) ar_nil
    refine st_ints (some 48) rfl (.tmp 38) (.tmp 41) (.tmp 44) (.tmp 47) rfl _ _ _ _ rfl rfl rfl rfl ?_
    intro W5 gl hc5 hg5 hb5
    have HS := hid (HS.out.trans (hb5.mono HS.out.size))
    have C5 := hid hc5; have G5 := hid hg5
    clear hc5 hb5 hg5
    refine hK.out _ _ HS.out ?_
    clear hK K
    try simp only [Act.put, List.setIfInBounds_toArray, List.set_cons_zero, List.set_cons_succ]
    refine wa_tk 11 (some 49) (.int .i64 4) rfl (by kernel_rfl) rfl rfl HS.out (fun w h0 => by go_simp) ?_
    try simp only [Act.put, List.setIfInBounds_toArray, List.set_cons_zero, List.set_cons_succ]
    refine wa_done (by decide +kernel) ?_
    have B5 := hid (Dg.below_tr B4.out HS.out); have D5 := hid (C4.out.ups HS.out)
    clear HS B4 C4 HS1 HS2 HS3 B1 B2 B3
    have hpart : ∀ j, j < 4 → ∃ n : Int, [Value.int .i64 o, .int .i64 s3, .int .i64 s1, .int .i64 s2][j]? = some (.int .i64 n) := by
      intro j hj
      rcases (by omega : j = 0 ∨ j = 1 ∨ j = 2 ∨ j = 3) with rfl | rfl | rfl | rfl
      · exact ⟨_, rfl⟩
      · exact ⟨_, rfl⟩
      · exact ⟨_, rfl⟩
      · exact ⟨_, rfl⟩
    have HP := hid hpart
    clear hpart
    go_wp2
    go_loopw [50] (fun i w1 => ∃ j : Nat, j ≤ 4 ∧ i = .int .i64 j ∧ Hid (Below W5.heap.size W5 w1)) (fun i _ => 4 - (intOf i).toNat)
    case atStart => exact ⟨0, by omega, rfl, hid (Below.refl _ _)⟩
    case round =>
      obtain ⟨j, hj, rfl, hb⟩ := hrel
      by_cases hlt : j < 4
      · obtain ⟨n, hnn⟩ := HP.out j hlt
        have hcell := (C5.out.ups hb.out).at0 hnn
        clear hnn
        go_upto_region 13 with fail
        clear hcell
        have CR := hid (D5.out.ups hb.out); have BR := hid (Dg.below_tr B5.out hb.out)
        have HT := hid ((Below.refl wr.heap.size wr).drew)
        refine wa_start (S := fun W => Below wr.heap.size wr W) (by kernel_rfl) HT.out ?_
        refine wa_tk 0 (some 54) (.int .i64 P) rfl (by kernel_rfl) rfl rfl HT.out (fun w h0 => by go_simp) ?_
        try simp only [Act.put, List.setIfInBounds_toArray, List.set_cons_zero, List.set_cons_succ]
        refine wa_tk 1 (some 55) (.slice p ln c) rfl (by kernel_rfl) rfl rfl HT.out (fun w h0 => by go_simp) ?_
        try simp only [Act.put, List.setIfInBounds_toArray, List.set_cons_zero, List.set_cons_succ]
        refine wa_tk 2 (some 56) (.pointer (some ⟨g, 0, none⟩)) rfl (by kernel_rfl) rfl rfl HT.out (fun w h0 => by go_simp) ?_
        try simp only [Act.put, List.setIfInBounds_toArray, List.set_cons_zero, List.set_cons_succ]
        refine wa_tk 3 (some 57) (.int .i64 R) rfl (by kernel_rfl) rfl rfl HT.out (fun w h0 => by have c1 : w.cell? ⟨g, 0, none⟩ = some (.int .i64 (R : Int)) := (CR.out.ups h0).at0 (j := 0) rfl; go_simp) ?_
        try simp only [Act.put, List.setIfInBounds_toArray, List.set_cons_zero, List.set_cons_succ]
        refine wa_tk 4 (some 58) (.int .i64 n) rfl (by kernel_rfl) rfl rfl HT.out (fun w h0 => by go_simp) ?_
        try simp only [Act.put, List.setIfInBounds_toArray, List.set_cons_zero, List.set_cons_succ]
        refine wa_tk 5 (some 59) (.agg #[.int .i64 R, .int .i64 n]) rfl (by kernel_rfl) rfl rfl HT.out (fun w h0 => by go_simp) ?_
        try simp only [Act.put, List.setIfInBounds_toArray, List.set_cons_zero, List.set_cons_succ]
        refine wa_tk 7 (some 61) (.int .i64 n) rfl (by kernel_rfl) rfl rfl HT.out (fun w h0 => by go_simp) ?_
        try simp only [Act.put, List.setIfInBounds_toArray, List.set_cons_zero, List.set_cons_succ]
        refine wa_tk 8 (some 62) (.pointer (some ⟨g, 1, none⟩)) rfl (by kernel_rfl) rfl rfl HT.out (fun w h0 => by go_simp) ?_
        try simp only [Act.put, List.setIfInBounds_toArray, List.set_cons_zero, List.set_cons_succ]
        refine wa_tk 9 (some 63) (.int .i64 S) rfl (by kernel_rfl) rfl rfl HT.out (fun w h0 => by have c1 : w.cell? ⟨g, 1, none⟩ = some (.int .i64 (S : Int)) := (CR.out.ups h0).at0 (j := 1) rfl; go_simp) ?_
        try simp only [Act.put, List.setIfInBounds_toArray, List.set_cons_zero, List.set_cons_succ]
        refine wa_tk 10 (some 64) (.bool (n == (S : Int))) rfl (by kernel_rfl) rfl rfl HT.out (fun w h0 => by go_simp) ?_
        try simp only [Act.put, List.setIfInBounds_toArray, List.set_cons_zero, List.set_cons_succ]
        refine wa_branch [6] (by decide +kernel) rfl ?_
        refine ar_op 6 rfl rfl (fun K hK => ?_) ar_nil
        go_simp
        go_at_call 20
        refine (Verify_any P R n _ m _ (HV.out.ups (Dg.below_tr BR.out HT.out)) (HK.out.ups (Dg.below_tr BR.out HT.out)) hn.out).mono ?_
        rintro e w7 ⟨b, rfl, hb7, h7⟩
        have hbn : b = (n == (S : Int)) := by
          rw [Bool.eq_iff_iff, hb7, beq_iff_eq]
          have h := vf_only HG.out.pk m n
          rw [HG.out.eP, HG.out.eR, HG.out.eS] at h
          exact h
        subst hbn
        have HT := hid (HT.out.trans (h7.mono HT.out.size))
        clear hb7 h7
        refine hK.out _ _ HT.out ?_
        clear hK K
        try simp only [Act.put, List.setIfInBounds_toArray, List.set_cons_zero, List.set_cons_succ]
        refine wa_tk 11 (some 65) (.bool false) rfl (by kernel_rfl) rfl rfl HT.out (fun w h0 => by go_simp) ?_
        try simp only [Act.put, List.setIfInBounds_toArray, List.set_cons_zero, List.set_cons_succ]
        refine wa_done (by decide +kernel) ?_
        have hbb := hid (Dg.below_tr hb.out HT.out)
        go_wp2
        go_roundw
        case rel => exact ⟨j + 1, by omega, by go_num, hbb⟩
        case measure => simp [intOf]; omega
      · have BR := hid (Dg.below_tr B5.out hb.out)
        have hd2 : decide ((j : Int) < 4) = false := by simp; omega
        clear hlt
        go_wp2
        go_ret
        exact ⟨rfl, BR.out⟩
  · have hd : decide ((1000 : Int) < (ln : Int)) = true := by simp; omega
    clear hle
    go_enter Tryd.func8, Tryd.ntmps8
    go_wp2_with fail
    refine (ssane_any _ HK.out).mono ?_
    rintro e w1 ⟨rfl, h1⟩
    have B1 := hid h1
    clear h1
    go_wp2
    go_ret
    exact ⟨rfl, B1.out⟩
end Go.Proofs.YtaoehkoffhnidaaDoor

/- The law SignVerifySpec. -/
import Derived.Test.YtaoehkoffhnidaaDoorSO
import Derived.Test.YtaoehkoffhnidaaDoorSH
import Derived.Test.YtaoehkoffhnidaaDoorDReh
namespace Go.Proofs.YtaoehkoffhnidaaDoor
open Go.RowKit Go
open Dg (Konst BS IsD hid WA AR wa_start wa_tk wa_move wa_asg wa_done wa_branch ar_nil)
set_option linter.unusedVariables false
set_option maxRecDepth 20000
set_option linter.unusedSimpArgs false
section
variable {P : Program} {ops : Array Oper} {Q : Exit → Act → World → Prop} {S : World → Prop} {fuel : Nat} {listed : Array Bool} {a : Act} {w : World}
/-- an operation that is wanted now and yields v wherever S holds is taken first -/
theorem wa_tkw (i : Nat) (dt : Option Tmp) {oi : Oper} (v : Value) (hi : ops[i]? = some oi) (hb : (Region.noSelect ops && Region.free .any ops listed i && (Region.ready .any ops listed).contains i) = true)
    (hw : Region.wanted oi (yielded ops a.tmps) = true) (hdt : oi.dst = dt) (hS : S w) (hy : ∀ w, S w → (execOp a.eval oi).run P w = .ok (.value v) w)
    (h : WA P ops Q S fuel (listed.setIfInBounds i true) (a.put dt v) w) : WA P ops Q S (fuel + 1) listed a w := by
  subst hdt
  rw [Bool.and_eq_true, Bool.and_eq_true] at hb
  exact ⟨wpAnyH_take hi hb.1.1 hb.1.2 hb.2 (fun _ _ _ h => False.elim h) (.inl ⟨hw, hy⟩) hS h.out⟩
theorem ar_opw (i : Nat) {o : Oper} {rs : List Nat} (ho : ops[i]? = some o) (hw : Region.wanted o (yielded ops a.tmps) = true)
    (h : ∀ K : Act → World → Prop, Shut (∀ a w, S w → WA P ops Q S fuel (listed.setIfInBounds i true) a w → K a w) → Oper.wp P o a w K (NoPanic Q))
    (hs : AR P ops Q S fuel listed a w rs) : AR P ops Q S fuel listed a w (i :: rs) := by
  refine ⟨AllReadyH.cons ho (fun K hK => ?_) hs.out⟩
  rw [if_pos hw]
  exact h K (fun a w hS hW => hK a w hS (fun _ => hW.out))
end
set_option maxRecDepth 100000 in
set_option maxHeartbeats 4000000 in
theorem verspec_any (pub R S : Int) (v : Value) (m : List UInt8) (w : World) (hv : BS w v m) (hk : Konst w) :
    Calls Tryd.prog 5 #[.int .i64 pub, v, .agg #[.int .i64 R, .int .i64 S]] w fun e w' => e = .returned (.bool true) ∧ Below w.heap.size w w' := by
  obtain ⟨p, c, rfl⟩ := hv.form
  have HV := hid hv; have HK := hid hk
  obtain ⟨ln, hln⟩ : ∃ ln, ln = m.length := ⟨_, rfl⟩
  rw [← hln] at HV ⊢
  have HLN := hid hln
  clear hv hk hln
  by_cases hle : ln ≤ 1000
  · have hn : Hid (m.length ≤ 90000000) := hid (by have := HLN.out; omega)
    have hd : decide ((1000 : Int) < (ln : Int)) = false := by simp; omega
    clear hle
    go_enter Tryd.func5, Tryd.ntmps5
    go_upto_region 1 with fail
    refine Dg.code_alloc (zs := [.int .i64 R, .int .i64 S]) ?_
    intro W0 hc hf hb hs
    obtain ⟨g, hg⟩ : ∃ g, g = w.heap.size := ⟨_, rfl⟩
    rw [← hg] at hc ⊢
    have B0 := hid hb; have C0 := hid hc
    clear hc hf hb hs hg
    go_wp2_with fail
    refine (ssane_any _ (HK.out.ups B0.out)).mono ?_
    rintro e w1 ⟨rfl, h1⟩
    have B1 := hid (Dg.below_tr B0.out h1); have C1 := hid (C0.out.ups h1)
    clear h1 C0 B0
    go_upto_region 3 with fail
    have HT := hid ((Below.refl w1.heap.size w1).drew)
    refine wa_start (S := fun W => Below w1.heap.size w1 W) (by kernel_rfl) HT.out ?_
    refine wa_tkw 0 (some 9) (.slice p ln c) rfl (by kernel_rfl) rfl rfl HT.out (fun w h0 => by go_simp) ?_
    try simp only [Act.put, List.setIfInBounds_toArray, List.set_cons_zero, List.set_cons_succ]
    refine wa_tkw 1 (some 10) (.int .i64 ln) rfl (by kernel_rfl) rfl rfl HT.out (fun w h0 => by go_simp) ?_
    try simp only [Act.put, List.setIfInBounds_toArray, List.set_cons_zero, List.set_cons_succ]
    refine wa_tkw 2 (some 11) (.bool false) rfl (by kernel_rfl) rfl rfl HT.out (fun w h0 => by go_simp) ?_
    try simp only [Act.put, List.setIfInBounds_toArray, List.set_cons_zero, List.set_cons_succ]
    refine wa_tkw 3 (some 12) (.bool false) rfl (by kernel_rfl) rfl rfl HT.out (fun w h0 => by go_simp) ?_
    try simp only [Act.put, List.setIfInBounds_toArray, List.set_cons_zero, List.set_cons_succ]
    refine wa_tkw 4 (some 13) (.int .i64 pub) rfl (by kernel_rfl) rfl rfl HT.out (fun w h0 => by go_simp) ?_
    try simp only [Act.put, List.setIfInBounds_toArray, List.set_cons_zero, List.set_cons_succ]
    refine wa_tkw 5 (some 14) (.slice p ln c) rfl (by kernel_rfl) rfl rfl HT.out (fun w h0 => by go_simp) ?_
    try simp only [Act.put, List.setIfInBounds_toArray, List.set_cons_zero, List.set_cons_succ]
    refine wa_tkw 6 (some 15) (.agg #[.int .i64 R, .int .i64 S]) rfl (by kernel_rfl) rfl rfl HT.out (fun w h0 => by have c0 : w.cell? ⟨g, 0, none⟩ = some (.int .i64 R) := (C1.out.ups h0).at0 (j := 0) rfl; have c1 : w.cell? ⟨g, 1, none⟩ = some (.int .i64 S) := (C1.out.ups h0).at0 (j := 1) rfl; go_simp) ?_
    try simp only [Act.put, List.setIfInBounds_toArray, List.set_cons_zero, List.set_cons_succ]
    refine wa_tkw 8 (some 17) (.int .i64 pub) rfl (by kernel_rfl) rfl rfl HT.out (fun w h0 => by go_simp) ?_
    try simp only [Act.put, List.setIfInBounds_toArray, List.set_cons_zero, List.set_cons_succ]
    refine wa_tkw 9 (some 18) (.slice p ln c) rfl (by kernel_rfl) rfl rfl HT.out (fun w h0 => by go_simp) ?_
    try simp only [Act.put, List.setIfInBounds_toArray, List.set_cons_zero, List.set_cons_succ]
    refine wa_tkw 10 (some 19) (.agg #[.int .i64 R, .int .i64 S]) rfl (by kernel_rfl) rfl rfl HT.out (fun w h0 => by have c0 : w.cell? ⟨g, 0, none⟩ = some (.int .i64 R) := (C1.out.ups h0).at0 (j := 0) rfl; have c1 : w.cell? ⟨g, 1, none⟩ = some (.int .i64 S) := (C1.out.ups h0).at0 (j := 1) rfl; go_simp) ?_
    try simp only [Act.put, List.setIfInBounds_toArray, List.set_cons_zero, List.set_cons_succ]
    refine wa_branch [7] (by decide +kernel) rfl ?_
    refine ar_opw 7 rfl rfl (fun K hK => ?_) ar_nil
    go_simp
    go_at_call 20
    refine (Verify_any pub R S _ m _ (HV.out.ups (Dg.below_tr B1.out HT.out)) (HK.out.ups (Dg.below_tr B1.out HT.out)) (Nat.le_trans hn.out (by omega))).mono ?_
    rintro e wq ⟨b, rfl, hb, hq⟩
    have HB := hid hb; clear hb
    have HT := hid (HT.out.trans (hq.mono HT.out.size))
    clear hq
    refine hK.out _ _ HT.out ?_
    clear hK K
    try simp only [Act.put, List.setIfInBounds_toArray, List.set_cons_zero, List.set_cons_succ]
    refine wa_branch [11] (by decide +kernel) rfl ?_
    refine ar_opw 11 rfl rfl (fun K hK => ?_) ar_nil
    go_simp
    go_at_call 21
    refine (rVerify_any pub R S _ m _ (HV.out.ups (Dg.below_tr B1.out HT.out)) hn.out).mono ?_
    rintro e wr ⟨b', rfl, hb, hq⟩
    obtain rfl : b = b' := by rw [Bool.eq_iff_iff, HB.out, hb]
    clear hb
    have HT := hid (HT.out.trans (hq.mono HT.out.size))
    clear hq
    refine hK.out _ _ HT.out ?_
    clear hK K
    try simp only [Act.put, List.setIfInBounds_toArray, List.set_cons_zero, List.set_cons_succ]
    refine wa_tkw 12 (some 21) (.bool true) rfl (by kernel_rfl) rfl rfl HT.out (fun w h0 => by go_simp) ?_
    try simp only [Act.put, List.setIfInBounds_toArray, List.set_cons_zero, List.set_cons_succ]
    refine wa_tkw 13 (some 22) (.bool true) rfl (by kernel_rfl) rfl rfl HT.out (fun w h0 => by go_simp) ?_
    try simp only [Act.put, List.setIfInBounds_toArray, List.set_cons_zero, List.set_cons_succ]
    refine wa_tkw 14 (some 6) (.bool true) rfl (by kernel_rfl) rfl rfl HT.out (fun w h0 => by go_simp) ?_
    try simp only [Act.put, List.setIfInBounds_toArray, List.set_cons_zero, List.set_cons_succ]
    refine wa_done (by decide +kernel) ?_
    have B2 := hid (Dg.below_tr B1.out HT.out)
    clear HT B1 C1 hd
    go_wp2
    go_ret
    exact ⟨rfl, B2.out⟩
  · have hd : decide ((1000 : Int) < (ln : Int)) = true := by simp; omega
    clear hle
    go_enter Tryd.func5, Tryd.ntmps5
    go_upto_region 1 with fail
    refine Dg.code_alloc (zs := [.int .i64 R, .int .i64 S]) ?_
    intro W0 hc hf hb hs
    have B0 := hid hb
    clear hc hf hb hs
    go_wp2_with fail
    refine (ssane_any _ (HK.out.ups B0.out)).mono ?_
    rintro e w1 ⟨rfl, h1⟩
    have B1 := hid (Dg.below_tr B0.out h1)
    clear h1
    go_wp2
    go_quiet (fail)
    go_wp2
    go_ret
    exact ⟨rfl, Dg.below_drewN B1.out _⟩
end Go.Proofs.YtaoehkoffhnidaaDoor

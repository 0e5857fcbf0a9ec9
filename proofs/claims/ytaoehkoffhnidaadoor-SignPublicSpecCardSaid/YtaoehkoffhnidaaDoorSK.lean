/- Sign of the reference. -/
import Derived.Test.YtaoehkoffhnidaaDoorSJ
import Derived.Test.YtaoehkoffhnidaaDoorSH
namespace Go.Proofs.YtaoehkoffhnidaaDoor
open Go.RowKit Go
open Dg (Konst BS)
set_option linter.unusedVariables false
set_option maxRecDepth 20000
set_option linter.unusedSimpArgs false
set_option maxRecDepth 100000 in
set_option maxHeartbeats 2000000 in
theorem rSign_ok (x : Nat) (h : Hid (PrK x)) (v : Value) (m : List UInt8) (w : World) (hv : BS w v m) (hn : m.length ≤ 90000000) :
    Calls Tryd.prog 17 #[.int .i64 (x : Int), v] w fun e w' => e = ps (sigR x m) (sigS x m) 0 ∧ Below w.heap.size w w' := by
  obtain ⟨p, c, rfl⟩ := hv.form
  have HV := Lib.hid hv; have HN := Lib.hid hn
  obtain ⟨ln, hln⟩ : ∃ ln, ln = m.length := ⟨_, rfl⟩
  rw [← hln] at HV ⊢
  obtain ⟨k, hkk⟩ : ∃ k, k = nonc x m := ⟨_, rfl⟩
  have hks : Hid (Sc k) := Lib.hid (by rw [hkk]; exact sclOf_lt _ _)
  obtain ⟨P, hP⟩ : ∃ P, mp 4611686018427377339 4 x = P := ⟨_, rfl⟩
  obtain ⟨R, hR⟩ : ∃ R, mp 4611686018427377339 4 k = R := ⟨_, rfl⟩
  obtain ⟨hh, hhh⟩ : ∃ hh, hh = chal P R m := ⟨_, rfl⟩
  have hhs : Hid (Sc hh) := Lib.hid (by rw [hhh]; exact sclOf_lt _ _)
  obtain ⟨pr, hpr⟩ : ∃ pr, hh * x % 2305843009213688669 = pr := ⟨_, rfl⟩
  have hprs : Hid (Sc pr) := Lib.hid (by rw [← hpr]; exact Nat.mod_lt _ (by decide))
  obtain ⟨S, hS⟩ : ∃ S, (k + pr) % 2305843009213688669 = S := ⟨_, rfl⟩
  have eR : sigR x m = R := by rw [sigR, ← hkk, hR]
  have eS : sigS x m = S := by rw [sigS, eR, ← hkk, show pubN x = P from hP, ← hhh, hpr, hS]
  rw [eR, eS]
  have HKK := Lib.hid hkk; have HP := Lib.hid hP; have HR := Lib.hid hR; have HH := Lib.hid hhh; have HPR := Lib.hid hpr; have HS := Lib.hid hS
  clear hv hn hln hkk hP hR hhh hpr hS eR eS
  go_enter Tryd.func17, Tryd.ntmps17
  go_upto_region 1 with fail
  refine Dg.code_alloc (zs := [.int .i64 0, .int .i64 0]) ?_
  intro W0 hc0 hf0 hb0 hs0
  obtain ⟨g, hg⟩ : ∃ g, g = w.heap.size := ⟨_, rfl⟩
  rw [← hg] at hc0 hf0 ⊢
  have HG := Lib.hid hg
  have C0 := Lib.hid hc0; have F0 := Lib.hid hf0; have B0 := Lib.hid hb0
  have G0 := Lib.hid (show g < W0.heap.size by omega)
  clear hc0 hf0 hb0 hs0 hg
  go_wp2_with fail
  refine (rPublic_ok x P h HP _).mono ?_
  unfold pz
  rintro e u ⟨rfl, rfl⟩
  go_wp2_with fail
  refine (Dg.rBytes_any x _).mono ?_
  rintro e w1 ⟨u1, rfl, ob1, h1⟩
  have b1 := Dg.below_tr B0.out h1
  obtain ⟨u2, wa, r2, ob2, h2⟩ := Dg.append_ob ob1 (HV.out.ups b1) (by have := HN.out; simp [Dg.w8_length]; omega) h1.size
  have R2 := Lib.hid r2; have O2 := Lib.hid ob2
  have h12 := Lib.hid (h1.trans h2)
  have Ba := Lib.hid (Dg.below_tr B0.out h12.out)
  clear r2 ob2 ob1 h1 h2 b1
  go_wp2_with (at_builtin; refine Dg.wpList_append_run rfl (.tmp 25) (.tmp 26) 22 22 rfl _ _ _ rfl rfl R2.out ?_)
  refine (rsclr nonceT u2 _ wa (O2.out.bs (by simp [Dg.w8_length]; omega)) (by decide) (by have := HN.out; simp [Dg.w8_length]; omega)).mono ?_
  rintro e w2 ⟨rfl, h2⟩
  rw [show sclOf nonceT (Dg.w8 (x : Int) ++ m) = k from HKK.out.symm]
  have B2 := Lib.hid (Dg.below_tr Ba.out h2)
  have hh2 := h12.out.trans (h2.mono h12.out.size)
  have C2 := Lib.hid (C0.out.up hh2 G0.out); have F2 := Lib.hid (F0.out.up hh2 G0.out); have G2 := Lib.hid (Nat.lt_of_lt_of_le G0.out hh2.size)
  clear h2 hh2 h12 R2 O2 Ba
  go_wp2_with fail
  refine (rbaser k R hks HR _).mono ?_
  unfold pz
  rintro e u ⟨rfl, rfl⟩
  go_wp2_with fail
  refine (rchal_any P R _ m _ (HV.out.ups B2.out) HN.out).mono ?_
  rintro e w6 ⟨rfl, h4⟩
  rw [← HH.out]
  have B6 := Lib.hid (Dg.below_tr B2.out h4)
  have C6 := Lib.hid (C2.out.up h4 G2.out); have F6 := Lib.hid (F2.out.up h4 G2.out); have G6 := Lib.hid (Nat.lt_of_lt_of_le G2.out h4.size)
  clear h4
  go_wp2_with fail
  refine (rprodr hh x pr hhs h.out.sc HPR _).mono ?_
  unfold pz
  rintro e u ⟨rfl, rfl⟩
  go_wp2_with fail
  refine (rsumr k pr S hks hprs HS _).mono ?_
  unfold pz
  rintro e u ⟨rfl, rfl⟩
  clear C0 C2 F0 F2 G0 G2 B0 B2
  have c0 : w6.cell? ⟨g, 0, none⟩ = some (.int .i64 0) := C6.out.at0 (j := 0) rfl
  have c1 : w6.cell? ⟨g, 1, none⟩ = some (.int .i64 0) := C6.out.at0 (j := 1) rfl
  have f0 := F6.out 0
  have f1 := F6.out 1
  go_wp2
  have hcs := (C6.out.set 0 (.int .i64 (R : Int))).set 1 (.int .i64 (S : Int))
  have hbb := (B6.out.setCell (p := ⟨g, 0, none⟩) (by show w.heap.size ≤ g; rw [HG.out]; exact Nat.le_refl _) (.int .i64 (R : Int))).setCell (p := ⟨g, 1, none⟩) (by show w.heap.size ≤ g; rw [HG.out]; exact Nat.le_refl _) (.int .i64 (S : Int))
  exact bodyPost_ret (v := .tuple #[.agg [Value.int .i64 (R : Int), .int .i64 (S : Int)].toArray, .int .i64 0]) (Dg.results_cell_two Tryd.results17 _ _ g [.int .i64 (R : Int), .int .i64 (S : Int)] _ _ (by simp only [Array.getD]; rfl) hcs.range Tryd.underlying30 rfl (by kernel_rfl) (by simp only [Array.getD]; rfl)) rfl ⟨rfl, hbb⟩
set_option maxRecDepth 100000 in
theorem rSign_bad (x : Int) (h : Hid (Pk1 x = false)) (v : Value) (w : World) :
    Calls Tryd.prog 17 #[.int .i64 x, v] w fun e w' => e = ps 0 0 40 ∧ Below w.heap.size w w' := by
  go_enter Tryd.func17, Tryd.ntmps17
  go_upto_region 1 with fail
  refine Dg.code_alloc (zs := [.int .i64 0, .int .i64 0]) ?_
  intro W0 hc0 hf0 hb0 hs0
  obtain ⟨g, hg⟩ : ∃ g, g = w.heap.size := ⟨_, rfl⟩
  rw [← hg] at hc0 hf0 ⊢
  have HG := Lib.hid hg
  have C0 := Lib.hid hc0; have F0 := Lib.hid hf0; have B0 := Lib.hid hb0
  clear hc0 hf0 hb0 hs0 hg
  go_wp2_with fail
  refine (rPublic_bad x h _).mono ?_
  unfold pz
  rintro e u ⟨rfl, rfl⟩
  have c0 : W0.cell? ⟨g, 0, none⟩ = some (.int .i64 0) := C0.out.at0 (j := 0) rfl
  have c1 : W0.cell? ⟨g, 1, none⟩ = some (.int .i64 0) := C0.out.at0 (j := 1) rfl
  have f0 := F0.out 0
  have f1 := F0.out 1
  go_wp2
  have hcs := (C0.out.set 0 (.int .i64 0)).set 1 (.int .i64 0)
  have hbb := (B0.out.setCell (p := ⟨g, 0, none⟩) (by show w.heap.size ≤ g; rw [HG.out]; exact Nat.le_refl _) (.int .i64 0)).setCell (p := ⟨g, 1, none⟩) (by show w.heap.size ≤ g; rw [HG.out]; exact Nat.le_refl _) (.int .i64 0)
  exact bodyPost_ret (v := .tuple #[.agg [Value.int .i64 0, .int .i64 0].toArray, .int .i64 40]) (Dg.results_cell_two Tryd.results17 _ _ g [.int .i64 0, .int .i64 0] _ _ (by simp only [Array.getD]; rfl) hcs.range Tryd.underlying30 rfl (by kernel_rfl) (by simp only [Array.getD]; rfl)) rfl ⟨rfl, hbb⟩
end Go.Proofs.YtaoehkoffhnidaaDoor

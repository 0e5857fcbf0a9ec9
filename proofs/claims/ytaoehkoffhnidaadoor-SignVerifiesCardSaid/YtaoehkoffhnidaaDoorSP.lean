/- The laws SignVerifies and SignNonce. -/
import Derived.Test.YtaoehkoffhnidaaDoorSO
namespace Go.Proofs.YtaoehkoffhnidaaDoor
open Go.RowKit Go
open Dg (Konst BS OB hid w8 w8_length append_ob wpList_append_run)
set_option linter.unusedVariables false
set_option maxRecDepth 20000
set_option linter.unusedSimpArgs false
/-- an append that may be guarded -/
theorem wpl_append_w {P : Program} {w w' : World} {ops : Array Oper} {rest : List Oper} {o : Oper} {a : Act} {Q : Exit → Act → World → Prop}
    (hw : Region.wanted o (yielded ops a.tmps) = true) (s x : Operand) (t u : TypeId) (hop : o.op = Op.call { callee := Callee.builtin Builtin.append, args := #[s, x], argTypes := #[t, u] })
    (vs vx r : Value) (hs : a.eval s = vs) (hx : a.eval x = vx) (hrun : (Builtin.append_ #[t, u] o.type #[vs, vx]).run P w = .ok r w') (hK : wpList P ops Q rest (a.put o.dst r) w') :
    wpList P ops Q (o :: rest) a w := by
  unfold wpList
  rw [if_pos hw]
  refine .inl ?_
  unfold Oper.wp
  simp [execOp, hop, resolve, invoke, builtin, hs, hx, hrun, Result.andThen]
  exact hK
/-- what a key and a message lead to -/
structure Sg (k P R S : Nat) (m : List UInt8) : Prop where
  pk : PrK k
  eP : pubN k = P
  eR : sigR k m = R
  eS : sigS k m = S
theorem Sg.vf {k P R S : Nat} {m : List UInt8} (h : Sg k P R S m) : Vf P R S m := by
  have := vf_sig h.pk m; rwa [h.eP, h.eR, h.eS] at this
theorem Sg.elP {k P R S : Nat} {m : List UInt8} (h : Sg k P R S m) : Hid (El P) := by rw [← h.eP, pubN_pw h.pk]; exact pw_el _
theorem Sg.elR {k P R S : Nat} {m : List UInt8} (h : Sg k P R S m) : Hid (El R) := by rw [← h.eR, sigR_pw]; exact pw_el _
theorem Sg.scS {k P R S : Nat} {m : List UInt8} (h : Sg k P R S m) : Hid (Sc S) := by rw [← h.eS]; exact sigS_lt _ _
theorem sg_of (x : Int) (m : List UInt8) : ∃ k P R S, Hid (keyN x = k) ∧ Hid (Sg k P R S m) := ⟨_, _, _, _, hid rfl, hid ⟨(keyN_pk x).out, rfl, rfl, rfl⟩⟩
theorem Sg.pub {k P R S : Nat} {m : List UInt8} (h : Hid (Sg k P R S m)) (w : World) : Calls Tryd.prog 14 #[.int .i64 (k : Int)] w fun e w' => e = pz (P : Int) 0 ∧ Below w.heap.size w w' := Public_ok k P (hid h.out.pk) (hid h.out.eP) w
theorem Sg.sign {k P R S : Nat} {m : List UInt8} (h : Hid (Sg k P R S m)) (v : Value) (w : World) (hv : BS w v m) (hk : Konst w) (hn : m.length ≤ 1000000000) :
    Calls Tryd.prog 16 #[.int .i64 (k : Int), v] w fun e w' => e = ps R S 0 ∧ Below w.heap.size w w' := by
  have := Sign_ok k (hid h.out.pk) v m w hv hk hn; rwa [h.out.eR, h.out.eS] at this
set_option maxRecDepth 100000 in
set_option maxHeartbeats 2000000 in
theorem verifies_any (x : Int) (v : Value) (m : List UInt8) (w : World) (hv : BS w v m) (hk : Konst w) :
    Calls Tryd.prog 6 #[.int .i64 x, v] w fun e w' => e = .returned (.bool true) ∧ Below w.heap.size w w' := by
  obtain ⟨k, P, R, S, HKN, HG⟩ := sg_of x m
  obtain ⟨p, c, rfl⟩ := hv.form
  have HV := hid hv; have HK := hid hk
  obtain ⟨ln, hln⟩ : ∃ ln, ln = m.length := ⟨_, rfl⟩
  rw [← hln] at HV ⊢
  have HLN := hid hln
  clear hv hk hln
  by_cases hle : ln ≤ 1000
  · have hn : Hid (m.length ≤ 1000000000) := hid (by have := HLN.out; omega)
    have hd : decide ((1000 : Int) < (ln : Int)) = false := by simp; omega
    have s0 : decide ((0 : Int) ≤ (S : Int)) = true := by simp
    have s1 : decide ((S : Int) < 2305843009213688669) = true := by have h : S < 2305843009213688669 := HG.out.scS.out; simp; omega
    clear hle
    go_enter Tryd.func6, Tryd.ntmps6
    go_wp2_with fail
    refine (ssane_any _ HK.out).mono ?_
    rintro e w1 ⟨rfl, h1⟩
    have B1 := hid h1
    clear h1
    go_wp2_with fail
    refine (Key_any x k HKN _).mono ?_
    rintro e u ⟨rfl, rfl⟩
    go_wp2_with fail
    refine (Sg.pub HG _).mono ?_
    unfold pz
    rintro e w2 ⟨rfl, h2⟩
    have B2 := hid (Dg.below_tr B1.out h2)
    clear h2
    go_wp2_with fail
    refine (Sg.sign HG _ _ (HV.out.ups B2.out) (HK.out.ups B2.out) hn.out).mono ?_
    unfold ps
    rintro e w3 ⟨rfl, h3⟩
    have B3 := hid (Dg.below_tr B2.out h3)
    clear h3
    go_upto_region 8 with fail
    refine Dg.code_alloc (zs := [.int .i64 (R : Int), .int .i64 (S : Int)]) ?_
    intro W4 hc hf hb hs
    obtain ⟨g, hg⟩ : ∃ g, g = w3.heap.size := ⟨_, rfl⟩
    rw [← hg] at hc ⊢
    have B4 := hid (Dg.below_tr B3.out hb); have C4 := hid hc
    clear hc hf hb hs hg
    go_wp2_with fail
    refine (Check_ok P HG.out.elP _).mono ?_
    rintro e w5 ⟨rfl, h5⟩
    have B5 := hid (Dg.below_tr B4.out h5); have C5 := hid (C4.out.ups h5)
    clear h5 C4
    have c0 : w5.cell? ⟨g, 0, none⟩ = some (.int .i64 (R : Int)) := C5.out.at0 (j := 0) rfl
    go_wp2_with fail
    clear c0
    refine (Check_ok R HG.out.elR _).mono ?_
    rintro e w6 ⟨rfl, h6⟩
    have B6 := hid (Dg.below_tr B5.out h6); have C6 := hid (C5.out.ups h6)
    clear h6 C5
    have c0 : w6.cell? ⟨g, 0, none⟩ = some (.int .i64 (R : Int)) := C6.out.at0 (j := 0) rfl
    have c1 : w6.cell? ⟨g, 1, none⟩ = some (.int .i64 (S : Int)) := C6.out.at0 (j := 1) rfl
    go_wp2_with fail
    clear c0 c1
    refine (Verify_any P R S _ m _ (HV.out.ups B6.out) (HK.out.ups B6.out) hn.out).mono ?_
    rintro e w7 ⟨b, rfl, hb, h7⟩
    obtain rfl : b = true := hb.2 HG.out.vf
    have B7 := hid (Dg.below_tr B6.out h7)
    clear h7 hb
    go_wp2
    go_ret
    exact ⟨rfl, B7.out⟩
  · have hd : decide ((1000 : Int) < (ln : Int)) = true := by simp; omega
    clear hle
    go_enter Tryd.func6, Tryd.ntmps6
    go_wp2_with fail
    refine (ssane_any _ HK.out).mono ?_
    rintro e w1 ⟨rfl, h1⟩
    have B1 := hid h1
    clear h1
    go_wp2
    go_ret
    exact ⟨rfl, B1.out⟩
set_option maxRecDepth 100000 in
set_option maxHeartbeats 2000000 in
theorem snonce_any (x : Int) (v : Value) (m : List UInt8) (w : World) (hv : BS w v m) (hk : Konst w) :
    Calls Tryd.prog 10 #[.int .i64 x, v] w fun e w' => e = .returned (.bool true) ∧ Below w.heap.size w w' := by
  obtain ⟨k, P, R, S, HKN, HG⟩ := sg_of x m
  obtain ⟨p, c, rfl⟩ := hv.form
  have HV := hid hv; have HK := hid hk
  obtain ⟨ln, hln⟩ : ∃ ln, ln = m.length := ⟨_, rfl⟩
  rw [← hln] at HV ⊢
  have HLN := hid hln
  clear hv hk hln
  by_cases hle : ln ≤ 1000
  · have hn : Hid (m.length ≤ 90000000) := hid (by have := HLN.out; omega)
    have hd : decide ((1000 : Int) < (ln : Int)) = false := by simp; omega
    obtain ⟨h, hh⟩ : ∃ h, h = chal P R m := ⟨_, rfl⟩
    have hhs : Hid (Sc h) := hid (by rw [hh]; exact chal_lt _ _ _)
    obtain ⟨n, hnn⟩ : ∃ n, h * k % 2305843009213688669 = n := ⟨_, rfl⟩
    have hns : Hid (Sc n) := hid (by rw [← hnn]; exact Nat.mod_lt _ (by decide))
    obtain ⟨q, hq⟩ : ∃ q, 2305843009213688668 * n % 2305843009213688669 = q := ⟨_, rfl⟩
    obtain ⟨K0, hK0⟩ : ∃ K0, K0 = nonc k m := ⟨_, rfl⟩
    have hKs : Hid (Sc K0) := hid (by rw [hK0]; exact nonc_lt _ _)
    have hS : S = (K0 + n) % 2305843009213688669 := by
      rw [← HG.out.eS, sigS, HG.out.eP, HG.out.eR, ← hh, hnn, ← hK0]
    have hc : Hid ((S + q) % 2305843009213688669 = K0) := hid (nonce_found K0 n q _ 2305843009213688669 (by omega) hKs.out hq (by rw [← hS]))
    have hR : Hid (mp 4611686018427377339 4 K0 = R) := hid (by rw [hK0]; exact HG.out.eR)
    have HH := hid hh; have HN := hid hnn; have HQ := hid hq; have HK0 := hid hK0
    clear hle hh hnn hq hK0 hS
    go_enter Tryd.func10, Tryd.ntmps10
    go_wp2_with fail
    refine (ssane_any _ HK.out).mono ?_
    rintro e w1 ⟨rfl, h1⟩
    have B1 := hid h1
    clear h1
    go_wp2_with fail
    refine (Key_any x k HKN _).mono ?_
    rintro e u ⟨rfl, rfl⟩
    go_wp2_with fail
    refine (Sg.pub HG _).mono ?_
    unfold pz
    rintro e w2 ⟨rfl, h2⟩
    have B2 := hid (Dg.below_tr B1.out h2)
    clear h2
    go_wp2_with fail
    refine (Sg.sign HG _ _ (HV.out.ups B2.out) (HK.out.ups B2.out) (Nat.le_trans hn.out (by omega))).mono ?_
    unfold ps
    rintro e w3 ⟨rfl, h3⟩
    have B3 := hid (Dg.below_tr B2.out h3)
    clear h3
    go_upto_region 8 with fail
    refine Dg.code_alloc (zs := [.int .i64 (R : Int), .int .i64 (S : Int)]) ?_
    intro W4 hc' hf hb hs
    obtain ⟨g, hg⟩ : ∃ g, g = w3.heap.size := ⟨_, rfl⟩
    rw [← hg] at hc' ⊢
    have B4 := hid (Dg.below_tr B3.out hb); have C4 := hid hc'
    clear hc' hf hb hs hg
    have c0 : W4.cell? ⟨g, 0, none⟩ = some (.int .i64 (R : Int)) := C4.out.at0 (j := 0) rfl
    go_wp2_with fail
    clear c0
    refine (lchal_any P R _ m _ (HV.out.ups B4.out) (HK.out.ups B4.out) hn.out).mono ?_
    rintro e w5 ⟨rfl, h5⟩
    rw [← HH.out]
    have B5 := hid (Dg.below_tr B4.out h5); have C5 := hid (C4.out.ups h5)
    clear h5 C4
    go_wp2_with fail
    refine (prodr h k n hhs HG.out.pk.sc HN _).mono ?_
    unfold pz
    rintro e w6 ⟨rfl, h6⟩
    have B6 := hid (Dg.below_tr B5.out h6); have C6 := hid (C5.out.ups h6)
    clear h6 C5
    have c1 : w6.cell? ⟨g, 1, none⟩ = some (.int .i64 (S : Int)) := C6.out.at0 (j := 1) rfl
    go_wp2_with fail
    clear c1
    refine (minus_any S n q K0 HG.out.scS hns HQ hc _).mono ?_
    unfold pz
    rintro e w7 ⟨rfl, h7⟩
    have B7 := hid (Dg.below_tr B6.out h7); have C7 := hid (C6.out.ups h7)
    clear h7 C6
    go_wp2_with fail
    refine (baser K0 R hKs hR _).mono ?_
    unfold pz
    rintro e wq ⟨rfl, h8⟩
    have B8 := hid (Dg.below_tr B7.out h8); have C8 := hid (C7.out.ups h8)
    clear h8 C7
    have c0 : wq.cell? ⟨g, 0, none⟩ = some (.int .i64 (R : Int)) := C8.out.at0 (j := 0) rfl
    go_wp2_with fail
    clear c0 C8
    refine (Dg.number_any k _).mono ?_
    rintro e w9 ⟨u1, rfl, ob1, h9⟩
    have b9 := Dg.below_tr B8.out h9
    obtain ⟨u2, wa, r2, ob2, h10⟩ := append_ob ob1 (HV.out.ups b9) (by have := hn.out; simp [w8_length]; omega) h9.size
    have R2 := hid r2; have O2 := hid ob2
    have Ba := hid (Dg.below_tr B8.out (h9.trans h10))
    clear r2 ob2 ob1 h9 h10 b9
    go_wp2_with (at_builtin; refine wpl_append_w rfl (.tmp 81) (.tmp 82) 22 22 rfl _ _ _ rfl rfl R2.out ?_)
    refine (sclr nonceT u2 _ wa (O2.out.bs (by simp [w8_length]; omega)) (HK.out.ups Ba.out) (by decide) (by have := hn.out; simp [w8_length]; omega)).mono ?_
    rintro e w10 ⟨rfl, h10⟩
    rw [show sclOf nonceT (Dg.w8 (k : Int) ++ m) = K0 from HK0.out.symm]
    have B10 := hid (Dg.below_tr Ba.out h10)
    clear h10 R2 O2
    go_wp2
    go_ret
    exact ⟨rfl, B10.out⟩
  · have hd : decide ((1000 : Int) < (ln : Int)) = true := by simp; omega
    clear hle
    go_enter Tryd.func10, Tryd.ntmps10
    go_wp2_with fail
    refine (ssane_any _ HK.out).mono ?_
    rintro e w1 ⟨rfl, h1⟩
    have B1 := hid h1
    clear h1
    go_wp2
    go_ret
    exact ⟨rfl, B1.out⟩
end Go.Proofs.YtaoehkoffhnidaaDoor

/- Sign of the program. -/
import Derived.Test.YtaoehkoffhnidaaDoorSH
import Derived.Test.YtaoehkoffhnidaaDoorDT
namespace Go.Proofs.YtaoehkoffhnidaaDoor
open Go.RowKit Go
open Dg (Konst BS)
set_option linter.unusedVariables false
set_option maxRecDepth 20000
set_option linter.unusedSimpArgs false
def pubN (x : Nat) : Nat := mp 4611686018427377339 4 x
def sigR (x : Nat) (m : List UInt8) : Nat := mp 4611686018427377339 4 (nonc x m)
def sigS (x : Nat) (m : List UInt8) : Nat := (nonc x m + chal (pubN x) (sigR x m) m * x % 2305843009213688669) % 2305843009213688669
/-- a signature and an error -/
def ps (R S e : Int) : Ending := .returned (.tuple #[.agg #[.int .i64 R, .int .i64 S], .int .i64 e])
set_option maxRecDepth 100000 in
set_option maxHeartbeats 2000000 in
theorem Sign_ok (x : Nat) (h : Hid (PrK x)) (v : Value) (m : List UInt8) (w : World) (hv : BS w v m) (hk : Konst w) (hn : m.length ≤ 1000000000) :
    Calls Tryd.prog 16 #[.int .i64 (x : Int), v] w fun e w' => e = ps (sigR x m) (sigS x m) 0 ∧ Below w.heap.size w w' := by
  obtain ⟨p, c, rfl⟩ := hv.form
  have HV := Lib.hid hv; have HK := Lib.hid hk; have HN := Lib.hid hn
  obtain ⟨ln, hln⟩ : ∃ ln, ln = m.length := ⟨_, rfl⟩
  rw [← hln] at HV ⊢
  obtain ⟨k, hkk⟩ : ∃ k, k = nonc x m := ⟨_, rfl⟩
  have hks : Hid (Sc k) := Lib.hid (by rw [hkk]; exact sclOf_lt _ _)
  obtain ⟨P, hP⟩ : ∃ P, mp 4611686018427377339 4 x = P := ⟨_, rfl⟩
  obtain ⟨R, hR⟩ : ∃ R, mp 4611686018427377339 4 k = R := ⟨_, rfl⟩
  obtain ⟨hh, hhh⟩ : ∃ hh, hh = chal P R m := ⟨_, rfl⟩
  have hhs : Hid (Sc hh) := Lib.hid (by rw [hhh]; exact sclOf_lt _ _)
  obtain ⟨pr, hpr⟩ : ∃ pr, hh * x % 2305843009213688669 = pr := ⟨_, rfl⟩
  have hprs : Hid (Sc pr) := Lib.hid (by rw [← hpr]; exact Nat.mod_lt _ (by decide))
  obtain ⟨S, hS⟩ : ∃ S, (k + pr) % 2305843009213688669 = S := ⟨_, rfl⟩
  have eR : sigR x m = R := by rw [sigR, ← hkk, hR]
  have eS : sigS x m = S := by rw [sigS, eR, ← hkk, show pubN x = P from hP, ← hhh, hpr, hS]
  rw [eR, eS]
  have HKK := Lib.hid hkk; have HP := Lib.hid hP; have HR := Lib.hid hR; have HH := Lib.hid hhh; have HPR := Lib.hid hpr; have HS := Lib.hid hS
  clear hv hk hn hln hkk hP hR hhh hpr hS eR eS
  go_enter Tryd.func16, Tryd.ntmps16
  go_upto_region 1 with fail
  refine Dg.code_alloc (zs := [.int .i64 0, .int .i64 0]) ?_
  intro W0 hc0 hf0 hb0 hs0
  obtain ⟨g, hg⟩ : ∃ g, g = w.heap.size := ⟨_, rfl⟩
  rw [← hg] at hc0 hf0 ⊢
  have HG := Lib.hid hg
  have C0 := Lib.hid hc0; have F0 := Lib.hid hf0; have B0 := Lib.hid hb0
  have G0 := Lib.hid (show g < W0.heap.size by omega)
  clear hc0 hf0 hb0 hs0 hg
  go_wp2_with fail
  refine (Public_ok x P h HP _).mono ?_
  unfold pz
  rintro e w1 ⟨rfl, h1⟩
  have B1 := Lib.hid (Dg.below_tr B0.out h1)
  have C1 := Lib.hid (C0.out.up h1 G0.out); have F1 := Lib.hid (F0.out.up h1 G0.out); have G1 := Lib.hid (Nat.lt_of_lt_of_le G0.out h1.size)
  clear h1
  go_wp2_with fail
  refine (nonce_any x _ m _ (HV.out.ups B1.out) (HK.out.ups B1.out) HN.out).mono ?_
  rintro e w2 ⟨rfl, h2⟩
  rw [← HKK.out]
  have B2 := Lib.hid (Dg.below_tr B1.out h2)
  have C2 := Lib.hid (C1.out.up h2 G1.out); have F2 := Lib.hid (F1.out.up h2 G1.out); have G2 := Lib.hid (Nat.lt_of_lt_of_le G1.out h2.size)
  clear h2
  go_wp2_with fail
  refine (baser k R hks HR _).mono ?_
  unfold pz
  rintro e w3 ⟨rfl, h3⟩
  have B3 := Lib.hid (Dg.below_tr B2.out h3)
  have C3 := Lib.hid (C2.out.up h3 G2.out); have F3 := Lib.hid (F2.out.up h3 G2.out); have G3 := Lib.hid (Nat.lt_of_lt_of_le G2.out h3.size)
  clear h3
  go_wp2_with fail
  refine (challenge_any P R _ m _ (HV.out.ups B3.out) (HK.out.ups B3.out) HN.out).mono ?_
  rintro e w4 ⟨rfl, h4⟩
  rw [← HH.out]
  have B4 := Lib.hid (Dg.below_tr B3.out h4)
  have C4 := Lib.hid (C3.out.up h4 G3.out); have F4 := Lib.hid (F3.out.up h4 G3.out); have G4 := Lib.hid (Nat.lt_of_lt_of_le G3.out h4.size)
  clear h4
  go_wp2_with fail
  refine (prodr hh x pr hhs h.out.sc HPR _).mono ?_
  unfold pz
  rintro e w5 ⟨rfl, h5⟩
  have B5 := Lib.hid (Dg.below_tr B4.out h5)
  have C5 := Lib.hid (C4.out.up h5 G4.out); have F5 := Lib.hid (F4.out.up h5 G4.out); have G5 := Lib.hid (Nat.lt_of_lt_of_le G4.out h5.size)
  clear h5
  go_wp2_with fail
  refine (sumr k pr S hks hprs HS _).mono ?_
  unfold pz
  rintro e w6 ⟨rfl, h6⟩
  have B6 := Lib.hid (Dg.below_tr B5.out h6)
  have C6 := Lib.hid (C5.out.up h6 G5.out); have F6 := Lib.hid (F5.out.up h6 G5.out); have G6 := Lib.hid (Nat.lt_of_lt_of_le G5.out h6.size)
  clear h6 C0 C1 C2 C3 C4 C5 F0 F1 F2 F3 F4 F5 G0 G1 G2 G3 G4 G5 B0 B1 B2 B3 B4 B5
  have c0 : w6.cell? ⟨g, 0, none⟩ = some (.int .i64 0) := C6.out.at0 (j := 0) rfl
  have c1 : w6.cell? ⟨g, 1, none⟩ = some (.int .i64 0) := C6.out.at0 (j := 1) rfl
  have f0 := F6.out 0
  have f1 := F6.out 1
  go_wp2
  have hcs := (C6.out.set 0 (.int .i64 (R : Int))).set 1 (.int .i64 (S : Int))
  have hbb := (B6.out.setCell (p := ⟨g, 0, none⟩) (by show w.heap.size ≤ g; rw [HG.out]; exact Nat.le_refl _) (.int .i64 (R : Int))).setCell (p := ⟨g, 1, none⟩) (by show w.heap.size ≤ g; rw [HG.out]; exact Nat.le_refl _) (.int .i64 (S : Int))
  exact bodyPost_ret (v := .tuple #[.agg [Value.int .i64 (R : Int), .int .i64 (S : Int)].toArray, .int .i64 0]) (Dg.results_cell_two Tryd.results16 _ _ g [.int .i64 (R : Int), .int .i64 (S : Int)] _ _ (by simp only [Array.getD]; rfl) hcs.range Tryd.underlying30 rfl (by kernel_rfl) (by simp only [Array.getD]; rfl)) rfl ⟨rfl, hbb⟩
set_option maxRecDepth 100000 in
theorem Sign_bad (x : Int) (h : Hid (Pk1 x = false)) (v : Value) (w : World) :
    Calls Tryd.prog 16 #[.int .i64 x, v] w fun e w' => e = ps 0 0 40 ∧ Below w.heap.size w w' := by
  go_enter Tryd.func16, Tryd.ntmps16
  go_upto_region 1 with fail
  refine Dg.code_alloc (zs := [.int .i64 0, .int .i64 0]) ?_
  intro W0 hc0 hf0 hb0 hs0
  obtain ⟨g, hg⟩ : ∃ g, g = w.heap.size := ⟨_, rfl⟩
  rw [← hg] at hc0 hf0 ⊢
  have HG := Lib.hid hg
  have C0 := Lib.hid hc0; have F0 := Lib.hid hf0; have B0 := Lib.hid hb0
  clear hc0 hf0 hb0 hs0 hg
  go_wp2_with fail
  refine (Public_bad x h _).mono ?_
  unfold pz
  rintro e u ⟨rfl, rfl⟩
  have c0 : W0.cell? ⟨g, 0, none⟩ = some (.int .i64 0) := C0.out.at0 (j := 0) rfl
  have c1 : W0.cell? ⟨g, 1, none⟩ = some (.int .i64 0) := C0.out.at0 (j := 1) rfl
  have f0 := F0.out 0
  have f1 := F0.out 1
  go_wp2
  have hcs := (C0.out.set 0 (.int .i64 0)).set 1 (.int .i64 0)
  have hbb := (B0.out.setCell (p := ⟨g, 0, none⟩) (by show w.heap.size ≤ g; rw [HG.out]; exact Nat.le_refl _) (.int .i64 0)).setCell (p := ⟨g, 1, none⟩) (by show w.heap.size ≤ g; rw [HG.out]; exact Nat.le_refl _) (.int .i64 0)
  exact bodyPost_ret (v := .tuple #[.agg [Value.int .i64 0, .int .i64 0].toArray, .int .i64 40]) (Dg.results_cell_two Tryd.results16 _ _ g [.int .i64 0, .int .i64 0] _ _ (by simp only [Array.getD]; rfl) hcs.range Tryd.underlying30 rfl (by kernel_rfl) (by simp only [Array.getD]; rfl)) rfl ⟨rfl, hbb⟩
end Go.Proofs.YtaoehkoffhnidaaDoor
namespace Go.Proofs.YtaoehkoffhnidaaDoor
open Go
set_option linter.unusedVariables false
set_option linter.unusedSimpArgs false
/-- a power of G -/
def pw (e : Nat) : Nat := 4 ^ e % 4611686018427377339
theorem pw_mod (e : Nat) : pw (e % 2305843009213688669) = pw e := (pow_modQ el4.out e).symm
theorem pw_congr {a b : Nat} (h : a % 2305843009213688669 = b % 2305843009213688669) : pw a = pw b := by rw [← pw_mod a, h, pw_mod]
theorem pw_mul (a b : Nat) : pw a * pw b % 4611686018427377339 = pw (a + b) := by
  unfold pw; rw [← Nat.mul_mod, ← Nat.pow_add]
theorem pw_mp (k : Nat) (h : k < 2305843009213688669) : mp 4611686018427377339 4 k = pw k := mpP _ _ (by omega)
theorem mp_pw (a k : Nat) (h : k < 2305843009213688669) : mp 4611686018427377339 (pw a) k = pw (a * k) := by
  rw [mpP _ _ (by omega)]; unfold pw; rw [← Nat.pow_mod, ← Nat.pow_mul]
theorem pw_el (k : Nat) : El (pw k) := el_pow el4.out k
theorem pw_inj' (a b : Nat) (hb : b < 2305843009213688669) (hab : a < b) : pw a ≠ pw b := by
  intro h
  obtain ⟨P, hP⟩ : ∃ P, P = 4611686018427377339 := ⟨_, rfl⟩
  have hp : Pr P := by rw [hP]; exact prP
  have hd : ¬ P ∣ pw a := not_dvd (by have := (pw_el a).1; omega) (by rw [hP]; exact (pw_el a).2.1)
  have e : pw a * pw (b - a) % P = pw a * 1 % P := by
    rw [hP, pw_mul, show a + (b - a) = b by omega, ← h, Nat.mul_one, Nat.mod_eq_of_lt (pw_el a).2.1]
  have := cancel hp hd e
  have hl := (pw_el (b - a)).2.1
  rw [Nat.mod_eq_of_lt (by rw [hP]; exact hl), Nat.mod_eq_of_lt (by omega)] at this
  rw [← pw_mp (b - a) (by omega)] at this
  exact base_ne (b - a) (by omega) (by omega) this
theorem pw_inj {a b : Nat} (ha : a < 2305843009213688669) (hb : b < 2305843009213688669) (h : pw a = pw b) : a = b := by
  rcases Nat.lt_trichotomy a b with h1 | h1 | h1
  · exact absurd h (pw_inj' a b hb h1)
  · exact h1
  · exact absurd h.symm (pw_inj' b a ha h1)
theorem nonc_lt (x : Int) (m : List UInt8) : nonc x m < 2305843009213688669 := sclOf_lt _ _
theorem chal_lt (p r : Int) (m : List UInt8) : chal p r m < 2305843009213688669 := sclOf_lt _ _
theorem pubN_pw {x : Nat} (h : PrK x) : pubN x = pw x := pw_mp x h.2
theorem sigR_pw (x : Nat) (m : List UInt8) : sigR x m = pw (nonc x m) := pw_mp _ (nonc_lt _ _)
theorem sigS_lt (x : Nat) (m : List UInt8) : sigS x m < 2305843009213688669 := Nat.mod_lt _ (by decide)
theorem sig_eq {x : Nat} (h : PrK x) (m : List UInt8) : pw (sigS x m) = pw (nonc x m) * mp 4611686018427377339 (pw x) (chal (pubN x) (sigR x m) m) % 4611686018427377339 := by
  rw [mp_pw x _ (chal_lt _ _ _), pw_mul]
  unfold sigS
  rw [pw_mod]
  apply pw_congr
  rw [Nat.add_mod_mod, Nat.mul_comm x]
theorem vf_sig {x : Nat} (h : PrK x) (m : List UInt8) : Vf (pubN x) (sigR x m) (sigS x m) m := by
  refine ⟨pubN x, sigR x m, sigS x m, rfl, rfl, rfl, ?_, ?_, sigS_lt x m, ?_⟩
  · rw [pubN_pw h]; exact pw_el x
  · rw [sigR_pw]; exact pw_el _
  · rw [pw_mp _ (sigS_lt x m), sig_eq h m, ← pubN_pw h, ← sigR_pw]
theorem vf_only {x : Nat} (h : PrK x) (m : List UInt8) (n : Int) : Vf (pubN x) (sigR x m) n m ↔ n = (sigS x m : Int) := by
  constructor
  · rintro ⟨p, r, s, e1, e2, rfl, hp, hr, hs, he⟩
    obtain rfl : pubN x = p := by omega
    obtain rfl : sigR x m = r := by omega
    have h1 := vf_sig h m
    obtain ⟨p', r', s', f1, f2, f3, _, _, hs', he'⟩ := h1
    obtain rfl : pubN x = p' := by omega
    obtain rfl : sigR x m = r' := by omega
    obtain rfl : sigS x m = s' := by omega
    rw [← he, pw_mp _ hs', pw_mp _ hs] at he'
    have := pw_inj hs' hs he'
    omega
  · rintro rfl; exact vf_sig h m
/-- the holder of the key finds the nonce -/
theorem nonce_found (k m n c Q : Nat) (hQ : 1 ≤ Q) (hk : k < Q) (hn : (Q - 1) * m % Q = n) (hc : ((k + m) % Q + n) % Q = c) : c = k := by
  rw [← hc, ← hn, ← Nat.add_mod, Nat.add_assoc, show m + (Q - 1) * m = Q * m by rw [Nat.add_comm, ← Nat.succ_mul]; congr 1; omega, Nat.add_mul_mod_self_left, Nat.mod_eq_of_lt hk]
theorem diff_exp (k l h i x Q : Nat) : (((k + h * x % Q) % Q) + (Q - 1) * ((l + i * x % Q) % Q) % Q) % Q = (k + l * (Q - 1) + x * ((h + (Q - 1) * i % Q) % Q)) % Q := by
  have e1 : (((k + h * x % Q) % Q) + (Q - 1) * ((l + i * x % Q) % Q) % Q) % Q = (k + h * x + (Q - 1) * (l + i * x)) % Q := by
    rw [Nat.add_mod_mod, Nat.mod_add_mod, Nat.add_right_comm, Nat.add_mod_mod, Nat.add_right_comm]
    conv => lhs; rw [Nat.add_mod, Nat.mul_mod, Nat.mod_mod, Nat.add_mod_mod l, ← Nat.mul_mod, ← Nat.add_mod]
  have e2 : (k + l * (Q - 1) + x * ((h + (Q - 1) * i % Q) % Q)) % Q = (k + l * (Q - 1) + x * (h + (Q - 1) * i)) % Q := by
    rw [Nat.add_mod_mod, Nat.add_mod, Nat.mul_mod_mod, ← Nat.add_mod]
  rw [e1, e2]
  congr 1
  simp only [Nat.mul_add, Nat.mul_comm h x, Nat.mul_comm (Q - 1) l, Nat.mul_comm i x, Nat.mul_left_comm (Q - 1) x i]
  omega
end Go.Proofs.YtaoehkoffhnidaaDoor

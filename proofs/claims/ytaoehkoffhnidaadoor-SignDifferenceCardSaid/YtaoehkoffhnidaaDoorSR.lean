/- The law SignDifference. -/
import Derived.Test.YtaoehkoffhnidaaDoorSQ
namespace Go.Proofs.YtaoehkoffhnidaaDoor
open Go.RowKit Go
open Dg (Konst BS hid wa_start wa_tk wa_move wa_asg wa_done wa_branch ar_op ar_nil WA AR)
set_option linter.unusedVariables false
set_option maxRecDepth 20000
set_option linter.unusedSimpArgs false
/-- the equation of the law -/
theorem diff_eq {k P R1 S1 R2 S2 : Nat} {a b : List UInt8} (G1 : Sg k P R1 S1 a) (G2 : Sg k P R2 S2 b) (h i q1 d q2 c I r pc : Nat) (hh : h = chal P R1 a) (hi : i = chal P R2 b)
    (hq1 : 2305843009213688668 * S2 % 2305843009213688669 = q1) (hd : (S1 + q1) % 2305843009213688669 = d) (hq2 : 2305843009213688668 * i % 2305843009213688669 = q2) (hc : (h + q2) % 2305843009213688669 = c)
    (hI : mp 4611686018427377339 R2 2305843009213688668 = I) (hr : R1 * I % 4611686018427377339 = r) (hp : mp 4611686018427377339 P c = pc) :
    mp 4611686018427377339 4 d = r * pc % 4611686018427377339 := by
  have e1 : S1 = (nonc k a + h * k % 2305843009213688669) % 2305843009213688669 := by rw [← G1.eS, sigS, G1.eP, G1.eR, ← hh]
  have e2 : S2 = (nonc k b + i * k % 2305843009213688669) % 2305843009213688669 := by rw [← G2.eS, sigS, G2.eP, G2.eR, ← hi]
  have eP : P = pw k := by rw [← G1.eP, pubN_pw G1.pk]
  have eR1 : R1 = pw (nonc k a) := by rw [← G1.eR, sigR_pw]
  have eR2 : R2 = pw (nonc k b) := by rw [← G2.eR, sigR_pw]
  have hdl : d < 2305843009213688669 := by rw [← hd]; exact Nat.mod_lt _ (by decide)
  have hcl : c < 2305843009213688669 := by rw [← hc]; exact Nat.mod_lt _ (by decide)
  rw [pw_mp d hdl, ← hr, ← hp, ← hI, eP, eR1, eR2, mp_pw _ _ (by decide), mp_pw _ _ hcl, pw_mul, pw_mul]
  apply pw_congr
  have h0 := diff_exp (nonc k a) (nonc k b) h i k 2305843009213688669
  rw [← e1, ← e2, show (2305843009213688669 - 1 : Nat) = 2305843009213688668 from rfl, hq1, hd, hq2, hc] at h0
  rw [Nat.mod_eq_of_lt hdl]
  exact h0
set_option maxRecDepth 100000 in
set_option maxHeartbeats 4000000 in
theorem diff_run (x : Int) (k P R1 S1 R2 S2 h i q1 d q2 c I r pc rg : Nat) (a b : List UInt8) (p1 p2 : Option Addr) (la lb c1 c2 : Nat) (w : World) (HKN : Hid (keyN x = k)) (HG1 : Hid (Sg k P R1 S1 a)) (HG2 : Hid (Sg k P R2 S2 b))
    (HV1 : Hid (BS w (.slice p1 la c1) a)) (HV2 : Hid (BS w (.slice p2 lb c2) b)) (HK : Hid (Konst w)) (hn1 : Hid (a.length ≤ 90000000)) (hn2 : Hid (b.length ≤ 90000000))
    (hd1 : decide ((1000 : Int) < (la : Int)) = false) (hd2 : decide ((1000 : Int) < (lb : Int)) = false)
    (hhs : Hid (Sc h)) (his : Hid (Sc i)) (hds : Hid (Sc d)) (hcs : Hid (Sc c)) (hIe : Hid (El I)) (hre : Hid (El r)) (hpe : Hid (El pc)) (heq : Hid (mp 4611686018427377339 4 d = rg)) (HH : Hid (h = chal P R1 a)) (HI : Hid (i = chal P R2 b))
    (HQ1 : Hid (2305843009213688668 * S2 % 2305843009213688669 = q1)) (HD : Hid ((S1 + q1) % 2305843009213688669 = d)) (HQ2 : Hid (2305843009213688668 * i % 2305843009213688669 = q2)) (HC : Hid ((h + q2) % 2305843009213688669 = c))
    (HIN : Hid (mp 4611686018427377339 R2 2305843009213688668 = I)) (HR : Hid (R1 * I % 4611686018427377339 = r)) (HPC : Hid (mp 4611686018427377339 P c = pc)) (HRG : Hid (r * pc % 4611686018427377339 = rg)) :
    Calls Tryd.prog 9 #[.int .i64 x, .slice p1 la c1, .slice p2 lb c2] w fun e w' => e = .returned (.bool true) ∧ Below w.heap.size w w' := by
    go_enter Tryd.func9, Tryd.ntmps9
    go_wp2_with fail
    refine (ssane_any _ HK.out).mono ?_
    rintro e w1 ⟨rfl, h1⟩
    have B1 := hid h1
    clear h1
    go_wp2_with fail
    refine (Key_any x k HKN _).mono ?_
    rintro e u ⟨rfl, rfl⟩
    go_wp2_with fail
    refine (Sg.pub HG1 _).mono ?_
    unfold pz
    rintro e w2 ⟨rfl, h2⟩
    have B2 := hid (Dg.below_tr B1.out h2)
    clear h2 hd1 hd2
    go_wp2_with fail
    refine (Sg.sign HG1 _ _ (HV1.out.ups B2.out) (HK.out.ups B2.out) (Nat.le_trans hn1.out (by omega))).mono ?_
    unfold ps
    rintro e w3 ⟨rfl, h3⟩
    have B3 := hid (Dg.below_tr B2.out h3)
    clear h3
    go_upto_region 8 with fail
    refine Dg.code_alloc (zs := [.int .i64 (R1 : Int), .int .i64 (S1 : Int)]) ?_
    intro W4 hc' hf hb hs
    obtain ⟨g, hg⟩ : ∃ g, g = w3.heap.size := ⟨_, rfl⟩
    rw [← hg] at hc' ⊢
    have B4 := hid (Dg.below_tr B3.out hb); have C4 := hid hc'
    clear hc' hf hb hs hg
    go_wp2_with fail
    refine (Sg.sign HG2 _ _ (HV2.out.ups B4.out) (HK.out.ups B4.out) (Nat.le_trans hn2.out (by omega))).mono ?_
    unfold ps
    rintro e w5 ⟨rfl, h5⟩
    have B5 := hid (Dg.below_tr B4.out h5); have C5 := hid (C4.out.ups h5)
    clear h5
    go_upto_region 9 with fail
    refine Dg.code_alloc (zs := [.int .i64 (R2 : Int), .int .i64 (S2 : Int)]) ?_
    intro W6 hc' hf hb hs
    obtain ⟨g2, hg2⟩ : ∃ g, g = w5.heap.size := ⟨_, rfl⟩
    rw [← hg2] at hc' ⊢
    have B6 := hid (Dg.below_tr B5.out hb); have C6 := hid (C5.out.ups hb); have D6 := hid hc'
    clear hc' hf hb hs hg2 B1 B2 B3 B4 B5 C4 C5
    have s1 : W6.cell? ⟨g, 1, none⟩ = some (.int .i64 (S1 : Int)) := C6.out.at0 (j := 1) rfl
    have s2 : W6.cell? ⟨g2, 1, none⟩ = some (.int .i64 (S2 : Int)) := D6.out.at0 (j := 1) rfl
    go_wp2_with fail
    clear s1 s2
    refine (minus_any S1 S2 q1 d HG1.out.scS HG2.out.scS HQ1 HD _).mono ?_
    unfold pz
    rintro e w7 ⟨rfl, h7⟩
    have B7 := hid (Dg.below_tr B6.out h7); have CR := hid (C6.out.ups h7); have DR := hid (D6.out.ups h7)
    clear h7 B6 C6 D6
    go_upto_region 12 with fail
    have HT := hid ((Below.refl w7.heap.size w7).drew)
    refine wa_start (S := fun W => Below w7.heap.size w7 W) (by kernel_rfl) HT.out ?_
    refine wa_tk 0 (some 76) (.int .i64 P) rfl (by kernel_rfl) rfl rfl HT.out (fun w h0 => by go_simp) ?_
    try simp only [Act.put, List.setIfInBounds_toArray, List.set_cons_zero, List.set_cons_succ]
    refine wa_tk 1 (some 77) (.pointer (some ⟨g, 0, none⟩)) rfl (by kernel_rfl) rfl rfl HT.out (fun w h0 => by go_simp) ?_
    try simp only [Act.put, List.setIfInBounds_toArray, List.set_cons_zero, List.set_cons_succ]
    refine wa_tk 2 (some 78) (.int .i64 R1) rfl (by kernel_rfl) rfl rfl HT.out (fun w h0 => by have c1 : w.cell? ⟨g, 0, none⟩ = some (.int .i64 (R1 : Int)) := (CR.out.ups h0).at0 (j := 0) rfl; go_simp) ?_
    try simp only [Act.put, List.setIfInBounds_toArray, List.set_cons_zero, List.set_cons_succ]
    refine wa_tk 3 (some 79) (.slice p1 la c1) rfl (by kernel_rfl) rfl rfl HT.out (fun w h0 => by go_simp) ?_
    try simp only [Act.put, List.setIfInBounds_toArray, List.set_cons_zero, List.set_cons_succ]
    refine wa_tk 5 (some 81) (.int .i64 P) rfl (by kernel_rfl) rfl rfl HT.out (fun w h0 => by go_simp) ?_
    try simp only [Act.put, List.setIfInBounds_toArray, List.set_cons_zero, List.set_cons_succ]
    refine wa_tk 6 (some 82) (.pointer (some ⟨g2, 0, none⟩)) rfl (by kernel_rfl) rfl rfl HT.out (fun w h0 => by go_simp) ?_
    try simp only [Act.put, List.setIfInBounds_toArray, List.set_cons_zero, List.set_cons_succ]
    refine wa_tk 7 (some 83) (.int .i64 R2) rfl (by kernel_rfl) rfl rfl HT.out (fun w h0 => by have c1 : w.cell? ⟨g2, 0, none⟩ = some (.int .i64 (R2 : Int)) := (DR.out.ups h0).at0 (j := 0) rfl; go_simp) ?_
    try simp only [Act.put, List.setIfInBounds_toArray, List.set_cons_zero, List.set_cons_succ]
    refine wa_tk 8 (some 84) (.slice p2 lb c2) rfl (by kernel_rfl) rfl rfl HT.out (fun w h0 => by go_simp) ?_
    try simp only [Act.put, List.setIfInBounds_toArray, List.set_cons_zero, List.set_cons_succ]
    refine wa_branch [4] (by decide +kernel) rfl ?_
    refine ar_op 4 rfl rfl (fun K hK => ?_) ar_nil
    go_simp
    go_at_call 25
    refine (lchal_any P R1 _ a _ (HV1.out.ups (Dg.below_tr B7.out HT.out)) (HK.out.ups (Dg.below_tr B7.out HT.out)) hn1.out).mono ?_
    rintro e wq ⟨rfl, hq⟩
    rw [← HH.out]
    have HT := hid (HT.out.trans (hq.mono HT.out.size))
    clear hq
    refine hK.out _ _ HT.out ?_
    clear hK K
    try simp only [Act.put, List.setIfInBounds_toArray, List.set_cons_zero, List.set_cons_succ]
    refine wa_branch [9] (by decide +kernel) rfl ?_
    refine ar_op 9 rfl rfl (fun K hK => ?_) ar_nil
    go_simp
    go_at_call 25
    refine (lchal_any P R2 _ b _ (HV2.out.ups (Dg.below_tr B7.out HT.out)) (HK.out.ups (Dg.below_tr B7.out HT.out)) hn2.out).mono ?_
    rintro e wr ⟨rfl, hq⟩
    rw [← HI.out]
    have HT := hid (HT.out.trans (hq.mono HT.out.size))
    clear hq
    refine hK.out _ _ HT.out ?_
    clear hK K
    try simp only [Act.put, List.setIfInBounds_toArray, List.set_cons_zero, List.set_cons_succ]
    refine wa_branch [10] (by decide +kernel) rfl ?_
    refine ar_op 10 rfl rfl (fun K hK => ?_) ar_nil
    go_simp
    go_at_call 27
    refine (minus_any h i q2 c hhs his HQ2 HC _).mono ?_
    unfold pz
    rintro e ws ⟨rfl, hq⟩
    have HT := hid (HT.out.trans (hq.mono HT.out.size))
    clear hq
    refine hK.out _ _ HT.out ?_
    clear hK K
    try simp only [Act.put, List.setIfInBounds_toArray, List.set_cons_zero, List.set_cons_succ]
    refine wa_tk 11 (some 75) (.tuple #[.int .i64 c, .int .i64 0]) rfl (by kernel_rfl) rfl rfl HT.out (fun w h0 => by go_simp) ?_
    try simp only [Act.put, List.setIfInBounds_toArray, List.set_cons_zero, List.set_cons_succ]
    refine wa_tk 12 (some 87) (.int .i64 c) rfl (by kernel_rfl) rfl rfl HT.out (fun w h0 => by go_simp) ?_
    try simp only [Act.put, List.setIfInBounds_toArray, List.set_cons_zero, List.set_cons_succ]
    refine wa_tk 13 (some 88) (.int .i64 0) rfl (by kernel_rfl) rfl rfl HT.out (fun w h0 => by go_simp) ?_
    try simp only [Act.put, List.setIfInBounds_toArray, List.set_cons_zero, List.set_cons_succ]
    refine wa_tk 14 (some 16) (.int .i64 c) rfl (by kernel_rfl) rfl rfl HT.out (fun w h0 => by go_simp) ?_
    try simp only [Act.put, List.setIfInBounds_toArray, List.set_cons_zero, List.set_cons_succ]
    refine wa_tk 15 (some 17) (.int .i64 0) rfl (by kernel_rfl) rfl rfl HT.out (fun w h0 => by go_simp) ?_
    try simp only [Act.put, List.setIfInBounds_toArray, List.set_cons_zero, List.set_cons_succ]
    refine wa_done (by decide +kernel) ?_
    have B8 := hid (Dg.below_tr B7.out HT.out); have C8 := hid (CR.out.ups HT.out); have D8 := hid (DR.out.ups HT.out)
    clear HT B7 CR DR
    have r2 : ws.cell? ⟨g2, 0, none⟩ = some (.int .i64 (R2 : Int)) := D8.out.at0 (j := 0) rfl
    go_wp2_with fail
    clear r2
    refine (invr R2 I HG2.out.elR HIN _).mono ?_
    unfold pz
    rintro e w9 ⟨rfl, h9⟩
    have B9 := hid (Dg.below_tr B8.out h9); have C9 := hid (C8.out.ups h9)
    clear h9 C8 D8
    have r1 : w9.cell? ⟨g, 0, none⟩ = some (.int .i64 (R1 : Int)) := C9.out.at0 (j := 0) rfl
    go_wp2_with fail
    clear r1 C9
    refine (mulr R1 I r HG1.out.elR hIe HR _).mono ?_
    unfold pz
    rintro e w10 ⟨rfl, h10⟩
    have B10 := hid (Dg.below_tr B9.out h10)
    clear h10
    go_wp2_with fail
    refine (expr P c pc HG1.out.elP hcs HPC _).mono ?_
    unfold pz
    rintro e w11 ⟨rfl, h11⟩
    have B11 := hid (Dg.below_tr B10.out h11)
    clear h11
    go_wp2_with fail
    refine (baser d rg hds heq _).mono ?_
    unfold pz
    rintro e w12 ⟨rfl, h12⟩
    have B12 := hid (Dg.below_tr B11.out h12)
    clear h12
    go_wp2_with fail
    refine (mulr r pc rg hre hpe HRG _).mono ?_
    unfold pz
    rintro e w13 ⟨rfl, h13⟩
    have B13 := hid (Dg.below_tr B12.out h13)
    clear h13
    have qq : ((rg : Int) == (rg : Int)) = true := by simp
    go_wp2
    go_ret
    exact ⟨rfl, B13.out⟩
set_option maxRecDepth 100000 in
set_option maxHeartbeats 4000000 in
theorem diff_any (x : Int) (v1 v2 : Value) (a b : List UInt8) (w : World) (hv1 : BS w v1 a) (hv2 : BS w v2 b) (hk : Konst w) :
    Calls Tryd.prog 9 #[.int .i64 x, v1, v2] w fun e w' => e = .returned (.bool true) ∧ Below w.heap.size w w' := by
  obtain ⟨k, P, R1, S1, HKN, HG1⟩ := sg_of x a
  obtain ⟨R2, S2, HG2⟩ : ∃ R2 S2, Hid (Sg k P R2 S2 b) := ⟨_, _, hid ⟨HG1.out.pk, HG1.out.eP, rfl, rfl⟩⟩
  obtain ⟨p1, c1, rfl⟩ := hv1.form
  obtain ⟨p2, c2, rfl⟩ := hv2.form
  have HV1 := hid hv1; have HV2 := hid hv2; have HK := hid hk
  obtain ⟨la, hla⟩ : ∃ ln, ln = a.length := ⟨_, rfl⟩
  obtain ⟨lb, hlb⟩ : ∃ ln, ln = b.length := ⟨_, rfl⟩
  rw [← hla] at HV1 ⊢
  rw [← hlb] at HV2 ⊢
  have HLA := hid hla; have HLB := hid hlb
  clear hv1 hv2 hk hla hlb
  by_cases hle : la ≤ 1000
  · by_cases hle2 : lb ≤ 1000
    · have hn1 : Hid (a.length ≤ 90000000) := hid (by have := HLA.out; omega)
      have hn2 : Hid (b.length ≤ 90000000) := hid (by have := HLB.out; omega)
      have hd1 : decide ((1000 : Int) < (la : Int)) = false := by simp; omega
      have hd2 : decide ((1000 : Int) < (lb : Int)) = false := by simp; omega
      obtain ⟨h, hh⟩ : ∃ h, h = chal P R1 a := ⟨_, rfl⟩
      obtain ⟨i, hi⟩ : ∃ h, h = chal P R2 b := ⟨_, rfl⟩
      have hhs : Hid (Sc h) := hid (by rw [hh]; exact chal_lt _ _ _)
      have his : Hid (Sc i) := hid (by rw [hi]; exact chal_lt _ _ _)
      obtain ⟨q1, hq1⟩ : ∃ q, 2305843009213688668 * S2 % 2305843009213688669 = q := ⟨_, rfl⟩
      obtain ⟨d, hd⟩ : ∃ d, (S1 + q1) % 2305843009213688669 = d := ⟨_, rfl⟩
      obtain ⟨q2, hq2⟩ : ∃ q, 2305843009213688668 * i % 2305843009213688669 = q := ⟨_, rfl⟩
      obtain ⟨c, hc⟩ : ∃ c, (h + q2) % 2305843009213688669 = c := ⟨_, rfl⟩
      have hds : Hid (Sc d) := hid (by rw [← hd]; exact Nat.mod_lt _ (by decide))
      have hcs : Hid (Sc c) := hid (by rw [← hc]; exact Nat.mod_lt _ (by decide))
      obtain ⟨I, hI⟩ : ∃ I, mp 4611686018427377339 R2 2305843009213688668 = I := ⟨_, rfl⟩
      have hIe : Hid (El I) := hid (by rw [← hI]; exact el_inv HG2.out.elR.out)
      obtain ⟨r, hr⟩ : ∃ r, R1 * I % 4611686018427377339 = r := ⟨_, rfl⟩
      have hre : Hid (El r) := hid (by rw [← hr]; exact el_mul HG1.out.elR.out hIe.out)
      obtain ⟨pc, hp⟩ : ∃ pc, mp 4611686018427377339 P c = pc := ⟨_, rfl⟩
      have hpe : Hid (El pc) := hid (by rw [← hp]; exact el_pow' HG1.out.elP.out c hcs.out)
      obtain ⟨rg, hrg⟩ : ∃ rg, r * pc % 4611686018427377339 = rg := ⟨_, rfl⟩
      have heq : Hid (mp 4611686018427377339 4 d = rg) := hid (by rw [← hrg]; exact diff_eq HG1.out HG2.out h i q1 d q2 c I r pc hh hi hq1 hd hq2 hc hI hr hp)
      have HH := hid hh; have HI := hid hi; have HQ1 := hid hq1; have HD := hid hd; have HQ2 := hid hq2; have HC := hid hc; have HIN := hid hI; have HR := hid hr; have HPC := hid hp; have HRG := hid hrg
      clear hle hle2 hh hi hq1 hd hq2 hc hI hr hp hrg
      exact diff_run x k P R1 S1 R2 S2 h i q1 d q2 c I r pc rg a b p1 p2 la lb c1 c2 w HKN HG1 HG2 HV1 HV2 HK hn1 hn2 hd1 hd2 hhs his hds hcs hIe hre hpe heq HH HI HQ1 HD HQ2 HC HIN HR HPC HRG
    · have hd1 : decide ((1000 : Int) < (la : Int)) = false := by simp; omega
      have hd2 : decide ((1000 : Int) < (lb : Int)) = true := by simp; omega
      clear hle hle2
      go_enter Tryd.func9, Tryd.ntmps9
      go_wp2_with fail
      refine (ssane_any _ HK.out).mono ?_
      rintro e w1 ⟨rfl, h1⟩
      have B1 := hid h1
      clear h1
      go_wp2
      go_ret
      exact ⟨rfl, B1.out⟩
  · have hd1 : decide ((1000 : Int) < (la : Int)) = true := by simp; omega
    clear hle
    go_enter Tryd.func9, Tryd.ntmps9
    go_wp2_with fail
    refine (ssane_any _ HK.out).mono ?_
    rintro e w1 ⟨rfl, h1⟩
    have B1 := hid h1
    clear h1
    go_wp2
    go_ret
    exact ⟨rfl, B1.out⟩
end Go.Proofs.YtaoehkoffhnidaaDoor

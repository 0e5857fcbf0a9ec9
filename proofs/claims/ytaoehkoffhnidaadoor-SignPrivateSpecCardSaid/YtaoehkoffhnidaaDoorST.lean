/- The law SignPrivateSpec. -/
import Derived.Test.YtaoehkoffhnidaaDoorSO
import Derived.Test.YtaoehkoffhnidaaDoorSM
namespace Go.Proofs.YtaoehkoffhnidaaDoor
open Go.RowKit Go
open Dg (Konst BS IsD hid)
set_option linter.unusedVariables false
set_option maxRecDepth 20000
set_option linter.unusedSimpArgs false
set_option maxRecDepth 100000 in
set_option maxHeartbeats 4000000 in
theorem privspec_any (l : List UInt8) (us : List Value) (s : ByteArray) (n : Int) (w : World) (hd : IsD l us) (hk : Konst w) (hs : s.size ≤ 140737488355328) :
    Calls Tryd.prog 4 #[.agg us.toArray, .string s, .int .i64 n] w fun e w' => e = .returned (.bool true) ∧ Below w.heap.size w w' := by
  have HD := hid hd; have HK := hid hk
  have hl1 := Dg.info26 hd.len'
  obtain ⟨sz, hsz⟩ : ∃ sz, sz = s.size := ⟨_, rfl⟩
  have HSZ := hid hsz
  by_cases hle : sz ≤ 1000
  · have hle' : Hid (s.size ≤ 1000000) := hid (by omega)
    have hd1 : decide ((1000 : Int) < (s.size : Int)) = false := by simp; omega
    obtain ⟨x, hx⟩ : ∃ x, x = privN l s n := ⟨_, rfl⟩
    have hpk : Hid (PrK x) := hid (by rw [hx]; exact ⟨sclOf_pos _ _, sclOf_lt _ _⟩)
    have HX := hid hx
    clear hd hk hle hx hs hsz HSZ
    go_enter Tryd.func4, Tryd.ntmps4
    go_upto_region 1 with fail
    refine Dg.code_alloc (zs := us) ?_
    intro W0 hc hf hb hs
    obtain ⟨g, hg⟩ : ∃ g, g = w.heap.size := ⟨_, rfl⟩
    rw [← hg] at hc ⊢
    have B0 := hid hb; have C0 := hid hc
    clear hc hf hb hs hg
    go_wp2_with fail
    refine (ssane_any _ (HK.out.ups B0.out)).mono ?_
    rintro e w1 ⟨rfl, h1⟩
    have B1 := hid (Dg.below_tr B0.out h1); have C1 := hid (C0.out.ups h1)
    clear h1 C0
    go_wp2_with (refine wpList_load_mid rfl 35 (.tmp 3) rfl g 0 rfl us _ C1.out.range Tryd.underlying35 rfl hl1 ?_)
    refine (Private_any l us s n _ HD.out (HK.out.ups B1.out) hle'.out).mono ?_
    rintro e w2 ⟨rfl, h2⟩
    rw [← HX.out]
    have B2 := hid (Dg.below_tr B1.out h2); have C2 := hid (C1.out.ups h2)
    clear h2 C1
    go_wp2_with fail
    refine (Public_ok x _ hpk (hid rfl) _).mono ?_
    unfold pz
    rintro e w3 ⟨rfl, h3⟩
    have B3 := hid (Dg.below_tr B2.out h3); have C3 := hid (C2.out.ups h3)
    clear h3 C2
    go_wp2_with (refine wpList_load_mid rfl 35 (.tmp 3) rfl g 0 rfl us _ C3.out.range Tryd.underlying35 rfl hl1 ?_)
    refine (rPrivate_any l us s n _ HD.out hle'.out).mono ?_
    rintro e w4 ⟨rfl, h4⟩
    rw [← HX.out]
    have B4 := hid (Dg.below_tr B3.out h4)
    clear h4 C3
    have qq : ((x : Int) == (x : Int)) = true := by simp
    go_wp2
    go_ret
    exact ⟨rfl, B4.out⟩
  · have hd1 : decide ((1000 : Int) < (s.size : Int)) = true := by simp; omega
    clear hd hle hs hsz
    go_enter Tryd.func4, Tryd.ntmps4
    go_upto_region 1 with fail
    refine Dg.code_alloc (zs := us) ?_
    intro W0 hc hf hb hs
    have B0 := hid hb
    clear hc hf hb hs
    go_wp2_with fail
    refine (ssane_any _ (HK.out.ups B0.out)).mono ?_
    rintro e w1 ⟨rfl, h1⟩
    have B1 := hid (Dg.below_tr B0.out h1)
    clear h1
    go_wp2
    go_ret
    exact ⟨rfl, B1.out⟩
end Go.Proofs.YtaoehkoffhnidaaDoor

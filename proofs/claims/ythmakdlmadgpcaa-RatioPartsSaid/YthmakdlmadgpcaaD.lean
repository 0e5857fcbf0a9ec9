/- Contracts: combine, Add, Mul, Compare. -/
import Derived.Test.YthmakdlmadgpcaaC
namespace Go.Proofs.Ythmakdlmadgpcaa
open Go.RowKit Go
set_option linter.unusedVariables false
set_option linter.unusedSimpArgs false
/-- what combine answers: the first error of Check, else x -/
def both (an ad bn bd : Int) (x : Int × Int × Int) : Int × Int × Int := if chk an ad = 0 then (if chk bn bd = 0 then x else (0, 0, 50)) else (0, 0, 50)
theorem chk_ne {p q : Int} (h : chk p q ≠ 0) : chk p q = 50 := by rcases chk_cases p q with e | e <;> omega
theorem ix0 (a b c d : Value) (w : World) : (Instr.index 59 (.agg #[a, b, c, d]) (.int .i64 0)).run Try.prog w = .ok (.agg #[a, b]) w := by
  have h59 : Try.prog.underlying 59 = some (.array 2 23) := by kernel_rfl
  have h23 := Try.underlying23
  have hs : (Try.prog.info? 23).map (·.size) = some 2 := by kernel_rfl
  cases hq : Try.prog.info? 23 with
  | none => simp [hq] at hs
  | some ti =>
    have hs1 : ti.size = 2 := by simpa [hq] using hs
    have hagg : ∀ w : World, (isAgg 23).run Try.prog w = .ok true w := by
      intro w
      unfold isAgg
      rw [Sem.run_bind, run_underlying h23 w]
      simp
    simp [Instr.index, asIntOf, run_underlying h59, sizeOf, typeInfo, hq, hs1, part, Sem.run_bind, hagg]
theorem ix1 (a b c d : Value) (w : World) : (Instr.index 59 (.agg #[a, b, c, d]) (.int .i64 1)).run Try.prog w = .ok (.agg #[c, d]) w := by
  have h59 : Try.prog.underlying 59 = some (.array 2 23) := by kernel_rfl
  have h23 := Try.underlying23
  have hs : (Try.prog.info? 23).map (·.size) = some 2 := by kernel_rfl
  cases hq : Try.prog.info? 23 with
  | none => simp [hq] at hs
  | some ti =>
    have hs1 : ti.size = 2 := by simpa [hq] using hs
    have hagg : ∀ w : World, (isAgg 23).run Try.prog w = .ok true w := by
      intro w
      unfold isAgg
      rw [Sem.run_bind, run_underlying h23 w]
      simp
    simp [Instr.index, asIntOf, run_underlying h59, sizeOf, typeInfo, hq, hs1, part, Sem.run_bind, hagg]
set_option maxRecDepth 100000 in
set_option maxHeartbeats 1000000 in
theorem comb30 (an ad bn bd : Int) (A B : Nat) (i1 : I64 an) (i2 : I64 ad) (i3 : I64 bn) (i4 : I64 bd) (w : World) (hA : FR w A an ad) (hB : FR w B bn bd) :
    Calls Try.prog 29 #[RV an ad, RV bn bd, .func (.func 30) #[] #[.pointer (some ⟨A, 0, none⟩), .pointer (some ⟨B, 0, none⟩)]] w fun e w' => e = .returned (RR (both an ad bn bd (sm an ad bn bd))) ∧ Below w.heap.size w w' := by
  have I1 := hid i1; have I2 := hid i2; have I3 := hid i3; have I4 := hid i4; clear i1 i2 i3 i4
  have HA := hid hA; have HB := hid hB; clear hA hB
  obtain ⟨W, hW⟩ : ∃ W, W = ((w.alloc (.cells #[.int .i64 an, .int .i64 ad] 23)).alloc (.cells #[.int .i64 bn, .int .i64 bd] 23)).alloc (.cells #[.int .i64 0, .int .i64 0] 23) := ⟨_, rfl⟩
  have hB0 : Below w.heap.size w W := by rw [hW]; exact (((Below.refl _ w).alloc (Nat.le_refl _) _).alloc (by simp) _).alloc (by simp; omega) _
  have r3 : FR W (w.heap.size + 1 + 1) 0 0 := by
    have h := fr_new ((w.alloc (.cells #[.int .i64 an, .int .i64 ad] 23)).alloc (.cells #[.int .i64 bn, .int .i64 bd] 23)) 0 0
    rw [← hW] at h
    simpa using h
  have HB0 := hid hB0; have R3 := hid r3
  clear hB0 r3
  go_enter Try.func29, Try.ntmps29
  go_wp2_with fail
  rw [← hW]
  clear hW
  obtain ⟨g, hg⟩ : ∃ g, g = w.heap.size + 1 + 1 := ⟨_, rfl⟩
  have hgw : w.heap.size ≤ g := by omega
  rw [← hg] at R3 ⊢
  have HGW := hid hgw
  clear hg hgw
  go_loopw [14] (fun i wr => ∃ k : Nat, k ≤ 2 ∧ i = .int .i64 (k : Int) ∧ (1 ≤ k → chk an ad = 0) ∧ (2 ≤ k → chk bn bd = 0) ∧ Hid (FR wr g 0 0) ∧ Hid (Below w.heap.size w wr)) (fun i _ => 2 - (RowKit.intOf i).toNat)
  case atStart => exact ⟨0, by omega, rfl, by omega, by omega, R3, HB0⟩
  case round =>
    obtain ⟨k, hk, rfl, g1, g2, HR, HBR⟩ := hrel
    have hgl := HR.out.lt
    rcases (by omega : k = 0 ∨ k = 1 ∨ k = 2) with rfl | rfl | rfl
    · clear g1 g2
      have hix := ix0 (.int .i64 an) (.int .i64 ad) (.int .i64 bn) (.int .i64 bd)
      go_wp2_with fail
      refine (Check_any an ad I1.out I2.out _).mono ?_
      rintro e w1 ⟨rfl, hb1⟩
      have hb2 : Below wr.heap.size wr w1 := below_t ((Below.refl _ wr).alloc (Nat.le_refl _) _) hb1
      have HB1 := hid (below_t HBR.out hb2)
      have hr1 := HR.out.ups hb2
      have HR1 := hid hr1
      obtain ⟨c0, c1, z0, z1⟩ := hr1
      clear hb1 hb2 hix
      by_cases hc : chk an ad = 0
      · have HC := hid hc
        rw [hc]
        clear hc c0 c1 z0 z1
        go_wp2
        go_roundw
        case rel => exact ⟨1, by omega, rfl, fun _ => HC.out, by omega, HR1, HB1⟩
        case measure => simp [RowKit.intOf]
      · have hv : both an ad bn bd (sm an ad bn bd) = (0, 0, 50) := by unfold both; rw [if_neg hc]
        have HV := hid hv
        rw [chk_ne hc]
        clear hc hv
        go_wp2
        exact fin3 rfl HV.out HB1.out HGW.out HR1.out.c0 HR1.out.c1
    · have ha := g1 (by omega)
      have HCA := hid ha
      clear g1 g2 ha
      have hix := ix1 (.int .i64 an) (.int .i64 ad) (.int .i64 bn) (.int .i64 bd)
      go_wp2_with fail
      refine (Check_any bn bd I3.out I4.out _).mono ?_
      rintro e w1 ⟨rfl, hb1⟩
      have hb2 : Below wr.heap.size wr w1 := below_t ((Below.refl _ wr).alloc (Nat.le_refl _) _) hb1
      have HB1 := hid (below_t HBR.out hb2)
      have hr1 := HR.out.ups hb2
      have HR1 := hid hr1
      obtain ⟨c0, c1, z0, z1⟩ := hr1
      clear hb1 hb2 hix
      by_cases hc : chk bn bd = 0
      · have HC := hid hc
        rw [hc]
        clear hc c0 c1 z0 z1
        go_wp2
        go_roundw
        case rel => exact ⟨2, by omega, rfl, fun _ => HCA.out, fun _ => HC.out, HR1, HB1⟩
        case measure => simp [RowKit.intOf]
      · have hv : both an ad bn bd (sm an ad bn bd) = (0, 0, 50) := by unfold both; rw [if_pos HCA.out, if_neg hc]
        have HV := hid hv
        rw [chk_ne hc]
        clear hc hv
        go_wp2
        exact fin3 rfl HV.out HB1.out HGW.out HR1.out.c0 HR1.out.c1
    · have ha := g1 (by omega)
      have hb := g2 (by omega)
      have hv : both an ad bn bd (sm an ad bn bd) = sm an ad bn bd := by unfold both; rw [if_pos ha, if_pos hb]
      have HV := hid hv
      have HVA := hid (chk_ok.1 ha); have HVB := hid (chk_ok.1 hb)
      clear g1 g2 ha hb hv
      go_wp2_with fail
      refine (AddF_any an ad bn bd A B HVA.out HVB.out _ (HA.out.ups HBR.out) (HB.out.ups HBR.out)).mono ?_
      rintro e w1 ⟨rfl, hb1⟩
      have HB1 := hid (below_t HBR.out hb1)
      have hr1 := HR.out.ups hb1
      have HR1 := hid hr1
      obtain ⟨c0, c1, z0, z1⟩ := hr1
      obtain ⟨⟨p, q, e⟩, hx⟩ : ∃ x, x = sm an ad bn bd := ⟨_, rfl⟩
      have hv2 : both an ad bn bd (sm an ad bn bd) = (p, q, e) := by rw [HV.out, hx]
      have HV2 := hid hv2
      rw [← hx]
      clear hx hb1 hv2
      go_wp2
      exact fin3 rfl HV2.out HB1.out HGW.out HR1.out.c0 HR1.out.c1
set_option maxRecDepth 100000 in
set_option maxHeartbeats 1000000 in
theorem comb32 (an ad bn bd : Int) (A B : Nat) (i1 : I64 an) (i2 : I64 ad) (i3 : I64 bn) (i4 : I64 bd) (w : World) (hA : FR w A an ad) (hB : FR w B bn bd) :
    Calls Try.prog 29 #[RV an ad, RV bn bd, .func (.func 32) #[] #[.pointer (some ⟨A, 0, none⟩), .pointer (some ⟨B, 0, none⟩)]] w fun e w' => e = .returned (RR (both an ad bn bd (pr an ad bn bd))) ∧ Below w.heap.size w w' := by
  have I1 := hid i1; have I2 := hid i2; have I3 := hid i3; have I4 := hid i4; clear i1 i2 i3 i4
  have HA := hid hA; have HB := hid hB; clear hA hB
  obtain ⟨W, hW⟩ : ∃ W, W = ((w.alloc (.cells #[.int .i64 an, .int .i64 ad] 23)).alloc (.cells #[.int .i64 bn, .int .i64 bd] 23)).alloc (.cells #[.int .i64 0, .int .i64 0] 23) := ⟨_, rfl⟩
  have hB0 : Below w.heap.size w W := by rw [hW]; exact (((Below.refl _ w).alloc (Nat.le_refl _) _).alloc (by simp) _).alloc (by simp; omega) _
  have r3 : FR W (w.heap.size + 1 + 1) 0 0 := by
    have h := fr_new ((w.alloc (.cells #[.int .i64 an, .int .i64 ad] 23)).alloc (.cells #[.int .i64 bn, .int .i64 bd] 23)) 0 0
    rw [← hW] at h
    simpa using h
  have HB0 := hid hB0; have R3 := hid r3
  clear hB0 r3
  go_enter Try.func29, Try.ntmps29
  go_wp2_with fail
  rw [← hW]
  clear hW
  obtain ⟨g, hg⟩ : ∃ g, g = w.heap.size + 1 + 1 := ⟨_, rfl⟩
  have hgw : w.heap.size ≤ g := by omega
  rw [← hg] at R3 ⊢
  have HGW := hid hgw
  clear hg hgw
  go_loopw [14] (fun i wr => ∃ k : Nat, k ≤ 2 ∧ i = .int .i64 (k : Int) ∧ (1 ≤ k → chk an ad = 0) ∧ (2 ≤ k → chk bn bd = 0) ∧ Hid (FR wr g 0 0) ∧ Hid (Below w.heap.size w wr)) (fun i _ => 2 - (RowKit.intOf i).toNat)
  case atStart => exact ⟨0, by omega, rfl, by omega, by omega, R3, HB0⟩
  case round =>
    obtain ⟨k, hk, rfl, g1, g2, HR, HBR⟩ := hrel
    have hgl := HR.out.lt
    rcases (by omega : k = 0 ∨ k = 1 ∨ k = 2) with rfl | rfl | rfl
    · clear g1 g2
      have hix := ix0 (.int .i64 an) (.int .i64 ad) (.int .i64 bn) (.int .i64 bd)
      go_wp2_with fail
      refine (Check_any an ad I1.out I2.out _).mono ?_
      rintro e w1 ⟨rfl, hb1⟩
      have hb2 : Below wr.heap.size wr w1 := below_t ((Below.refl _ wr).alloc (Nat.le_refl _) _) hb1
      have HB1 := hid (below_t HBR.out hb2)
      have hr1 := HR.out.ups hb2
      have HR1 := hid hr1
      obtain ⟨c0, c1, z0, z1⟩ := hr1
      clear hb1 hb2 hix
      by_cases hc : chk an ad = 0
      · have HC := hid hc
        rw [hc]
        clear hc c0 c1 z0 z1
        go_wp2
        go_roundw
        case rel => exact ⟨1, by omega, rfl, fun _ => HC.out, by omega, HR1, HB1⟩
        case measure => simp [RowKit.intOf]
      · have hv : both an ad bn bd (pr an ad bn bd) = (0, 0, 50) := by unfold both; rw [if_neg hc]
        have HV := hid hv
        rw [chk_ne hc]
        clear hc hv
        go_wp2
        exact fin3 rfl HV.out HB1.out HGW.out HR1.out.c0 HR1.out.c1
    · have ha := g1 (by omega)
      have HCA := hid ha
      clear g1 g2 ha
      have hix := ix1 (.int .i64 an) (.int .i64 ad) (.int .i64 bn) (.int .i64 bd)
      go_wp2_with fail
      refine (Check_any bn bd I3.out I4.out _).mono ?_
      rintro e w1 ⟨rfl, hb1⟩
      have hb2 : Below wr.heap.size wr w1 := below_t ((Below.refl _ wr).alloc (Nat.le_refl _) _) hb1
      have HB1 := hid (below_t HBR.out hb2)
      have hr1 := HR.out.ups hb2
      have HR1 := hid hr1
      obtain ⟨c0, c1, z0, z1⟩ := hr1
      clear hb1 hb2 hix
      by_cases hc : chk bn bd = 0
      · have HC := hid hc
        rw [hc]
        clear hc c0 c1 z0 z1
        go_wp2
        go_roundw
        case rel => exact ⟨2, by omega, rfl, fun _ => HCA.out, fun _ => HC.out, HR1, HB1⟩
        case measure => simp [RowKit.intOf]
      · have hv : both an ad bn bd (pr an ad bn bd) = (0, 0, 50) := by unfold both; rw [if_pos HCA.out, if_neg hc]
        have HV := hid hv
        rw [chk_ne hc]
        clear hc hv
        go_wp2
        exact fin3 rfl HV.out HB1.out HGW.out HR1.out.c0 HR1.out.c1
    · have ha := g1 (by omega)
      have hb := g2 (by omega)
      have hv : both an ad bn bd (pr an ad bn bd) = pr an ad bn bd := by unfold both; rw [if_pos ha, if_pos hb]
      have HV := hid hv
      have HVA := hid (chk_ok.1 ha); have HVB := hid (chk_ok.1 hb)
      clear g1 g2 ha hb hv
      go_wp2_with fail
      refine (MulF_any an ad bn bd A B HVA.out HVB.out _ (HA.out.ups HBR.out) (HB.out.ups HBR.out)).mono ?_
      rintro e w1 ⟨rfl, hb1⟩
      have HB1 := hid (below_t HBR.out hb1)
      have hr1 := HR.out.ups hb1
      have HR1 := hid hr1
      obtain ⟨c0, c1, z0, z1⟩ := hr1
      obtain ⟨⟨p, q, e⟩, hx⟩ : ∃ x, x = pr an ad bn bd := ⟨_, rfl⟩
      have hv2 : both an ad bn bd (pr an ad bn bd) = (p, q, e) := by rw [HV.out, hx]
      have HV2 := hid hv2
      rw [← hx]
      clear hx hb1 hv2
      go_wp2
      exact fin3 rfl HV2.out HB1.out HGW.out HR1.out.c0 HR1.out.c1
/-- what Compare answers -/
def bothc (an ad bn bd : Int) : Int × Int := if chk an ad = 0 then (if chk bn bd = 0 then (cmpr (an * bd) (bn * ad), 0) else (0, 50)) else (0, 50)
set_option maxRecDepth 100000 in
set_option maxHeartbeats 1000000 in
theorem comb34 (an ad bn bd : Int) (A B : Nat) (i1 : I64 an) (i2 : I64 ad) (i3 : I64 bn) (i4 : I64 bd) (w : World) (hA : FR w A an ad) (hB : FR w B bn bd) :
    Calls Try.prog 33 #[RV an ad, RV bn bd, .func (.func 34) #[] #[.pointer (some ⟨A, 0, none⟩), .pointer (some ⟨B, 0, none⟩)]] w fun e w' => e = .returned (.tuple #[.int .i64 (bothc an ad bn bd).1, .int .i64 (bothc an ad bn bd).2]) ∧ Below w.heap.size w w' := by
  have I1 := hid i1; have I2 := hid i2; have I3 := hid i3; have I4 := hid i4; clear i1 i2 i3 i4
  have HA := hid hA; have HB := hid hB; clear hA hB
  obtain ⟨W, hW⟩ : ∃ W, W = ((w.alloc (.cells #[.int .i64 an, .int .i64 ad] 23)).alloc (.cells #[.int .i64 bn, .int .i64 bd] 23)) := ⟨_, rfl⟩
  have hB0 : Below w.heap.size w W := by rw [hW]; exact (((Below.refl _ w).alloc (Nat.le_refl _) _).alloc (by simp) _)
  have HB0 := hid hB0
  clear hB0
  go_enter Try.func33, Try.ntmps33
  go_wp2_with fail
  rw [← hW]
  clear hW
  go_loopw [6, 14] (fun c i wr => c = .int .i64 0 ∧ ∃ k : Nat, k ≤ 2 ∧ i = .int .i64 (k : Int) ∧ (1 ≤ k → chk an ad = 0) ∧ (2 ≤ k → chk bn bd = 0) ∧ Hid (Below w.heap.size w wr)) (fun _ i _ => 2 - (RowKit.intOf i).toNat)
  case atStart => exact ⟨rfl, 0, by omega, rfl, by omega, by omega, HB0⟩
  case round =>
    obtain ⟨rfl, k, hk, rfl, g1, g2, HBR⟩ := hrel
    rcases (by omega : k = 0 ∨ k = 1 ∨ k = 2) with rfl | rfl | rfl
    · clear g1 g2
      have hix := ix0 (.int .i64 an) (.int .i64 ad) (.int .i64 bn) (.int .i64 bd)
      go_wp2_with fail
      refine (Check_any an ad I1.out I2.out _).mono ?_
      rintro e w1 ⟨rfl, hb1⟩
      have hb2 : Below wr.heap.size wr w1 := below_t ((Below.refl _ wr).alloc (Nat.le_refl _) _) hb1
      have HB1 := hid (below_t HBR.out hb2)
      clear hb1 hb2 hix
      by_cases hc : chk an ad = 0
      · have HC := hid hc
        rw [hc]
        clear hc
        go_wp2
        go_roundw
        case rel => exact ⟨rfl, 1, by omega, rfl, fun _ => HC.out, by omega, HB1⟩
        case measure => simp [RowKit.intOf]
      · have hv : bothc an ad bn bd = (0, 50) := by unfold bothc; rw [if_neg hc]
        have HV := hid hv
        rw [chk_ne hc]
        clear hc hv
        go_wp2
        go_ret2
        rw [HV.out]
        exact ⟨rfl, HB1.out⟩
    · have ha := g1 (by omega)
      have HCA := hid ha
      clear g1 g2 ha
      have hix := ix1 (.int .i64 an) (.int .i64 ad) (.int .i64 bn) (.int .i64 bd)
      go_wp2_with fail
      refine (Check_any bn bd I3.out I4.out _).mono ?_
      rintro e w1 ⟨rfl, hb1⟩
      have hb2 : Below wr.heap.size wr w1 := below_t ((Below.refl _ wr).alloc (Nat.le_refl _) _) hb1
      have HB1 := hid (below_t HBR.out hb2)
      clear hb1 hb2 hix
      by_cases hc : chk bn bd = 0
      · have HC := hid hc
        rw [hc]
        clear hc
        go_wp2
        go_roundw
        case rel => exact ⟨rfl, 2, by omega, rfl, fun _ => HCA.out, fun _ => HC.out, HB1⟩
        case measure => simp [RowKit.intOf]
      · have hv : bothc an ad bn bd = (0, 50) := by unfold bothc; rw [if_pos HCA.out, if_neg hc]
        have HV := hid hv
        rw [chk_ne hc]
        clear hc hv
        go_wp2
        go_ret2
        rw [HV.out]
        exact ⟨rfl, HB1.out⟩
    · have ha := g1 (by omega)
      have hb := g2 (by omega)
      have hv : bothc an ad bn bd = (cmpr (an * bd) (bn * ad), 0) := by unfold bothc; rw [if_pos ha, if_pos hb]
      have HV := hid hv
      have HVA := hid (chk_ok.1 ha); have HVB := hid (chk_ok.1 hb)
      clear g1 g2 ha hb hv
      go_wp2_with fail
      refine (CompareF_any an ad bn bd A B HVA.out HVB.out _ (HA.out.ups HBR.out) (HB.out.ups HBR.out)).mono ?_
      rintro e w1 ⟨rfl, hb1⟩
      have HB1 := hid (below_t HBR.out hb1)
      clear hb1
      go_wp2
      go_ret2
      rw [HV.out]
      exact ⟨rfl, HB1.out⟩
end Go.Proofs.Ythmakdlmadgpcaa

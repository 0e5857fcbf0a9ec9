/- Contract: slices.Repeat of -1. -/
import Derived.Test.YtbejjindkcjecaaJ
import Derived.Laws.CopyOwn
import Derived.Laws.OwnMore
namespace Go.Proofs.Ytbejjindkcjecaa
open Go.RowKit Go
set_option linter.unusedVariables false
set_option linter.unusedSimpArgs false
theorem info3 : (Try.prog.info? 3).map (fun i => (i.zero, i.size, i.bytes)) = some (some (.int .i64 0), 1, 8) := by kernel_rfl
theorem size69 : ∀ w : World, (sizeOf (Try.prog.elem 69)).run Try.prog w = .ok 1 w := by
  have h : (Try.prog.info? 3).map (·.size) = some 1 := by kernel_rfl
  intro w
  cases hq : Try.prog.info? 3 with
  | none => simp [hq] at h
  | some ti =>
    have hs1 : ti.size = 1 := by simpa [hq] using h
    have he : Try.prog.elem 69 = 3 := by kernel_rfl
    rw [he]
    simp [sizeOf, typeInfo, hq, hs1]
theorem und69 : Try.prog.underlying 69 = some (.slice (Try.prog.elem 69)) := by kernel_rfl
theorem slice_l69 (b n c : Nat) (hn : n < c) (hm : c ≤ 9223372036854775807) : ∀ W : World, (Instr.slice 69 (.slice (some ⟨b, 0, none⟩) c c) (some (.int .i64 (n : Int))) none none).run Try.prog W = .ok (.slice (some ⟨b, n, none⟩) (c - n) (c - n)) W := by
  intro W
  rw [run_slice_l W 69 (some ⟨b, 0, none⟩) c c und69 .i64 (n : Int) (by omega) (by omega)]
  have e : ¬ (c = n) := by omega
  simp [size69, Result.andThen, sliced, e, add_plain]
theorem slice_h69 (b n c : Nat) (hn : n < c) (h0 : 0 < n) (hm : c ≤ 9223372036854775807) : ∀ W : World, (Instr.slice 69 (.slice (some ⟨b, 0, none⟩) c c) none (some (.int .i64 (n : Int))) none).run Try.prog W = .ok (.slice (some ⟨b, 0, none⟩) n c) W := by
  intro W
  rw [run_slice_h W 69 (some ⟨b, 0, none⟩) c c und69 .i64 (n : Int) (by omega) (by omega)]
  have e : ¬ (c = 0) := by omega
  simp [size69, Result.andThen, sliced, e, add_plain]
  try rfl
/-- n cells of -1, then zeros -/
def fill (c n : Nat) : List Value := List.replicate n (.int .i64 (-1)) ++ List.replicate (c - n) (.int .i64 0)
theorem fill_length (c n : Nat) (h : n ≤ c) : (fill c n).length = c := by simp [fill]; omega
theorem splice_fill (c n m : Nat) (h : n + m ≤ c) : splice (fill c n) n (List.replicate m (.int .i64 (-1))) = fill c (n + m) := by
  unfold splice fill
  rw [List.take_left' (by simp), List.length_replicate, List.drop_append, List.length_replicate, List.drop_of_length_le (by simp), List.nil_append, List.drop_replicate, ← List.append_assoc, List.replicate_append_replicate]
  congr 2
  omega
theorem st_copy {o : Oper} {a : Act} {w : World} {K : Act → World → Prop} {Q : Exit → Act → World → Prop} (dt : Option Tmp) (hd : o.dst = dt) (s x : Operand) (t u : TypeId) (hop : o.op = Op.call { callee := Callee.builtin Builtin.copy, args := #[s, x], argTypes := #[t, u] }) (ht : o.type = 3) (vs vx v : Value) (w' : World) (hs : a.eval s = vs) (hx : a.eval x = vx)
    (hrun : (Builtin.copy_ #[t, u] 3 #[vs, vx]).run Try.prog w = .ok v w') (h : K (a.put dt v) w') : Oper.wp Try.prog o a w K Q := by
  subst hd
  unfold Oper.wp
  simp [execOp, hop, resolve, invoke, builtin, hs, hx, hrun, ht, Result.andThen]
  exact h
theorem hsz3 : (Try.prog.info? 3).map (·.size) = some 1 := by kernel_rfl
/-- cells are copied behind those that are filled -/
theorem copy_fill (g c n : Nat) (a : Addr) (sl sc m : Nat) (w W : World) (hB : w.heap.size ≤ g) (hm : m = Nat.min sl (c - n)) (hc : Blk W g 3 (fill c n)) (hb : Below w.heap.size w W) (hn : n < c) (ha : ∀ j, j < m → W.cell? (a.add j) = some (.int .i64 (-1))) :
    ∃ W', (Builtin.copy_ #[69, 69] 3 #[.slice (some ⟨g, n, none⟩) (c - n) (c - n), .slice (some a) sl sc]).run Try.prog W = .ok (.int .i64 (m : Int)) W' ∧ Blk W' g 3 (fill c (n + m)) ∧ Below w.heap.size w W' := by
  have hle : m ≤ c - n := by rw [hm]; exact Nat.min_le_right _ _
  have hr := run_copy_row (P := Try.prog) W 69 69 3 3 g n (c - n) (c - n) a sl sc (fill c n).toArray 3 (List.replicate m (.int .i64 (-1))) Try.underlying69 hsz3 hc (by simpa using hm) (fun j v hj => by
    rw [List.getElem?_replicate] at hj
    split at hj
    · rename_i hlt
      cases hj; exact ha j hlt
    · cases hj) (by have := fill_length c n (by omega); simp [this]; omega) (fun v hv => by rw [(List.mem_replicate.1 hv).2]; rfl)
  refine ⟨_, by rw [hr, List.length_replicate]; rfl, ?_, below_setRow hb hB _⟩
  have e := setRow_heap W g (fill c n).toArray ((fill c n).toArray.toList.take n ++ List.replicate m (Value.int IntKind.i64 (-1)) ++ (fill c n).toArray.toList.drop (n + (List.replicate m (Value.int IntKind.i64 (-1))).length)).toArray 3 _ hc
  have h2 := splice_fill c n m (by omega)
  unfold splice at h2
  unfold Blk
  rw [List.length_replicate] at *
  rw [e, ← h2]
  simp only [List.append_assoc]
theorem make_ints (w : World) (c : Nat) (hc : c ≤ 100000) : ∃ w', (Instr.makeSlice 69 (.int .i64 (c : Int)) (.int .i64 (c : Int))).run Try.prog w = .ok (.slice (some ⟨w.heap.size, 0, none⟩) c c) w' ∧ Blk w' w.heap.size 3 (fill c 0) ∧ Below w.heap.size w w' := by
  obtain ⟨i, hi, hf⟩ := Option.map_eq_some_iff.1 info3
  simp only [Prod.mk.injEq] at hf
  obtain ⟨hz, hs, hby⟩ := hf
  obtain ⟨w', h1, h2, h3⟩ := run_make_full (P := Try.prog) w w.heap.size 69 3 i (.int .i64 0) 1 Try.underlying69 hi hz hs .i64 .i64 c (by rw [hby]; omega) (by unfold maxLen; omega) (Nat.le_refl _)
  refine ⟨w', h1, ?_, (Below.refl _ w).grown h3 (Nat.le_refl _) (fun k hk => by cases hk)⟩
  rcases h2.2 with ⟨h', _⟩ | ⟨g', cap', cur, h', hb, hg, hn, hm, hcs, htake⟩
  · cases h'
  · simp only [Value.slice.injEq, Option.some.injEq, Addr.mk.injEq, and_true, true_and] at h'
    obtain ⟨rfl, rfl⟩ := h'
    unfold Blk
    rw [hg]
    have e : cur.toList = fill c 0 := by
      rw [List.take_of_length_le (by rw [Array.length_toList, hcs]; exact Nat.le_refl _)] at htake
      rw [htake, show (Value.int .i64 0).cells = #[.int .i64 0] from rfl, Nat.mul_one, toList_madeCells_one]
      simp [fill]
    rw [← e]
theorem wpList_copy_run1 {P : Program} {w w' : World} {ops : Array Oper} {rest : List Oper} {o : Oper} {a : Act} {Q : Exit → Act → World → Prop}
    (hg : o.guard = none) (s x : Operand) (t u : TypeId) (hop : o.op = Op.call { callee := Callee.builtin Builtin.copy, args := #[s, x], argTypes := #[t, u] })
    (vs vx r : Value) (hs : a.eval s = vs) (hx : a.eval x = vx) (hrun : (Builtin.copy_ #[t, u] o.type #[vs, vx]).run P w = .ok r w') (hK : wpList P ops Q rest (a.put o.dst r) w') :
    wpList P ops Q (o :: rest) a w := by
  refine wpList_plain hg fun K hK' => ?_
  unfold Oper.wp
  simp [execOp, hop, resolve, invoke, builtin, hs, hx, hrun, Result.andThen]
  exact hK' _ _ hK
set_option maxRecDepth 100000 in
set_option maxHeartbeats 4000000 in
theorem repeat_any (gp c : Nat) (w : World) (hc1 : 1 ≤ c) (hc2 : c ≤ 1024) (h1 : w.cell? ⟨gp, 0, none⟩ = some (.int .i64 (-1))) (hgp : gp < w.heap.size) :
    Calls Try.prog 53 #[.slice (some ⟨gp, 0, none⟩) 1 1, .int .i64 (c : Int)] w fun e w' => ∃ g, e = .returned (.slice (some ⟨g, 0, none⟩) c c) ∧ w.heap.size ≤ g ∧ Blk w' g 3 (fill c c) ∧ Below w.heap.size w w' := by
  have hmul := hid (fun W => show Calls Try.prog 60 #[.int .u64 1, .int .u64 (c : Int)] W (fun e w' => e = .returned (.tuple #[.int .u64 0, .int .u64 (c : Int)]) ∧ W = w') from by
    have h := Try.bits_Mul 1 c (by omega) (by omega) W
    rw [Nat.one_mul, Nat.div_eq_of_lt (by omega), Nat.mod_eq_of_lt (by omega)] at h
    exact h.mono (fun e w' hh => ⟨hh.1, hh.2.symm⟩))
  obtain ⟨W1, hmk, hb1, hbl1⟩ := make_ints w c (by omega)
  have hcop := copy_fill w.heap.size c 0 ⟨gp, 0, none⟩ 1 1 1 w W1 (Nat.le_refl _) (by rw [Nat.sub_zero]; exact (Nat.min_eq_left hc1).symm) hb1 hbl1 (by omega) (fun j hj => by
    obtain rfl : j = 0 := by omega
    exact (hbl1.cell (p := ⟨gp, 0, none⟩) hgp).trans h1)
  obtain ⟨W2, hcp, hb2, hbl2⟩ := hcop
  rw [Nat.sub_zero] at hcp
  have HCP := hid hcp; have HB2 := hid hb2; have HBL2 := hid hbl2
  have hd0 : decide ((c : Int) < 0) = false := decide_eq_false (by omega)
  have hd1 : decide (9223372036854775807 < (c : Int)) = false := decide_eq_false (by omega)
  have hcv : IntKind.i64.wrap (c : Int) = (c : Int) := IntWalk.i64_in _ (by omega)
  clear hb1 hbl1 hcp hb2 hbl2 h1 hgp
  go_enter Try.func53, Try.ntmps53
  go_wp2_with fail
  refine (hmul.out _).mono ?_
  rintro e w' ⟨rfl, rfl⟩
  go_wp2_with (refine wpList_copy_run1 rfl (.tmp 31) (.tmp 32) 69 69 rfl _ _ _ ?_ ?_ HCP.out ?_; exact rfl; exact rfl)
  obtain ⟨g, hg⟩ : ∃ g, g = w.heap.size := ⟨_, rfl⟩
  have hgle : w.heap.size ≤ g := by omega
  rw [← hg] at HB2 ⊢
  have HG := hid hgle
  clear hmk HCP hmul hd1 hcv hg hgle
  go_loopw [8] (fun s wr => ∃ n : Nat, 1 ≤ n ∧ n ≤ c ∧ s = .int .i64 n ∧ Hid (Blk wr g 3 (fill c n) ∧ Below w.heap.size w wr)) (fun s _ => c - (intOf s).toNat)
  case atStart => exact ⟨1, by omega, by omega, rfl, hid ⟨by simpa using HB2.out, HBL2.out⟩⟩
  case round =>
    obtain ⟨n, hn1, hn2, rfl, hT⟩ := hrel
    by_cases hlt : n < c
    · have HSL := hid (slice_l69 g n c hlt (by omega))
      have HSH := hid (slice_h69 g n c hlt hn1 (by omega))
      obtain ⟨m, hm⟩ : ∃ m, m = Nat.min n (c - n) := ⟨_, rfl⟩
      have hm1 : 1 ≤ m ∧ m ≤ c - n ∧ m ≤ n := by
        have a := Nat.min_le_left n (c - n); have b := Nat.min_le_right n (c - n)
        refine ⟨?_, by rw [hm]; exact b, by rw [hm]; exact a⟩
        rw [hm]; exact Nat.le_min.2 ⟨hn1, by omega⟩
      have HCP := hid (fun (W : World) (h1 : Blk W g 3 (fill c n)) (h2 : Below w.heap.size w W) => copy_fill g c n ⟨g, 0, none⟩ n c m w W HG.out hm h1 h2 hlt (fun j hj => by
        rw [add_plain, Nat.zero_add]
        refine h1.cell j _ ?_
        unfold fill
        rw [List.getElem?_append_left (by simp; omega), List.getElem?_replicate, if_pos (by omega)]))
      clear hm
      have HT := hid (show Below w.heap.size w wr.drew from hT.out.2.drew)
      have HBW := hid (show Blk wr.drew g 3 (fill c n) from hT.out.1)
      have HWR := hid (show IntKind.i64.wrap ((n : Int) + (m : Int)) = (n : Int) + (m : Int) from IntWalk.i64_in _ (by omega))
      go_upto_region 9 with fail
      refine wa_start (S := fun W => Below w.heap.size w W) (by kernel_rfl) HT.out ?_
      refine wa_tk 0 (some 38) (.int .i64 (n : Int)) rfl (by kernel_rfl) rfl rfl HT.out (fun w h0 => by go_simp) ?_
      try simp only [Act.put, List.setIfInBounds_toArray, List.set_cons_zero, List.set_cons_succ]
      refine wa_tk 1 (some 39) (.slice (some ⟨g, 0, none⟩) c c) rfl (by kernel_rfl) rfl rfl HT.out (fun w h0 => by go_simp) ?_
      try simp only [Act.put, List.setIfInBounds_toArray, List.set_cons_zero, List.set_cons_succ]
      refine wa_tk 2 (some 40) (.int .i64 (n : Int)) rfl (by kernel_rfl) rfl rfl HT.out (fun w h0 => by go_simp) ?_
      try simp only [Act.put, List.setIfInBounds_toArray, List.set_cons_zero, List.set_cons_succ]
      refine wa_tk 3 (some 41) (.slice (some ⟨g, n, none⟩) (c - n) (c - n)) rfl (by kernel_rfl) rfl rfl HT.out (fun w h0 => by have hsl := HSL.out; go_simp) ?_
      try simp only [Act.put, List.setIfInBounds_toArray, List.set_cons_zero, List.set_cons_succ]
      refine wa_tk 4 (some 42) (.slice (some ⟨g, 0, none⟩) c c) rfl (by kernel_rfl) rfl rfl HT.out (fun w h0 => by go_simp) ?_
      try simp only [Act.put, List.setIfInBounds_toArray, List.set_cons_zero, List.set_cons_succ]
      refine wa_tk 5 (some 43) (.int .i64 (n : Int)) rfl (by kernel_rfl) rfl rfl HT.out (fun w h0 => by go_simp) ?_
      try simp only [Act.put, List.setIfInBounds_toArray, List.set_cons_zero, List.set_cons_succ]
      refine wa_tk 6 (some 44) (.slice (some ⟨g, 0, none⟩) n c) rfl (by kernel_rfl) rfl rfl HT.out (fun w h0 => by have hsh := HSH.out; go_simp) ?_
      try simp only [Act.put, List.setIfInBounds_toArray, List.set_cons_zero, List.set_cons_succ]
      refine wa_branch [7] (by decide +kernel) rfl ?_
      refine ar_op 7 rfl rfl (fun K hK => ?_) ar_nil
      obtain ⟨W5, hrun, hb5, hbel5⟩ := HCP.out _ HBW.out HT.out
      refine st_copy (some 45) rfl (.tmp 41) (.tmp 44) 69 69 rfl rfl _ _ _ _ rfl rfl hrun ?_
      have HT := hid hbel5
      have HB5 := hid hb5
      clear hb5 hbel5 hrun
      refine hK.out _ _ HT.out ?_
      clear hK K
      try simp only [Act.put, List.setIfInBounds_toArray, List.set_cons_zero, List.set_cons_succ]
      refine wa_branch [8] (by decide +kernel) rfl ?_
      refine ar_op 8 rfl rfl (fun K hK => ?_) ar_nil
      unfold Oper.wp
      have hwr := HWR.out
      go_simp
      refine hK.out _ _ HT.out ?_
      clear hK K
      try simp only [Act.put, List.setIfInBounds_toArray, List.set_cons_zero, List.set_cons_succ]
      refine wa_branch [9] (by decide +kernel) rfl ?_
      refine ar_op 9 rfl rfl (fun K hK => ?_) ar_nil
      unfold Oper.wp
      go_simp
      refine hK.out _ _ HT.out ?_
      clear hK K
      try simp only [Act.put, List.setIfInBounds_toArray, List.set_cons_zero, List.set_cons_succ]
      refine wa_done (by decide +kernel) ?_
      have HB5' := hid (show Blk W5 g 3 (fill c (n + m)) ∧ Below w.heap.size w W5 from ⟨HB5.out, HT.out⟩)
      clear HSL HSH HCP HBW HWR HT HB5
      go_wp2
      go_roundw
      case rel => exact ⟨n + m, by omega, by omega, by go_num, HB5'⟩
      case measure => simp [intOf]; omega
    · obtain rfl : n = c := by omega
      go_wp2
      go_ret
      exact ⟨g, rfl, HG.out, hT.out.1, hT.out.2⟩
end Go.Proofs.Ytbejjindkcjecaa

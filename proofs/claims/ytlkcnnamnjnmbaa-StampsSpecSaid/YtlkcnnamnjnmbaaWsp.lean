/- The law Spec. -/
import Derived.Test.YtlkcnnamnjnmbaaSane
import Derived.Test.YtlkcnnamnjnmbaaFr
namespace Go.Proofs.Ytlkcnnamnjnmbaa
open Go.RowKit Go
set_option linter.unusedVariables false
set_option linter.unusedSimpArgs false
set_option maxRecDepth 100000 in
set_option maxHeartbeats 8000000 in
theorem spec_law (a b : St) (n : Int) (hn : I64 n) (w : World) : Calls Try.prog 3 #[KV a, KV b, .int .i64 n] w fun e w' => e = .returned (.bool true) ∧ Below w.heap.size w w' := by
  have SA := hid sane_any
  have K1 := hid (fun W => Known_any a W)
  have K2 := hid (fun W => rKnown_any a W)
  have O1 := hid (fun W => Of_any n hn W)
  have O2 := hid (fun W => rOf_any n hn W)
  have C1 := hid (fun W => Check_any a W)
  have C2 := hid (fun W => rCheck_any a W)
  have P1 := hid (fun W => Compare_any a b W)
  have P2 := hid (fun W => rCompare_any a b W)
  obtain ⟨m, hm⟩ : ∃ x, x = S8.knw a := ⟨_, rfl⟩
  obtain ⟨e, he⟩ : ∃ x, x = S8.chk a := ⟨_, rfl⟩
  obtain ⟨t, ht⟩ : ∃ x, x = S8.oft n := ⟨_, rfl⟩
  obtain ⟨c, hc⟩ : ∃ x, x = S8.ofc n := ⟨_, rfl⟩
  obtain ⟨g, hg⟩ : ∃ x, x = S8.ofe n := ⟨_, rfl⟩
  obtain ⟨z, hz⟩ : ∃ x, x = S8.cp a b := ⟨_, rfl⟩
  rw [← hm, ← he] at K1 K2
  rw [← he] at C1 C2
  rw [← ht, ← hc, ← hg] at O1 O2
  rw [← hz] at P1 P2
  clear hm he ht hc hg hz hn
  obtain ⟨a0, a1, a2⟩ := a
  obtain ⟨b0, b1, b2⟩ := b
  go_enter Try.func3, Try.ntmps3
  go_upto_region 1 with fail
  obtain ⟨Z, hZ⟩ : ∃ Z, Z = ((w.alloc (.cells #[.int .i64 a0, .int .i64 a1, .int .i64 a2] 23)).alloc (.cells #[.int .i64 b0, .int .i64 b1, .int .i64 b2] 23)) := ⟨_, rfl⟩
  have HZ := hid (show Below w.heap.size w Z from by rw [hZ]; exact ((Below.refl _ w).alloc (Nat.le_refl _) _).alloc (by simp) _)
  have ba : Blk Z (w.heap.size) 23 (kc (a0, a1, a2)) := by
    have h := Blk.new w 23 (kc (a0, a1, a2))
    rw [hZ]; exact (h.alloc _)
  have HaC := hid (fun (W : World) (hW : Below Z.heap.size Z W) => show At3 W (w.heap.size) 0 (a0, a1, a2) from ⟨(ba.below hW ba.lt).cell 0 _ rfl, (ba.below hW ba.lt).cell 1 _ rfl, (ba.below hW ba.lt).cell 2 _ rfl⟩)
  have bb : Blk Z (w.heap.size + 1) 23 (kc (b0, b1, b2)) := by
    have h := Blk.new (w.alloc (.cells #[.int .i64 a0, .int .i64 a1, .int .i64 a2] 23)) 23 (kc (b0, b1, b2))
    rw [World.size_alloc] at h
    rw [hZ]; exact h
  have HbC := hid (fun (W : World) (hW : Below Z.heap.size Z W) => show At3 W (w.heap.size + 1) 0 (b0, b1, b2) from ⟨(bb.below hW bb.lt).cell 0 _ rfl, (bb.below hW bb.lt).cell 1 _ rfl, (bb.below hW bb.lt).cell 2 _ rfl⟩)
  have HT := hid (Below.refl Z.heap.size Z)
  rw [← hZ]
  clear hZ ba bb
  go_wp2_with fail
  refine (SA.out _).mono ?_
  rintro e wn ⟨rfl, hb⟩
  have HT := hid (below_t HT.out hb)
  clear hb
  obtain ⟨ac0, ac1, ac2⟩ := HaC.out _ HT.out; obtain ⟨bc0, bc1, bc2⟩ := HbC.out _ HT.out
  go_wp2_with fail
  refine (K1.out _).mono ?_
  rintro e wn ⟨rfl, hb⟩
  have HT := hid (below_t HT.out hb)
  clear hb
  clear ac0 ac1 ac2 bc0 bc1 bc2
  obtain ⟨ac0, ac1, ac2⟩ := HaC.out _ HT.out; obtain ⟨bc0, bc1, bc2⟩ := HbC.out _ HT.out
  go_wp2_with fail
  refine (K2.out _).mono ?_
  rintro e wn ⟨rfl, hb⟩
  have HT := hid (below_t HT.out hb)
  clear hb
  clear ac0 ac1 ac2 bc0 bc1 bc2
  go_wp2_with fail
  refine (O1.out _).mono ?_
  rintro e wn ⟨rfl, hb⟩
  have HT := hid (below_t HT.out hb)
  clear hb
  go_wp2_with fail
  refine (O2.out _).mono ?_
  rintro e wn ⟨rfl, hb⟩
  have HT := hid (below_t HT.out hb)
  clear hb
  go_upto_region 7 with fail
  have HT := hid HT.out.drew
  refine wa_start (S := fun W => Below Z.heap.size Z W) (by kernel_rfl) HT.out ?_
  refine wa_tk 0 (some 41) (KV (a0, a1, a2)) rfl (by kernel_rfl) rfl rfl HT.out (fun w h0 => by obtain ⟨k0, k1, k2⟩ := HaC.out _ h0; go_simp) ?_
  try simp only [Act.put, List.setIfInBounds_toArray, List.set_cons_zero, List.set_cons_succ]
  refine wa_tk 2 (some 43) (KV (a0, a1, a2)) rfl (by kernel_rfl) rfl rfl HT.out (fun w h0 => by obtain ⟨k0, k1, k2⟩ := HaC.out _ h0; go_simp) ?_
  try simp only [Act.put, List.setIfInBounds_toArray, List.set_cons_zero, List.set_cons_succ]
  refine wa_branch [1] (by decide +kernel) rfl ?_
  refine ar_op 1 rfl rfl (fun K hK => ?_) ar_nil
  unfold Oper.wp
  go_simp
  go_at_call 15
  refine (C1.out _).mono ?_
  rintro e wz ⟨rfl, hbz⟩
  have HT := hid (below_t HT.out hbz)
  clear hbz
  go_simp
  refine hK.out _ _ HT.out ?_
  clear hK K
  try simp only [Act.put, List.setIfInBounds_toArray, List.set_cons_zero, List.set_cons_succ]
  refine wa_branch [3] (by decide +kernel) rfl ?_
  refine ar_op 3 rfl rfl (fun K hK => ?_) ar_nil
  unfold Oper.wp
  go_simp
  go_at_call 16
  refine (C2.out _).mono ?_
  rintro e wz ⟨rfl, hbz⟩
  have HT := hid (below_t HT.out hbz)
  clear hbz
  go_simp
  refine hK.out _ _ HT.out ?_
  clear hK K
  try simp only [Act.put, List.setIfInBounds_toArray, List.set_cons_zero, List.set_cons_succ]
  refine wa_tk 4 (some 45) (.bool true) rfl (by kernel_rfl) rfl rfl HT.out (fun w h0 => by go_simp) ?_
  try simp only [Act.put, List.setIfInBounds_toArray, List.set_cons_zero, List.set_cons_succ]
  refine wa_tk 5 (some 46) (.bool true) rfl (by kernel_rfl) rfl rfl HT.out (fun w h0 => by go_simp) ?_
  try simp only [Act.put, List.setIfInBounds_toArray, List.set_cons_zero, List.set_cons_succ]
  refine wa_tkg 6 (some 47) (KV (a0, a1, a2)) rfl (by kernel_rfl) rfl rfl HT.out (fun w h0 => by obtain ⟨k0, k1, k2⟩ := HaC.out _ h0; go_simp) ?_
  try simp only [Act.put, List.setIfInBounds_toArray, List.set_cons_zero, List.set_cons_succ]
  refine wa_tkg 7 (some 48) (KV (b0, b1, b2)) rfl (by kernel_rfl) rfl rfl HT.out (fun w h0 => by obtain ⟨k0, k1, k2⟩ := HbC.out _ h0; go_simp) ?_
  try simp only [Act.put, List.setIfInBounds_toArray, List.set_cons_zero, List.set_cons_succ]
  refine wa_tkg 9 (some 50) (KV (a0, a1, a2)) rfl (by kernel_rfl) rfl rfl HT.out (fun w h0 => by obtain ⟨k0, k1, k2⟩ := HaC.out _ h0; go_simp) ?_
  try simp only [Act.put, List.setIfInBounds_toArray, List.set_cons_zero, List.set_cons_succ]
  refine wa_tkg 10 (some 51) (KV (b0, b1, b2)) rfl (by kernel_rfl) rfl rfl HT.out (fun w h0 => by obtain ⟨k0, k1, k2⟩ := HbC.out _ h0; go_simp) ?_
  try simp only [Act.put, List.setIfInBounds_toArray, List.set_cons_zero, List.set_cons_succ]
  refine wa_branch [8] (by decide +kernel) rfl ?_
  refine ar_opg 8 rfl rfl (fun K hK => ?_) ar_nil
  unfold Oper.wp
  go_simp
  go_at_call 17
  refine (P1.out _).mono ?_
  rintro e wz ⟨rfl, hbz⟩
  have HT := hid (below_t HT.out hbz)
  clear hbz
  go_simp
  refine hK.out _ _ HT.out ?_
  clear hK K
  try simp only [Act.put, List.setIfInBounds_toArray, List.set_cons_zero, List.set_cons_succ]
  refine wa_branch [11] (by decide +kernel) rfl ?_
  refine ar_opg 11 rfl rfl (fun K hK => ?_) ar_nil
  unfold Oper.wp
  go_simp
  go_at_call 18
  refine (P2.out _).mono ?_
  rintro e wz ⟨rfl, hbz⟩
  have HT := hid (below_t HT.out hbz)
  clear hbz
  go_simp
  refine hK.out _ _ HT.out ?_
  clear hK K
  try simp only [Act.put, List.setIfInBounds_toArray, List.set_cons_zero, List.set_cons_succ]
  refine wa_tkg 12 (some 53) (.bool true) rfl (by kernel_rfl) rfl rfl HT.out (fun w h0 => by go_simp) ?_
  try simp only [Act.put, List.setIfInBounds_toArray, List.set_cons_zero, List.set_cons_succ]
  refine wa_tk 13 (some 54) (.bool true) rfl (by kernel_rfl) rfl rfl HT.out (fun w h0 => by go_simp) ?_
  try simp only [Act.put, List.setIfInBounds_toArray, List.set_cons_zero, List.set_cons_succ]
  refine wa_tk 14 (some 55) (.bool true) rfl (by kernel_rfl) rfl rfl HT.out (fun w h0 => by go_simp) ?_
  try simp only [Act.put, List.setIfInBounds_toArray, List.set_cons_zero, List.set_cons_succ]
  refine wa_tkg 15 (some 56) (.int .i64 m) rfl (by kernel_rfl) rfl rfl HT.out (fun w h0 => by go_simp) ?_
  try simp only [Act.put, List.setIfInBounds_toArray, List.set_cons_zero, List.set_cons_succ]
  refine wa_tkg 16 (some 57) (.int .i64 m) rfl (by kernel_rfl) rfl rfl HT.out (fun w h0 => by go_simp) ?_
  try simp only [Act.put, List.setIfInBounds_toArray, List.set_cons_zero, List.set_cons_succ]
  refine wa_tkg 17 (some 58) (.bool true) rfl (by kernel_rfl) rfl rfl HT.out (fun w h0 => by go_simp) ?_
  try simp only [Act.put, List.setIfInBounds_toArray, List.set_cons_zero, List.set_cons_succ]
  refine wa_tk 18 (some 59) (.bool true) rfl (by kernel_rfl) rfl rfl HT.out (fun w h0 => by go_simp) ?_
  try simp only [Act.put, List.setIfInBounds_toArray, List.set_cons_zero, List.set_cons_succ]
  refine wa_tk 19 (some 60) (.bool true) rfl (by kernel_rfl) rfl rfl HT.out (fun w h0 => by go_simp) ?_
  try simp only [Act.put, List.setIfInBounds_toArray, List.set_cons_zero, List.set_cons_succ]
  refine wa_tkg 20 (some 61) (.int .i64 e) rfl (by kernel_rfl) rfl rfl HT.out (fun w h0 => by go_simp) ?_
  try simp only [Act.put, List.setIfInBounds_toArray, List.set_cons_zero, List.set_cons_succ]
  refine wa_tkg 21 (some 62) (.int .i64 e) rfl (by kernel_rfl) rfl rfl HT.out (fun w h0 => by go_simp) ?_
  try simp only [Act.put, List.setIfInBounds_toArray, List.set_cons_zero, List.set_cons_succ]
  refine wa_tkg 22 (some 63) (.bool true) rfl (by kernel_rfl) rfl rfl HT.out (fun w h0 => by go_simp) ?_
  try simp only [Act.put, List.setIfInBounds_toArray, List.set_cons_zero, List.set_cons_succ]
  refine wa_tk 23 (some 64) (.bool true) rfl (by kernel_rfl) rfl rfl HT.out (fun w h0 => by go_simp) ?_
  try simp only [Act.put, List.setIfInBounds_toArray, List.set_cons_zero, List.set_cons_succ]
  refine wa_tk 24 (some 65) (.bool true) rfl (by kernel_rfl) rfl rfl HT.out (fun w h0 => by go_simp) ?_
  try simp only [Act.put, List.setIfInBounds_toArray, List.set_cons_zero, List.set_cons_succ]
  refine wa_tkg 25 (some 66) (.int .i64 t) rfl (by kernel_rfl) rfl rfl HT.out (fun w h0 => by go_simp) ?_
  try simp only [Act.put, List.setIfInBounds_toArray, List.set_cons_zero, List.set_cons_succ]
  refine wa_tkg 26 (some 67) (.int .i64 t) rfl (by kernel_rfl) rfl rfl HT.out (fun w h0 => by go_simp) ?_
  try simp only [Act.put, List.setIfInBounds_toArray, List.set_cons_zero, List.set_cons_succ]
  refine wa_tkg 27 (some 68) (.bool true) rfl (by kernel_rfl) rfl rfl HT.out (fun w h0 => by go_simp) ?_
  try simp only [Act.put, List.setIfInBounds_toArray, List.set_cons_zero, List.set_cons_succ]
  refine wa_tk 28 (some 69) (.bool true) rfl (by kernel_rfl) rfl rfl HT.out (fun w h0 => by go_simp) ?_
  try simp only [Act.put, List.setIfInBounds_toArray, List.set_cons_zero, List.set_cons_succ]
  refine wa_tk 29 (some 70) (.bool true) rfl (by kernel_rfl) rfl rfl HT.out (fun w h0 => by go_simp) ?_
  try simp only [Act.put, List.setIfInBounds_toArray, List.set_cons_zero, List.set_cons_succ]
  refine wa_tkg 30 (some 71) (.int .i64 c) rfl (by kernel_rfl) rfl rfl HT.out (fun w h0 => by go_simp) ?_
  try simp only [Act.put, List.setIfInBounds_toArray, List.set_cons_zero, List.set_cons_succ]
  refine wa_tkg 31 (some 72) (.int .i64 c) rfl (by kernel_rfl) rfl rfl HT.out (fun w h0 => by go_simp) ?_
  try simp only [Act.put, List.setIfInBounds_toArray, List.set_cons_zero, List.set_cons_succ]
  refine wa_tkg 32 (some 73) (.bool true) rfl (by kernel_rfl) rfl rfl HT.out (fun w h0 => by go_simp) ?_
  try simp only [Act.put, List.setIfInBounds_toArray, List.set_cons_zero, List.set_cons_succ]
  refine wa_tk 33 (some 74) (.bool true) rfl (by kernel_rfl) rfl rfl HT.out (fun w h0 => by go_simp) ?_
  try simp only [Act.put, List.setIfInBounds_toArray, List.set_cons_zero, List.set_cons_succ]
  refine wa_tk 34 (some 75) (.bool true) rfl (by kernel_rfl) rfl rfl HT.out (fun w h0 => by go_simp) ?_
  try simp only [Act.put, List.setIfInBounds_toArray, List.set_cons_zero, List.set_cons_succ]
  refine wa_tkg 35 (some 76) (.int .i64 g) rfl (by kernel_rfl) rfl rfl HT.out (fun w h0 => by go_simp) ?_
  try simp only [Act.put, List.setIfInBounds_toArray, List.set_cons_zero, List.set_cons_succ]
  refine wa_tkg 36 (some 77) (.int .i64 g) rfl (by kernel_rfl) rfl rfl HT.out (fun w h0 => by go_simp) ?_
  try simp only [Act.put, List.setIfInBounds_toArray, List.set_cons_zero, List.set_cons_succ]
  refine wa_tkg 37 (some 78) (.bool true) rfl (by kernel_rfl) rfl rfl HT.out (fun w h0 => by go_simp) ?_
  try simp only [Act.put, List.setIfInBounds_toArray, List.set_cons_zero, List.set_cons_succ]
  refine wa_tk 38 (some 79) (.bool true) rfl (by kernel_rfl) rfl rfl HT.out (fun w h0 => by go_simp) ?_
  try simp only [Act.put, List.setIfInBounds_toArray, List.set_cons_zero, List.set_cons_succ]
  refine wa_branch [39] (by decide +kernel) rfl ?_
  refine ar_op 39 rfl rfl (fun K hK => ?_) ar_nil
  unfold Oper.wp
  go_simp
  refine hK.out _ _ HT.out ?_
  clear hK K
  try simp only [Act.put, List.setIfInBounds_toArray, List.set_cons_zero, List.set_cons_succ]
  refine wa_done (by decide +kernel) ?_
  go_wp2
  all_goals (go_ret; exact ⟨rfl, below_t HZ.out HT.out⟩)
end Go.Proofs.Ytlkcnnamnjnmbaa

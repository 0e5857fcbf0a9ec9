/- The law Total. -/
import Derived.Test.YtlkcnnamnjnmbaaSane
import Derived.Test.YtlkcnnamnjnmbaaFr
namespace Go.Proofs.Ytlkcnnamnjnmbaa
open Go.RowKit Go
set_option linter.unusedVariables false
set_option linter.unusedSimpArgs false
set_option maxRecDepth 100000 in
set_option maxHeartbeats 8000000 in
theorem total_law (a b c : St) (w : World) : Calls Try.prog 5 #[KV a, KV b, KV c] w fun e w' => e = .returned (.bool true) ∧ Below w.heap.size w w' := by
  have SA := hid sane_any
  have C1 := hid (fun W => Compare_any a b W)
  have C2 := hid (fun W => Compare_any b a W)
  have C3 := hid (fun W => Compare_any b c W)
  have C4 := hid (fun W => Compare_any a c W)
  have HPE := hid (fun w => st_eq a b w)
  have hneg := S8.cp_neg a b
  have htr := S8.cp_trans (a := a) (b := b) (c := c)
  have hzi := S8.cp_zero_iff (a := a) (b := b)
  have hra := S8.cp_range a b
  have hrc := S8.cp_range b c
  have hrd := S8.cp_range a c
  rw [hneg] at C2
  clear hneg
  rcases hra with h | h | h
  · rw [h] at C1 C2 htr
    rw [show decide (a = b) = false from decide_eq_false (fun e => by rw [hzi.2 e] at h; omega)] at HPE
    clear hzi h
    obtain ⟨z, hz⟩ : ∃ z, z = S8.cp b c := ⟨_, rfl⟩
    obtain ⟨y, hy⟩ : ∃ z, z = S8.cp a c := ⟨_, rfl⟩
    rw [← hz] at C3 htr hrc; rw [← hy] at C4 htr hrd
    clear hz hy
    obtain ⟨a0, a1, a2⟩ := a; obtain ⟨b0, b1, b2⟩ := b; obtain ⟨c0, c1, c2⟩ := c
    by_cases hzz : 0 < z
    · have HZ0 := hid hzz
      clear htr hrc hrd hzz C4
      go_enter Try.func5, Try.ntmps5
      go_upto_region 1 with fail
      obtain ⟨Z, hZ⟩ : ∃ Z, Z = (((w.alloc (.cells #[.int .i64 a0, .int .i64 a1, .int .i64 a2] 23)).alloc (.cells #[.int .i64 b0, .int .i64 b1, .int .i64 b2] 23)).alloc (.cells #[.int .i64 c0, .int .i64 c1, .int .i64 c2] 23)) := ⟨_, rfl⟩
      have HZ := hid (show Below w.heap.size w Z from by rw [hZ]; exact (((Below.refl _ w).alloc (Nat.le_refl _) _).alloc (by simp) _).alloc (by simp; omega) _)
      have ba : Blk Z (w.heap.size) 23 (kc (a0, a1, a2)) := by
        have h := Blk.new w 23 (kc (a0, a1, a2))
        rw [hZ]; exact ((h.alloc _).alloc _)
      have HaC := hid (fun (W : World) (hW : Below Z.heap.size Z W) => show At3 W (w.heap.size) 0 (a0, a1, a2) from ⟨(ba.below hW ba.lt).cell 0 _ rfl, (ba.below hW ba.lt).cell 1 _ rfl, (ba.below hW ba.lt).cell 2 _ rfl⟩)
      have bb : Blk Z (w.heap.size + 1) 23 (kc (b0, b1, b2)) := by
        have h := Blk.new (w.alloc (.cells #[.int .i64 a0, .int .i64 a1, .int .i64 a2] 23)) 23 (kc (b0, b1, b2))
        rw [World.size_alloc] at h
        rw [hZ]; exact (h.alloc _)
      have HbC := hid (fun (W : World) (hW : Below Z.heap.size Z W) => show At3 W (w.heap.size + 1) 0 (b0, b1, b2) from ⟨(bb.below hW bb.lt).cell 0 _ rfl, (bb.below hW bb.lt).cell 1 _ rfl, (bb.below hW bb.lt).cell 2 _ rfl⟩)
      have bc : Blk Z (w.heap.size + 1 + 1) 23 (kc (c0, c1, c2)) := by
        have h := Blk.new ((w.alloc (.cells #[.int .i64 a0, .int .i64 a1, .int .i64 a2] 23)).alloc (.cells #[.int .i64 b0, .int .i64 b1, .int .i64 b2] 23)) 23 (kc (c0, c1, c2))
        rw [World.size_alloc, World.size_alloc] at h
        rw [hZ]; exact h
      have HcC := hid (fun (W : World) (hW : Below Z.heap.size Z W) => show At3 W (w.heap.size + 1 + 1) 0 (c0, c1, c2) from ⟨(bc.below hW bc.lt).cell 0 _ rfl, (bc.below hW bc.lt).cell 1 _ rfl, (bc.below hW bc.lt).cell 2 _ rfl⟩)
      have HT := hid (Below.refl Z.heap.size Z)
      rw [← hZ]
      clear hZ ba bb bc
      go_wp2_with fail
      refine (SA.out _).mono ?_
      rintro e wn ⟨rfl, hb⟩
      have HT := hid (below_t HT.out hb)
      clear hb
      go_upto_region 3 with fail
      have HT := hid HT.out.drew
      refine wa_start (S := fun W => Below Z.heap.size Z W) (by kernel_rfl) HT.out ?_
      refine wa_tk 0 (some 11) (KV (a0, a1, a2)) rfl (by kernel_rfl) rfl rfl HT.out (fun w h0 => by obtain ⟨k0, k1, k2⟩ := HaC.out _ h0; go_simp) ?_
      try simp only [Act.put, List.setIfInBounds_toArray, List.set_cons_zero, List.set_cons_succ]
      refine wa_tk 1 (some 12) (KV (b0, b1, b2)) rfl (by kernel_rfl) rfl rfl HT.out (fun w h0 => by obtain ⟨k0, k1, k2⟩ := HbC.out _ h0; go_simp) ?_
      try simp only [Act.put, List.setIfInBounds_toArray, List.set_cons_zero, List.set_cons_succ]
      refine wa_tk 3 (some 14) (KV (b0, b1, b2)) rfl (by kernel_rfl) rfl rfl HT.out (fun w h0 => by obtain ⟨k0, k1, k2⟩ := HbC.out _ h0; go_simp) ?_
      try simp only [Act.put, List.setIfInBounds_toArray, List.set_cons_zero, List.set_cons_succ]
      refine wa_tk 4 (some 15) (KV (a0, a1, a2)) rfl (by kernel_rfl) rfl rfl HT.out (fun w h0 => by obtain ⟨k0, k1, k2⟩ := HaC.out _ h0; go_simp) ?_
      try simp only [Act.put, List.setIfInBounds_toArray, List.set_cons_zero, List.set_cons_succ]
      refine wa_branch [2] (by decide +kernel) rfl ?_
      refine ar_op 2 rfl rfl (fun K hK => ?_) ar_nil
      unfold Oper.wp
      go_simp
      go_at_call 17
      refine (C1.out _).mono ?_
      rintro e wz ⟨rfl, hbz⟩
      have HT := hid (below_t HT.out hbz)
      clear hbz
      go_simp
      refine hK.out _ _ HT.out ?_
      clear hK K
      try simp only [Act.put, List.setIfInBounds_toArray, List.set_cons_zero, List.set_cons_succ]
      refine wa_branch [5] (by decide +kernel) rfl ?_
      refine ar_op 5 rfl rfl (fun K hK => ?_) ar_nil
      unfold Oper.wp
      go_simp
      go_at_call 17
      refine (C2.out _).mono ?_
      rintro e wz ⟨rfl, hbz⟩
      have HT := hid (below_t HT.out hbz)
      clear hbz
      go_simp
      refine hK.out _ _ HT.out ?_
      clear hK K
      try simp only [Act.put, List.setIfInBounds_toArray, List.set_cons_zero, List.set_cons_succ]
      refine wa_branch [6] (by decide +kernel) rfl ?_
      refine ar_op 6 rfl rfl (fun K hK => ?_) ar_nil
      unfold Oper.wp
      go_simp
      refine hK.out _ _ HT.out ?_
      clear hK K
      try simp only [Act.put, List.setIfInBounds_toArray, List.set_cons_zero, List.set_cons_succ]
      refine wa_branch [7] (by decide +kernel) rfl ?_
      refine ar_op 7 rfl rfl (fun K hK => ?_) ar_nil
      unfold Oper.wp
      go_simp
      refine hK.out _ _ HT.out ?_
      clear hK K
      try simp only [Act.put, List.setIfInBounds_toArray, List.set_cons_zero, List.set_cons_succ]
      refine wa_done (by decide +kernel) ?_
      obtain ⟨ac0, ac1, ac2⟩ := HaC.out _ HT.out; obtain ⟨bc0, bc1, bc2⟩ := HbC.out _ HT.out; obtain ⟨cc0, cc1, cc2⟩ := HcC.out _ HT.out
      have hpe := HPE.out
      have hg60 : Try.prog.eqGuardType Try.prog.depth 23 = false := by kernel_rfl
      go_wp2_with fail
      refine (C3.out _).mono ?_
      rintro e wn ⟨rfl, hb⟩
      have HT := hid (below_t HT.out hb)
      clear hb
      clear ac0 ac1 ac2 bc0 bc1 bc2 cc0 cc1 cc2
      obtain ⟨ac0, ac1, ac2⟩ := HaC.out _ HT.out; obtain ⟨bc0, bc1, bc2⟩ := HbC.out _ HT.out; obtain ⟨cc0, cc1, cc2⟩ := HcC.out _ HT.out
      have hz := HZ0.out
      go_wp2
      all_goals (go_ret; exact ⟨rfl, below_t HZ.out HT.out⟩)
    · have HZ0 := hid hzz
      have HY0 := hid (show y ≤ 0 from htr (by omega) (by omega))
      clear htr hrc hrd hzz
      go_enter Try.func5, Try.ntmps5
      go_upto_region 1 with fail
      obtain ⟨Z, hZ⟩ : ∃ Z, Z = (((w.alloc (.cells #[.int .i64 a0, .int .i64 a1, .int .i64 a2] 23)).alloc (.cells #[.int .i64 b0, .int .i64 b1, .int .i64 b2] 23)).alloc (.cells #[.int .i64 c0, .int .i64 c1, .int .i64 c2] 23)) := ⟨_, rfl⟩
      have HZ := hid (show Below w.heap.size w Z from by rw [hZ]; exact (((Below.refl _ w).alloc (Nat.le_refl _) _).alloc (by simp) _).alloc (by simp; omega) _)
      have ba : Blk Z (w.heap.size) 23 (kc (a0, a1, a2)) := by
        have h := Blk.new w 23 (kc (a0, a1, a2))
        rw [hZ]; exact ((h.alloc _).alloc _)
      have HaC := hid (fun (W : World) (hW : Below Z.heap.size Z W) => show At3 W (w.heap.size) 0 (a0, a1, a2) from ⟨(ba.below hW ba.lt).cell 0 _ rfl, (ba.below hW ba.lt).cell 1 _ rfl, (ba.below hW ba.lt).cell 2 _ rfl⟩)
      have bb : Blk Z (w.heap.size + 1) 23 (kc (b0, b1, b2)) := by
        have h := Blk.new (w.alloc (.cells #[.int .i64 a0, .int .i64 a1, .int .i64 a2] 23)) 23 (kc (b0, b1, b2))
        rw [World.size_alloc] at h
        rw [hZ]; exact (h.alloc _)
      have HbC := hid (fun (W : World) (hW : Below Z.heap.size Z W) => show At3 W (w.heap.size + 1) 0 (b0, b1, b2) from ⟨(bb.below hW bb.lt).cell 0 _ rfl, (bb.below hW bb.lt).cell 1 _ rfl, (bb.below hW bb.lt).cell 2 _ rfl⟩)
      have bc : Blk Z (w.heap.size + 1 + 1) 23 (kc (c0, c1, c2)) := by
        have h := Blk.new ((w.alloc (.cells #[.int .i64 a0, .int .i64 a1, .int .i64 a2] 23)).alloc (.cells #[.int .i64 b0, .int .i64 b1, .int .i64 b2] 23)) 23 (kc (c0, c1, c2))
        rw [World.size_alloc, World.size_alloc] at h
        rw [hZ]; exact h
      have HcC := hid (fun (W : World) (hW : Below Z.heap.size Z W) => show At3 W (w.heap.size + 1 + 1) 0 (c0, c1, c2) from ⟨(bc.below hW bc.lt).cell 0 _ rfl, (bc.below hW bc.lt).cell 1 _ rfl, (bc.below hW bc.lt).cell 2 _ rfl⟩)
      have HT := hid (Below.refl Z.heap.size Z)
      rw [← hZ]
      clear hZ ba bb bc
      go_wp2_with fail
      refine (SA.out _).mono ?_
      rintro e wn ⟨rfl, hb⟩
      have HT := hid (below_t HT.out hb)
      clear hb
      go_upto_region 3 with fail
      have HT := hid HT.out.drew
      refine wa_start (S := fun W => Below Z.heap.size Z W) (by kernel_rfl) HT.out ?_
      refine wa_tk 0 (some 11) (KV (a0, a1, a2)) rfl (by kernel_rfl) rfl rfl HT.out (fun w h0 => by obtain ⟨k0, k1, k2⟩ := HaC.out _ h0; go_simp) ?_
      try simp only [Act.put, List.setIfInBounds_toArray, List.set_cons_zero, List.set_cons_succ]
      refine wa_tk 1 (some 12) (KV (b0, b1, b2)) rfl (by kernel_rfl) rfl rfl HT.out (fun w h0 => by obtain ⟨k0, k1, k2⟩ := HbC.out _ h0; go_simp) ?_
      try simp only [Act.put, List.setIfInBounds_toArray, List.set_cons_zero, List.set_cons_succ]
      refine wa_tk 3 (some 14) (KV (b0, b1, b2)) rfl (by kernel_rfl) rfl rfl HT.out (fun w h0 => by obtain ⟨k0, k1, k2⟩ := HbC.out _ h0; go_simp) ?_
      try simp only [Act.put, List.setIfInBounds_toArray, List.set_cons_zero, List.set_cons_succ]
      refine wa_tk 4 (some 15) (KV (a0, a1, a2)) rfl (by kernel_rfl) rfl rfl HT.out (fun w h0 => by obtain ⟨k0, k1, k2⟩ := HaC.out _ h0; go_simp) ?_
      try simp only [Act.put, List.setIfInBounds_toArray, List.set_cons_zero, List.set_cons_succ]
      refine wa_branch [2] (by decide +kernel) rfl ?_
      refine ar_op 2 rfl rfl (fun K hK => ?_) ar_nil
      unfold Oper.wp
      go_simp
      go_at_call 17
      refine (C1.out _).mono ?_
      rintro e wz ⟨rfl, hbz⟩
      have HT := hid (below_t HT.out hbz)
      clear hbz
      go_simp
      refine hK.out _ _ HT.out ?_
      clear hK K
      try simp only [Act.put, List.setIfInBounds_toArray, List.set_cons_zero, List.set_cons_succ]
      refine wa_branch [5] (by decide +kernel) rfl ?_
      refine ar_op 5 rfl rfl (fun K hK => ?_) ar_nil
      unfold Oper.wp
      go_simp
      go_at_call 17
      refine (C2.out _).mono ?_
      rintro e wz ⟨rfl, hbz⟩
      have HT := hid (below_t HT.out hbz)
      clear hbz
      go_simp
      refine hK.out _ _ HT.out ?_
      clear hK K
      try simp only [Act.put, List.setIfInBounds_toArray, List.set_cons_zero, List.set_cons_succ]
      refine wa_branch [6] (by decide +kernel) rfl ?_
      refine ar_op 6 rfl rfl (fun K hK => ?_) ar_nil
      unfold Oper.wp
      go_simp
      refine hK.out _ _ HT.out ?_
      clear hK K
      try simp only [Act.put, List.setIfInBounds_toArray, List.set_cons_zero, List.set_cons_succ]
      refine wa_branch [7] (by decide +kernel) rfl ?_
      refine ar_op 7 rfl rfl (fun K hK => ?_) ar_nil
      unfold Oper.wp
      go_simp
      refine hK.out _ _ HT.out ?_
      clear hK K
      try simp only [Act.put, List.setIfInBounds_toArray, List.set_cons_zero, List.set_cons_succ]
      refine wa_done (by decide +kernel) ?_
      obtain ⟨ac0, ac1, ac2⟩ := HaC.out _ HT.out; obtain ⟨bc0, bc1, bc2⟩ := HbC.out _ HT.out; obtain ⟨cc0, cc1, cc2⟩ := HcC.out _ HT.out
      have hpe := HPE.out
      have hg60 : Try.prog.eqGuardType Try.prog.depth 23 = false := by kernel_rfl
      go_wp2_with fail
      refine (C3.out _).mono ?_
      rintro e wn ⟨rfl, hb⟩
      have HT := hid (below_t HT.out hb)
      clear hb
      clear ac0 ac1 ac2 bc0 bc1 bc2 cc0 cc1 cc2
      obtain ⟨ac0, ac1, ac2⟩ := HaC.out _ HT.out; obtain ⟨bc0, bc1, bc2⟩ := HbC.out _ HT.out; obtain ⟨cc0, cc1, cc2⟩ := HcC.out _ HT.out
      have hz := HZ0.out
      go_wp2_with fail
      refine (C4.out _).mono ?_
      rintro e wn ⟨rfl, hb⟩
      have HT := hid (below_t HT.out hb)
      clear hb
      have hy := HY0.out
      go_wp2
      all_goals (go_ret; exact ⟨rfl, below_t HZ.out HT.out⟩)
  · rw [h] at C1 C2 htr
    rw [show decide (a = b) = true from decide_eq_true (hzi.1 h)] at HPE
    clear hzi h
    obtain ⟨z, hz⟩ : ∃ z, z = S8.cp b c := ⟨_, rfl⟩
    obtain ⟨y, hy⟩ : ∃ z, z = S8.cp a c := ⟨_, rfl⟩
    rw [← hz] at C3 htr hrc; rw [← hy] at C4 htr hrd
    clear hz hy
    obtain ⟨a0, a1, a2⟩ := a; obtain ⟨b0, b1, b2⟩ := b; obtain ⟨c0, c1, c2⟩ := c
    by_cases hzz : 0 < z
    · have HZ0 := hid hzz
      clear htr hrc hrd hzz C4
      go_enter Try.func5, Try.ntmps5
      go_upto_region 1 with fail
      obtain ⟨Z, hZ⟩ : ∃ Z, Z = (((w.alloc (.cells #[.int .i64 a0, .int .i64 a1, .int .i64 a2] 23)).alloc (.cells #[.int .i64 b0, .int .i64 b1, .int .i64 b2] 23)).alloc (.cells #[.int .i64 c0, .int .i64 c1, .int .i64 c2] 23)) := ⟨_, rfl⟩
      have HZ := hid (show Below w.heap.size w Z from by rw [hZ]; exact (((Below.refl _ w).alloc (Nat.le_refl _) _).alloc (by simp) _).alloc (by simp; omega) _)
      have ba : Blk Z (w.heap.size) 23 (kc (a0, a1, a2)) := by
        have h := Blk.new w 23 (kc (a0, a1, a2))
        rw [hZ]; exact ((h.alloc _).alloc _)
      have HaC := hid (fun (W : World) (hW : Below Z.heap.size Z W) => show At3 W (w.heap.size) 0 (a0, a1, a2) from ⟨(ba.below hW ba.lt).cell 0 _ rfl, (ba.below hW ba.lt).cell 1 _ rfl, (ba.below hW ba.lt).cell 2 _ rfl⟩)
      have bb : Blk Z (w.heap.size + 1) 23 (kc (b0, b1, b2)) := by
        have h := Blk.new (w.alloc (.cells #[.int .i64 a0, .int .i64 a1, .int .i64 a2] 23)) 23 (kc (b0, b1, b2))
        rw [World.size_alloc] at h
        rw [hZ]; exact (h.alloc _)
      have HbC := hid (fun (W : World) (hW : Below Z.heap.size Z W) => show At3 W (w.heap.size + 1) 0 (b0, b1, b2) from ⟨(bb.below hW bb.lt).cell 0 _ rfl, (bb.below hW bb.lt).cell 1 _ rfl, (bb.below hW bb.lt).cell 2 _ rfl⟩)
      have bc : Blk Z (w.heap.size + 1 + 1) 23 (kc (c0, c1, c2)) := by
        have h := Blk.new ((w.alloc (.cells #[.int .i64 a0, .int .i64 a1, .int .i64 a2] 23)).alloc (.cells #[.int .i64 b0, .int .i64 b1, .int .i64 b2] 23)) 23 (kc (c0, c1, c2))
        rw [World.size_alloc, World.size_alloc] at h
        rw [hZ]; exact h
      have HcC := hid (fun (W : World) (hW : Below Z.heap.size Z W) => show At3 W (w.heap.size + 1 + 1) 0 (c0, c1, c2) from ⟨(bc.below hW bc.lt).cell 0 _ rfl, (bc.below hW bc.lt).cell 1 _ rfl, (bc.below hW bc.lt).cell 2 _ rfl⟩)
      have HT := hid (Below.refl Z.heap.size Z)
      rw [← hZ]
      clear hZ ba bb bc
      go_wp2_with fail
      refine (SA.out _).mono ?_
      rintro e wn ⟨rfl, hb⟩
      have HT := hid (below_t HT.out hb)
      clear hb
      go_upto_region 3 with fail
      have HT := hid HT.out.drew
      refine wa_start (S := fun W => Below Z.heap.size Z W) (by kernel_rfl) HT.out ?_
      refine wa_tk 0 (some 11) (KV (a0, a1, a2)) rfl (by kernel_rfl) rfl rfl HT.out (fun w h0 => by obtain ⟨k0, k1, k2⟩ := HaC.out _ h0; go_simp) ?_
      try simp only [Act.put, List.setIfInBounds_toArray, List.set_cons_zero, List.set_cons_succ]
      refine wa_tk 1 (some 12) (KV (b0, b1, b2)) rfl (by kernel_rfl) rfl rfl HT.out (fun w h0 => by obtain ⟨k0, k1, k2⟩ := HbC.out _ h0; go_simp) ?_
      try simp only [Act.put, List.setIfInBounds_toArray, List.set_cons_zero, List.set_cons_succ]
      refine wa_tk 3 (some 14) (KV (b0, b1, b2)) rfl (by kernel_rfl) rfl rfl HT.out (fun w h0 => by obtain ⟨k0, k1, k2⟩ := HbC.out _ h0; go_simp) ?_
      try simp only [Act.put, List.setIfInBounds_toArray, List.set_cons_zero, List.set_cons_succ]
      refine wa_tk 4 (some 15) (KV (a0, a1, a2)) rfl (by kernel_rfl) rfl rfl HT.out (fun w h0 => by obtain ⟨k0, k1, k2⟩ := HaC.out _ h0; go_simp) ?_
      try simp only [Act.put, List.setIfInBounds_toArray, List.set_cons_zero, List.set_cons_succ]
      refine wa_branch [2] (by decide +kernel) rfl ?_
      refine ar_op 2 rfl rfl (fun K hK => ?_) ar_nil
      unfold Oper.wp
      go_simp
      go_at_call 17
      refine (C1.out _).mono ?_
      rintro e wz ⟨rfl, hbz⟩
      have HT := hid (below_t HT.out hbz)
      clear hbz
      go_simp
      refine hK.out _ _ HT.out ?_
      clear hK K
      try simp only [Act.put, List.setIfInBounds_toArray, List.set_cons_zero, List.set_cons_succ]
      refine wa_branch [5] (by decide +kernel) rfl ?_
      refine ar_op 5 rfl rfl (fun K hK => ?_) ar_nil
      unfold Oper.wp
      go_simp
      go_at_call 17
      refine (C2.out _).mono ?_
      rintro e wz ⟨rfl, hbz⟩
      have HT := hid (below_t HT.out hbz)
      clear hbz
      go_simp
      refine hK.out _ _ HT.out ?_
      clear hK K
      try simp only [Act.put, List.setIfInBounds_toArray, List.set_cons_zero, List.set_cons_succ]
      refine wa_branch [6] (by decide +kernel) rfl ?_
      refine ar_op 6 rfl rfl (fun K hK => ?_) ar_nil
      unfold Oper.wp
      go_simp
      refine hK.out _ _ HT.out ?_
      clear hK K
      try simp only [Act.put, List.setIfInBounds_toArray, List.set_cons_zero, List.set_cons_succ]
      refine wa_branch [7] (by decide +kernel) rfl ?_
      refine ar_op 7 rfl rfl (fun K hK => ?_) ar_nil
      unfold Oper.wp
      go_simp
      refine hK.out _ _ HT.out ?_
      clear hK K
      try simp only [Act.put, List.setIfInBounds_toArray, List.set_cons_zero, List.set_cons_succ]
      refine wa_done (by decide +kernel) ?_
      obtain ⟨ac0, ac1, ac2⟩ := HaC.out _ HT.out; obtain ⟨bc0, bc1, bc2⟩ := HbC.out _ HT.out; obtain ⟨cc0, cc1, cc2⟩ := HcC.out _ HT.out
      have hpe := HPE.out
      have hg60 : Try.prog.eqGuardType Try.prog.depth 23 = false := by kernel_rfl
      go_wp2_with fail
      refine (C3.out _).mono ?_
      rintro e wn ⟨rfl, hb⟩
      have HT := hid (below_t HT.out hb)
      clear hb
      clear ac0 ac1 ac2 bc0 bc1 bc2 cc0 cc1 cc2
      obtain ⟨ac0, ac1, ac2⟩ := HaC.out _ HT.out; obtain ⟨bc0, bc1, bc2⟩ := HbC.out _ HT.out; obtain ⟨cc0, cc1, cc2⟩ := HcC.out _ HT.out
      have hz := HZ0.out
      go_wp2
      all_goals (go_ret; exact ⟨rfl, below_t HZ.out HT.out⟩)
    · have HZ0 := hid hzz
      have HY0 := hid (show y ≤ 0 from htr (by omega) (by omega))
      clear htr hrc hrd hzz
      go_enter Try.func5, Try.ntmps5
      go_upto_region 1 with fail
      obtain ⟨Z, hZ⟩ : ∃ Z, Z = (((w.alloc (.cells #[.int .i64 a0, .int .i64 a1, .int .i64 a2] 23)).alloc (.cells #[.int .i64 b0, .int .i64 b1, .int .i64 b2] 23)).alloc (.cells #[.int .i64 c0, .int .i64 c1, .int .i64 c2] 23)) := ⟨_, rfl⟩
      have HZ := hid (show Below w.heap.size w Z from by rw [hZ]; exact (((Below.refl _ w).alloc (Nat.le_refl _) _).alloc (by simp) _).alloc (by simp; omega) _)
      have ba : Blk Z (w.heap.size) 23 (kc (a0, a1, a2)) := by
        have h := Blk.new w 23 (kc (a0, a1, a2))
        rw [hZ]; exact ((h.alloc _).alloc _)
      have HaC := hid (fun (W : World) (hW : Below Z.heap.size Z W) => show At3 W (w.heap.size) 0 (a0, a1, a2) from ⟨(ba.below hW ba.lt).cell 0 _ rfl, (ba.below hW ba.lt).cell 1 _ rfl, (ba.below hW ba.lt).cell 2 _ rfl⟩)
      have bb : Blk Z (w.heap.size + 1) 23 (kc (b0, b1, b2)) := by
        have h := Blk.new (w.alloc (.cells #[.int .i64 a0, .int .i64 a1, .int .i64 a2] 23)) 23 (kc (b0, b1, b2))
        rw [World.size_alloc] at h
        rw [hZ]; exact (h.alloc _)
      have HbC := hid (fun (W : World) (hW : Below Z.heap.size Z W) => show At3 W (w.heap.size + 1) 0 (b0, b1, b2) from ⟨(bb.below hW bb.lt).cell 0 _ rfl, (bb.below hW bb.lt).cell 1 _ rfl, (bb.below hW bb.lt).cell 2 _ rfl⟩)
      have bc : Blk Z (w.heap.size + 1 + 1) 23 (kc (c0, c1, c2)) := by
        have h := Blk.new ((w.alloc (.cells #[.int .i64 a0, .int .i64 a1, .int .i64 a2] 23)).alloc (.cells #[.int .i64 b0, .int .i64 b1, .int .i64 b2] 23)) 23 (kc (c0, c1, c2))
        rw [World.size_alloc, World.size_alloc] at h
        rw [hZ]; exact h
      have HcC := hid (fun (W : World) (hW : Below Z.heap.size Z W) => show At3 W (w.heap.size + 1 + 1) 0 (c0, c1, c2) from ⟨(bc.below hW bc.lt).cell 0 _ rfl, (bc.below hW bc.lt).cell 1 _ rfl, (bc.below hW bc.lt).cell 2 _ rfl⟩)
      have HT := hid (Below.refl Z.heap.size Z)
      rw [← hZ]
      clear hZ ba bb bc
      go_wp2_with fail
      refine (SA.out _).mono ?_
      rintro e wn ⟨rfl, hb⟩
      have HT := hid (below_t HT.out hb)
      clear hb
      go_upto_region 3 with fail
      have HT := hid HT.out.drew
      refine wa_start (S := fun W => Below Z.heap.size Z W) (by kernel_rfl) HT.out ?_
      refine wa_tk 0 (some 11) (KV (a0, a1, a2)) rfl (by kernel_rfl) rfl rfl HT.out (fun w h0 => by obtain ⟨k0, k1, k2⟩ := HaC.out _ h0; go_simp) ?_
      try simp only [Act.put, List.setIfInBounds_toArray, List.set_cons_zero, List.set_cons_succ]
      refine wa_tk 1 (some 12) (KV (b0, b1, b2)) rfl (by kernel_rfl) rfl rfl HT.out (fun w h0 => by obtain ⟨k0, k1, k2⟩ := HbC.out _ h0; go_simp) ?_
      try simp only [Act.put, List.setIfInBounds_toArray, List.set_cons_zero, List.set_cons_succ]
      refine wa_tk 3 (some 14) (KV (b0, b1, b2)) rfl (by kernel_rfl) rfl rfl HT.out (fun w h0 => by obtain ⟨k0, k1, k2⟩ := HbC.out _ h0; go_simp) ?_
      try simp only [Act.put, List.setIfInBounds_toArray, List.set_cons_zero, List.set_cons_succ]
      refine wa_tk 4 (some 15) (KV (a0, a1, a2)) rfl (by kernel_rfl) rfl rfl HT.out (fun w h0 => by obtain ⟨k0, k1, k2⟩ := HaC.out _ h0; go_simp) ?_
      try simp only [Act.put, List.setIfInBounds_toArray, List.set_cons_zero, List.set_cons_succ]
      refine wa_branch [2] (by decide +kernel) rfl ?_
      refine ar_op 2 rfl rfl (fun K hK => ?_) ar_nil
      unfold Oper.wp
      go_simp
      go_at_call 17
      refine (C1.out _).mono ?_
      rintro e wz ⟨rfl, hbz⟩
      have HT := hid (below_t HT.out hbz)
      clear hbz
      go_simp
      refine hK.out _ _ HT.out ?_
      clear hK K
      try simp only [Act.put, List.setIfInBounds_toArray, List.set_cons_zero, List.set_cons_succ]
      refine wa_branch [5] (by decide +kernel) rfl ?_
      refine ar_op 5 rfl rfl (fun K hK => ?_) ar_nil
      unfold Oper.wp
      go_simp
      go_at_call 17
      refine (C2.out _).mono ?_
      rintro e wz ⟨rfl, hbz⟩
      have HT := hid (below_t HT.out hbz)
      clear hbz
      go_simp
      refine hK.out _ _ HT.out ?_
      clear hK K
      try simp only [Act.put, List.setIfInBounds_toArray, List.set_cons_zero, List.set_cons_succ]
      refine wa_branch [6] (by decide +kernel) rfl ?_
      refine ar_op 6 rfl rfl (fun K hK => ?_) ar_nil
      unfold Oper.wp
      go_simp
      refine hK.out _ _ HT.out ?_
      clear hK K
      try simp only [Act.put, List.setIfInBounds_toArray, List.set_cons_zero, List.set_cons_succ]
      refine wa_branch [7] (by decide +kernel) rfl ?_
      refine ar_op 7 rfl rfl (fun K hK => ?_) ar_nil
      unfold Oper.wp
      go_simp
      refine hK.out _ _ HT.out ?_
      clear hK K
      try simp only [Act.put, List.setIfInBounds_toArray, List.set_cons_zero, List.set_cons_succ]
      refine wa_done (by decide +kernel) ?_
      obtain ⟨ac0, ac1, ac2⟩ := HaC.out _ HT.out; obtain ⟨bc0, bc1, bc2⟩ := HbC.out _ HT.out; obtain ⟨cc0, cc1, cc2⟩ := HcC.out _ HT.out
      have hpe := HPE.out
      have hg60 : Try.prog.eqGuardType Try.prog.depth 23 = false := by kernel_rfl
      go_wp2_with fail
      refine (C3.out _).mono ?_
      rintro e wn ⟨rfl, hb⟩
      have HT := hid (below_t HT.out hb)
      clear hb
      clear ac0 ac1 ac2 bc0 bc1 bc2 cc0 cc1 cc2
      obtain ⟨ac0, ac1, ac2⟩ := HaC.out _ HT.out; obtain ⟨bc0, bc1, bc2⟩ := HbC.out _ HT.out; obtain ⟨cc0, cc1, cc2⟩ := HcC.out _ HT.out
      have hz := HZ0.out
      go_wp2_with fail
      refine (C4.out _).mono ?_
      rintro e wn ⟨rfl, hb⟩
      have HT := hid (below_t HT.out hb)
      clear hb
      have hy := HY0.out
      go_wp2
      all_goals (go_ret; exact ⟨rfl, below_t HZ.out HT.out⟩)
  · rw [h] at C1 C2
    rw [show decide (a = b) = false from decide_eq_false (fun e => by rw [hzi.2 e] at h; omega)] at HPE
    clear hzi h htr hrc hrd C3 C4
    obtain ⟨a0, a1, a2⟩ := a; obtain ⟨b0, b1, b2⟩ := b; obtain ⟨c0, c1, c2⟩ := c
    go_enter Try.func5, Try.ntmps5
    go_upto_region 1 with fail
    obtain ⟨Z, hZ⟩ : ∃ Z, Z = (((w.alloc (.cells #[.int .i64 a0, .int .i64 a1, .int .i64 a2] 23)).alloc (.cells #[.int .i64 b0, .int .i64 b1, .int .i64 b2] 23)).alloc (.cells #[.int .i64 c0, .int .i64 c1, .int .i64 c2] 23)) := ⟨_, rfl⟩
    have HZ := hid (show Below w.heap.size w Z from by rw [hZ]; exact (((Below.refl _ w).alloc (Nat.le_refl _) _).alloc (by simp) _).alloc (by simp; omega) _)
    have ba : Blk Z (w.heap.size) 23 (kc (a0, a1, a2)) := by
      have h := Blk.new w 23 (kc (a0, a1, a2))
      rw [hZ]; exact ((h.alloc _).alloc _)
    have HaC := hid (fun (W : World) (hW : Below Z.heap.size Z W) => show At3 W (w.heap.size) 0 (a0, a1, a2) from ⟨(ba.below hW ba.lt).cell 0 _ rfl, (ba.below hW ba.lt).cell 1 _ rfl, (ba.below hW ba.lt).cell 2 _ rfl⟩)
    have bb : Blk Z (w.heap.size + 1) 23 (kc (b0, b1, b2)) := by
      have h := Blk.new (w.alloc (.cells #[.int .i64 a0, .int .i64 a1, .int .i64 a2] 23)) 23 (kc (b0, b1, b2))
      rw [World.size_alloc] at h
      rw [hZ]; exact (h.alloc _)
    have HbC := hid (fun (W : World) (hW : Below Z.heap.size Z W) => show At3 W (w.heap.size + 1) 0 (b0, b1, b2) from ⟨(bb.below hW bb.lt).cell 0 _ rfl, (bb.below hW bb.lt).cell 1 _ rfl, (bb.below hW bb.lt).cell 2 _ rfl⟩)
    have bc : Blk Z (w.heap.size + 1 + 1) 23 (kc (c0, c1, c2)) := by
      have h := Blk.new ((w.alloc (.cells #[.int .i64 a0, .int .i64 a1, .int .i64 a2] 23)).alloc (.cells #[.int .i64 b0, .int .i64 b1, .int .i64 b2] 23)) 23 (kc (c0, c1, c2))
      rw [World.size_alloc, World.size_alloc] at h
      rw [hZ]; exact h
    have HcC := hid (fun (W : World) (hW : Below Z.heap.size Z W) => show At3 W (w.heap.size + 1 + 1) 0 (c0, c1, c2) from ⟨(bc.below hW bc.lt).cell 0 _ rfl, (bc.below hW bc.lt).cell 1 _ rfl, (bc.below hW bc.lt).cell 2 _ rfl⟩)
    have HT := hid (Below.refl Z.heap.size Z)
    rw [← hZ]
    clear hZ ba bb bc
    go_wp2_with fail
    refine (SA.out _).mono ?_
    rintro e wn ⟨rfl, hb⟩
    have HT := hid (below_t HT.out hb)
    clear hb
    go_upto_region 3 with fail
    have HT := hid HT.out.drew
    refine wa_start (S := fun W => Below Z.heap.size Z W) (by kernel_rfl) HT.out ?_
    refine wa_tk 0 (some 11) (KV (a0, a1, a2)) rfl (by kernel_rfl) rfl rfl HT.out (fun w h0 => by obtain ⟨k0, k1, k2⟩ := HaC.out _ h0; go_simp) ?_
    try simp only [Act.put, List.setIfInBounds_toArray, List.set_cons_zero, List.set_cons_succ]
    refine wa_tk 1 (some 12) (KV (b0, b1, b2)) rfl (by kernel_rfl) rfl rfl HT.out (fun w h0 => by obtain ⟨k0, k1, k2⟩ := HbC.out _ h0; go_simp) ?_
    try simp only [Act.put, List.setIfInBounds_toArray, List.set_cons_zero, List.set_cons_succ]
    refine wa_tk 3 (some 14) (KV (b0, b1, b2)) rfl (by kernel_rfl) rfl rfl HT.out (fun w h0 => by obtain ⟨k0, k1, k2⟩ := HbC.out _ h0; go_simp) ?_
    try simp only [Act.put, List.setIfInBounds_toArray, List.set_cons_zero, List.set_cons_succ]
    refine wa_tk 4 (some 15) (KV (a0, a1, a2)) rfl (by kernel_rfl) rfl rfl HT.out (fun w h0 => by obtain ⟨k0, k1, k2⟩ := HaC.out _ h0; go_simp) ?_
    try simp only [Act.put, List.setIfInBounds_toArray, List.set_cons_zero, List.set_cons_succ]
    refine wa_branch [2] (by decide +kernel) rfl ?_
    refine ar_op 2 rfl rfl (fun K hK => ?_) ar_nil
    unfold Oper.wp
    go_simp
    go_at_call 17
    refine (C1.out _).mono ?_
    rintro e wz ⟨rfl, hbz⟩
    have HT := hid (below_t HT.out hbz)
    clear hbz
    go_simp
    refine hK.out _ _ HT.out ?_
    clear hK K
    try simp only [Act.put, List.setIfInBounds_toArray, List.set_cons_zero, List.set_cons_succ]
    refine wa_branch [5] (by decide +kernel) rfl ?_
    refine ar_op 5 rfl rfl (fun K hK => ?_) ar_nil
    unfold Oper.wp
    go_simp
    go_at_call 17
    refine (C2.out _).mono ?_
    rintro e wz ⟨rfl, hbz⟩
    have HT := hid (below_t HT.out hbz)
    clear hbz
    go_simp
    refine hK.out _ _ HT.out ?_
    clear hK K
    try simp only [Act.put, List.setIfInBounds_toArray, List.set_cons_zero, List.set_cons_succ]
    refine wa_branch [6] (by decide +kernel) rfl ?_
    refine ar_op 6 rfl rfl (fun K hK => ?_) ar_nil
    unfold Oper.wp
    go_simp
    refine hK.out _ _ HT.out ?_
    clear hK K
    try simp only [Act.put, List.setIfInBounds_toArray, List.set_cons_zero, List.set_cons_succ]
    refine wa_branch [7] (by decide +kernel) rfl ?_
    refine ar_op 7 rfl rfl (fun K hK => ?_) ar_nil
    unfold Oper.wp
    go_simp
    refine hK.out _ _ HT.out ?_
    clear hK K
    try simp only [Act.put, List.setIfInBounds_toArray, List.set_cons_zero, List.set_cons_succ]
    refine wa_done (by decide +kernel) ?_
    obtain ⟨ac0, ac1, ac2⟩ := HaC.out _ HT.out; obtain ⟨bc0, bc1, bc2⟩ := HbC.out _ HT.out; obtain ⟨cc0, cc1, cc2⟩ := HcC.out _ HT.out
    have hpe := HPE.out
    have hg60 : Try.prog.eqGuardType Try.prog.depth 23 = false := by kernel_rfl
    go_wp2
    all_goals (go_ret; exact ⟨rfl, below_t HZ.out HT.out⟩)
end Go.Proofs.Ytlkcnnamnjnmbaa

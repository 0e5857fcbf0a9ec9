/- The law Known. -/
import Derived.Test.YtlkcnnamnjnmbaaSane
namespace Go.Proofs.Ytlkcnnamnjnmbaa
open Go.RowKit Go
set_option linter.unusedVariables false
set_option linter.unusedSimpArgs false
set_option maxRecDepth 100000 in
set_option maxHeartbeats 8000000 in
theorem known_law (a b : St) (w : World) : Calls Try.prog 6 #[KV a, KV b] w fun e w' => e = .returned (.bool true) ∧ Below w.heap.size w w' := by
  have SA := hid sane_any
  have KA := hid (fun W => Known_any a W); have KB := hid (fun W => Known_any b W)
  have CA := hid (fun W => Check_any a W); have CB := hid (fun W => Check_any b W)
  have HE := hid (chk_eq a); have HF := hid (chk_eq b)
  have HKA := hid (show S8.ok a → S8.knw a = 8 * a.1 + a.2.1 from fun h => if_pos h); have HKB := hid (show S8.ok b → S8.knw b = 8 * b.1 + b.2.1 from fun h => if_pos h)
  have HKA2 := hid (show ¬ S8.ok a → S8.knw a = 0 from fun h => if_neg h); have HKB2 := hid (show ¬ S8.ok b → S8.knw b = 0 from fun h => if_neg h)
  have HSK := hid (show S8.ok a → _ from fun h => S8.sof_known (s := a) h)
  have HLT := hid (show S8.ok a → S8.ok b → _ from fun h1 h2 => S8.known_lt h1 h2)
  have HEQ := hid (show S8.ok a → S8.ok b → _ from fun h1 h2 => S8.known_eq h1 h2)
  have CP := hid (fun W => Compare_any a b W)
  have HCP := hid (S8.lt_tri a b); have HC1 := hid (show S8.lt a b → S8.cp a b = -1 from S8.cp_lt); have HC2 := hid (show S8.lt b a → S8.cp a b = 1 from S8.cp_gt)
  obtain ⟨a0, a1, a2⟩ := a
  obtain ⟨b0, b1, b2⟩ := b
  obtain ⟨m, hm⟩ : ∃ m, m = S8.knw (a0, a1, a2) := ⟨_, rfl⟩
  obtain ⟨n, hn⟩ : ∃ m, m = S8.knw (b0, b1, b2) := ⟨_, rfl⟩
  obtain ⟨e, he⟩ : ∃ m, m = S8.chk (a0, a1, a2) := ⟨_, rfl⟩
  obtain ⟨f, hf⟩ : ∃ m, m = S8.chk (b0, b1, b2) := ⟨_, rfl⟩
  rw [← hm] at KA HKA HKA2; rw [← hn] at KB HKB HKB2
  rw [← he] at KA CA HE; rw [← hf] at KB CB HF
  simp only at HKA HKB HSK HLT HEQ
  clear hm hn he hf
  rcases HE.out with ⟨rfl, hoa⟩ | ⟨rfl, hoa⟩
  · rcases HF.out with ⟨rfl, hob⟩ | ⟨rfl, hob⟩
    · have hk1 := HKA.out hoa; have hk2 := HKB.out hob
      obtain ⟨s1, s2, s3⟩ := HSK.out hoa
      have hlt := HLT.out hoa hob
      have heq := HEQ.out hoa hob
      rw [← hk1] at s1 s2 s3 hlt heq
      rw [← hk2] at hlt heq
      have hbd : 8 ≤ m ∧ m < 16777216 := by unfold S8.ok at hoa; simp only at hoa; omega
      have OA := hid (fun W => Of_any m (by unfold I64; omega) W)
      rw [show S8.oft m = a0 by unfold S8.oft; rw [if_pos s1, s2], show S8.ofc m = a1 by unfold S8.ofc; rw [if_pos s1, s3], show S8.ofe m = 0 from if_pos s1] at OA
      obtain ⟨hb1, hb2⟩ := hbd
      have HMN := hid (show ((a0, a1, a2) : St) = (b0, b1, b2) → m = n from fun h => by cases h; rw [hk1, hk2])
      have hb3 : ¬ m < 8 := by omega
      have hb4 : ¬ 16777216 ≤ m := by omega
      clear HKA HKB HKA2 HKB2 HSK HLT HEQ HE HF CA CB hoa hob hk1 hk2 s1 s2 s3
      by_cases hmn : m = n
      · obtain ⟨q1, q2⟩ := heq hmn
        subst hmn q1 q2
        clear heq hlt HCP HC1 HC2 CP
        go_enter Try.func6, Try.ntmps6
        go_upto_region 1 with fail
        obtain ⟨Z, hZ⟩ : ∃ Z, Z = ((w.alloc (.cells #[.int .i64 a0, .int .i64 a1, .int .i64 a2] 23)).alloc (.cells #[.int .i64 a0, .int .i64 a1, .int .i64 b2] 23)) := ⟨_, rfl⟩
        have HZ := hid (show Below w.heap.size w Z from by rw [hZ]; exact ((Below.refl _ w).alloc (Nat.le_refl _) _).alloc (by simp) _)
        have ba : Blk Z (w.heap.size) 23 (kc (a0, a1, a2)) := by
          have h := Blk.new w 23 (kc (a0, a1, a2))
          rw [hZ]; exact h.alloc _
        have HaC := hid (fun (W : World) (hW : Below Z.heap.size Z W) => show At3 W (w.heap.size) 0 (a0, a1, a2) from ⟨(ba.below hW ba.lt).cell 0 _ rfl, (ba.below hW ba.lt).cell 1 _ rfl, (ba.below hW ba.lt).cell 2 _ rfl⟩)
        have bb : Blk Z (w.heap.size + 1) 23 (kc (a0, a1, b2)) := by
          have h := Blk.new (w.alloc (.cells #[.int .i64 a0, .int .i64 a1, .int .i64 a2] 23)) 23 (kc (a0, a1, b2))
          rw [World.size_alloc] at h
          rw [hZ]; exact h
        have HbC := hid (fun (W : World) (hW : Below Z.heap.size Z W) => show At3 W (w.heap.size + 1) 0 (a0, a1, b2) from ⟨(bb.below hW bb.lt).cell 0 _ rfl, (bb.below hW bb.lt).cell 1 _ rfl, (bb.below hW bb.lt).cell 2 _ rfl⟩)
        have HT := hid (Below.refl Z.heap.size Z)
        rw [← hZ]
        clear hZ ba bb
        go_wp2_with fail
        refine (SA.out _).mono ?_
        rintro e wn ⟨rfl, hb⟩
        have HT := hid (below_t HT.out hb)
        clear hb
        obtain ⟨ac0, ac1, ac2⟩ := HaC.out _ HT.out; obtain ⟨bc0, bc1, bc2⟩ := HbC.out _ HT.out
        go_wp2_with fail
        refine (KA.out _).mono ?_
        rintro e wn ⟨rfl, hb⟩
        have HT := hid (below_t HT.out hb)
        clear hb
        clear ac0 ac1 ac2 bc0 bc1 bc2
        obtain ⟨ac0, ac1, ac2⟩ := HaC.out _ HT.out; obtain ⟨bc0, bc1, bc2⟩ := HbC.out _ HT.out
        go_wp2_with fail
        refine (KB.out _).mono ?_
        rintro e wn ⟨rfl, hb⟩
        have HT := hid (below_t HT.out hb)
        clear hb
        clear ac0 ac1 ac2 bc0 bc1 bc2
        obtain ⟨ac0, ac1, ac2⟩ := HaC.out _ HT.out; obtain ⟨bc0, bc1, bc2⟩ := HbC.out _ HT.out
        go_wp2_with fail
        refine (OA.out _).mono ?_
        rintro e wn ⟨rfl, hb⟩
        have HT := hid (below_t HT.out hb)
        clear hb
        clear ac0 ac1 ac2 bc0 bc1 bc2
        obtain ⟨ac0, ac1, ac2⟩ := HaC.out _ HT.out; obtain ⟨bc0, bc1, bc2⟩ := HbC.out _ HT.out
        go_wp2
        go_ret
        exact ⟨rfl, below_t HZ.out HT.out⟩
      · replace hlt := hlt hmn
        clear heq
        have hd1 : (m == n) = false := by simpa using hmn
        by_cases hl : m < n
        · have hcp := HC1.out (hlt.1 hl)
          rw [hcp] at CP
          clear HCP HC1 HC2 hlt hcp
          go_enter Try.func6, Try.ntmps6
          go_upto_region 1 with fail
          obtain ⟨Z, hZ⟩ : ∃ Z, Z = ((w.alloc (.cells #[.int .i64 a0, .int .i64 a1, .int .i64 a2] 23)).alloc (.cells #[.int .i64 b0, .int .i64 b1, .int .i64 b2] 23)) := ⟨_, rfl⟩
          have HZ := hid (show Below w.heap.size w Z from by rw [hZ]; exact ((Below.refl _ w).alloc (Nat.le_refl _) _).alloc (by simp) _)
          have ba : Blk Z (w.heap.size) 23 (kc (a0, a1, a2)) := by
            have h := Blk.new w 23 (kc (a0, a1, a2))
            rw [hZ]; exact h.alloc _
          have HaC := hid (fun (W : World) (hW : Below Z.heap.size Z W) => show At3 W (w.heap.size) 0 (a0, a1, a2) from ⟨(ba.below hW ba.lt).cell 0 _ rfl, (ba.below hW ba.lt).cell 1 _ rfl, (ba.below hW ba.lt).cell 2 _ rfl⟩)
          have bb : Blk Z (w.heap.size + 1) 23 (kc (b0, b1, b2)) := by
            have h := Blk.new (w.alloc (.cells #[.int .i64 a0, .int .i64 a1, .int .i64 a2] 23)) 23 (kc (b0, b1, b2))
            rw [World.size_alloc] at h
            rw [hZ]; exact h
          have HbC := hid (fun (W : World) (hW : Below Z.heap.size Z W) => show At3 W (w.heap.size + 1) 0 (b0, b1, b2) from ⟨(bb.below hW bb.lt).cell 0 _ rfl, (bb.below hW bb.lt).cell 1 _ rfl, (bb.below hW bb.lt).cell 2 _ rfl⟩)
          have HT := hid (Below.refl Z.heap.size Z)
          rw [← hZ]
          clear hZ ba bb
          go_wp2_with fail
          refine (SA.out _).mono ?_
          rintro e wn ⟨rfl, hb⟩
          have HT := hid (below_t HT.out hb)
          clear hb
          obtain ⟨ac0, ac1, ac2⟩ := HaC.out _ HT.out; obtain ⟨bc0, bc1, bc2⟩ := HbC.out _ HT.out
          go_wp2_with fail
          refine (KA.out _).mono ?_
          rintro e wn ⟨rfl, hb⟩
          have HT := hid (below_t HT.out hb)
          clear hb
          clear ac0 ac1 ac2 bc0 bc1 bc2
          obtain ⟨ac0, ac1, ac2⟩ := HaC.out _ HT.out; obtain ⟨bc0, bc1, bc2⟩ := HbC.out _ HT.out
          go_wp2_with fail
          refine (KB.out _).mono ?_
          rintro e wn ⟨rfl, hb⟩
          have HT := hid (below_t HT.out hb)
          clear hb
          clear ac0 ac1 ac2 bc0 bc1 bc2
          obtain ⟨ac0, ac1, ac2⟩ := HaC.out _ HT.out; obtain ⟨bc0, bc1, bc2⟩ := HbC.out _ HT.out
          go_wp2_with fail
          refine (OA.out _).mono ?_
          rintro e wn ⟨rfl, hb⟩
          have HT := hid (below_t HT.out hb)
          clear hb
          clear ac0 ac1 ac2 bc0 bc1 bc2
          obtain ⟨ac0, ac1, ac2⟩ := HaC.out _ HT.out; obtain ⟨bc0, bc1, bc2⟩ := HbC.out _ HT.out
          go_wp2_with fail
          refine (CP.out _).mono ?_
          rintro e wn ⟨rfl, hb⟩
          have HT := hid (below_t HT.out hb)
          clear hb
          go_wp2
          go_ret
          exact ⟨rfl, below_t HZ.out HT.out⟩
        · have hdl : decide (m < n) = false := decide_eq_false hl
          have hcp : S8.cp (a0, a1, a2) (b0, b1, b2) = 1 := by
            rcases HCP.out with h | h | h
            · exact absurd (hlt.2 h) hl
            · exact absurd (HMN.out h) hmn
            · exact HC2.out h
          rw [hcp] at CP
          clear HCP HC1 HC2 hlt hcp
          go_enter Try.func6, Try.ntmps6
          go_upto_region 1 with fail
          obtain ⟨Z, hZ⟩ : ∃ Z, Z = ((w.alloc (.cells #[.int .i64 a0, .int .i64 a1, .int .i64 a2] 23)).alloc (.cells #[.int .i64 b0, .int .i64 b1, .int .i64 b2] 23)) := ⟨_, rfl⟩
          have HZ := hid (show Below w.heap.size w Z from by rw [hZ]; exact ((Below.refl _ w).alloc (Nat.le_refl _) _).alloc (by simp) _)
          have ba : Blk Z (w.heap.size) 23 (kc (a0, a1, a2)) := by
            have h := Blk.new w 23 (kc (a0, a1, a2))
            rw [hZ]; exact h.alloc _
          have HaC := hid (fun (W : World) (hW : Below Z.heap.size Z W) => show At3 W (w.heap.size) 0 (a0, a1, a2) from ⟨(ba.below hW ba.lt).cell 0 _ rfl, (ba.below hW ba.lt).cell 1 _ rfl, (ba.below hW ba.lt).cell 2 _ rfl⟩)
          have bb : Blk Z (w.heap.size + 1) 23 (kc (b0, b1, b2)) := by
            have h := Blk.new (w.alloc (.cells #[.int .i64 a0, .int .i64 a1, .int .i64 a2] 23)) 23 (kc (b0, b1, b2))
            rw [World.size_alloc] at h
            rw [hZ]; exact h
          have HbC := hid (fun (W : World) (hW : Below Z.heap.size Z W) => show At3 W (w.heap.size + 1) 0 (b0, b1, b2) from ⟨(bb.below hW bb.lt).cell 0 _ rfl, (bb.below hW bb.lt).cell 1 _ rfl, (bb.below hW bb.lt).cell 2 _ rfl⟩)
          have HT := hid (Below.refl Z.heap.size Z)
          rw [← hZ]
          clear hZ ba bb
          go_wp2_with fail
          refine (SA.out _).mono ?_
          rintro e wn ⟨rfl, hb⟩
          have HT := hid (below_t HT.out hb)
          clear hb
          obtain ⟨ac0, ac1, ac2⟩ := HaC.out _ HT.out; obtain ⟨bc0, bc1, bc2⟩ := HbC.out _ HT.out
          go_wp2_with fail
          refine (KA.out _).mono ?_
          rintro e wn ⟨rfl, hb⟩
          have HT := hid (below_t HT.out hb)
          clear hb
          clear ac0 ac1 ac2 bc0 bc1 bc2
          obtain ⟨ac0, ac1, ac2⟩ := HaC.out _ HT.out; obtain ⟨bc0, bc1, bc2⟩ := HbC.out _ HT.out
          go_wp2_with fail
          refine (KB.out _).mono ?_
          rintro e wn ⟨rfl, hb⟩
          have HT := hid (below_t HT.out hb)
          clear hb
          clear ac0 ac1 ac2 bc0 bc1 bc2
          obtain ⟨ac0, ac1, ac2⟩ := HaC.out _ HT.out; obtain ⟨bc0, bc1, bc2⟩ := HbC.out _ HT.out
          go_wp2_with fail
          refine (OA.out _).mono ?_
          rintro e wn ⟨rfl, hb⟩
          have HT := hid (below_t HT.out hb)
          clear hb
          clear ac0 ac1 ac2 bc0 bc1 bc2
          obtain ⟨ac0, ac1, ac2⟩ := HaC.out _ HT.out; obtain ⟨bc0, bc1, bc2⟩ := HbC.out _ HT.out
          go_wp2_with fail
          refine (CP.out _).mono ?_
          rintro e wn ⟨rfl, hb⟩
          have HT := hid (below_t HT.out hb)
          clear hb
          go_wp2
          go_ret
          exact ⟨rfl, below_t HZ.out HT.out⟩
    · have hk2 := HKB2.out hob
      subst hk2
      clear HKA HKB HKA2 HKB2 HSK HLT HEQ HE HF hoa hob HCP HC1 HC2 CP
      go_enter Try.func6, Try.ntmps6
      go_upto_region 1 with fail
      obtain ⟨Z, hZ⟩ : ∃ Z, Z = ((w.alloc (.cells #[.int .i64 a0, .int .i64 a1, .int .i64 a2] 23)).alloc (.cells #[.int .i64 b0, .int .i64 b1, .int .i64 b2] 23)) := ⟨_, rfl⟩
      have HZ := hid (show Below w.heap.size w Z from by rw [hZ]; exact ((Below.refl _ w).alloc (Nat.le_refl _) _).alloc (by simp) _)
      have ba : Blk Z (w.heap.size) 23 (kc (a0, a1, a2)) := by
        have h := Blk.new w 23 (kc (a0, a1, a2))
        rw [hZ]; exact h.alloc _
      have HaC := hid (fun (W : World) (hW : Below Z.heap.size Z W) => show At3 W (w.heap.size) 0 (a0, a1, a2) from ⟨(ba.below hW ba.lt).cell 0 _ rfl, (ba.below hW ba.lt).cell 1 _ rfl, (ba.below hW ba.lt).cell 2 _ rfl⟩)
      have bb : Blk Z (w.heap.size + 1) 23 (kc (b0, b1, b2)) := by
        have h := Blk.new (w.alloc (.cells #[.int .i64 a0, .int .i64 a1, .int .i64 a2] 23)) 23 (kc (b0, b1, b2))
        rw [World.size_alloc] at h
        rw [hZ]; exact h
      have HbC := hid (fun (W : World) (hW : Below Z.heap.size Z W) => show At3 W (w.heap.size + 1) 0 (b0, b1, b2) from ⟨(bb.below hW bb.lt).cell 0 _ rfl, (bb.below hW bb.lt).cell 1 _ rfl, (bb.below hW bb.lt).cell 2 _ rfl⟩)
      have HT := hid (Below.refl Z.heap.size Z)
      rw [← hZ]
      clear hZ ba bb
      go_wp2_with fail
      refine (SA.out _).mono ?_
      rintro e wn ⟨rfl, hb⟩
      have HT := hid (below_t HT.out hb)
      clear hb
      obtain ⟨ac0, ac1, ac2⟩ := HaC.out _ HT.out; obtain ⟨bc0, bc1, bc2⟩ := HbC.out _ HT.out
      go_wp2_with fail
      refine (KA.out _).mono ?_
      rintro e wn ⟨rfl, hb⟩
      have HT := hid (below_t HT.out hb)
      clear hb
      clear ac0 ac1 ac2 bc0 bc1 bc2
      obtain ⟨ac0, ac1, ac2⟩ := HaC.out _ HT.out; obtain ⟨bc0, bc1, bc2⟩ := HbC.out _ HT.out
      go_wp2_with fail
      refine (KB.out _).mono ?_
      rintro e wn ⟨rfl, hb⟩
      have HT := hid (below_t HT.out hb)
      clear hb
      clear ac0 ac1 ac2 bc0 bc1 bc2
      obtain ⟨ac0, ac1, ac2⟩ := HaC.out _ HT.out; obtain ⟨bc0, bc1, bc2⟩ := HbC.out _ HT.out
      go_wp2_with fail
      refine (CA.out _).mono ?_
      rintro e wn ⟨rfl, hb⟩
      have HT := hid (below_t HT.out hb)
      clear hb
      clear ac0 ac1 ac2 bc0 bc1 bc2
      obtain ⟨ac0, ac1, ac2⟩ := HaC.out _ HT.out; obtain ⟨bc0, bc1, bc2⟩ := HbC.out _ HT.out
      go_wp2_with fail
      refine (CB.out _).mono ?_
      rintro e wn ⟨rfl, hb⟩
      have HT := hid (below_t HT.out hb)
      clear hb
      go_wp2
      go_ret
      exact ⟨rfl, below_t HZ.out HT.out⟩
  · have hk1 := HKA2.out hoa
    subst hk1
    clear HKA HKB HKA2 HKB2 HSK HLT HEQ HE HF hoa HCP HC1 HC2 CP CB
    go_enter Try.func6, Try.ntmps6
    go_upto_region 1 with fail
    obtain ⟨Z, hZ⟩ : ∃ Z, Z = ((w.alloc (.cells #[.int .i64 a0, .int .i64 a1, .int .i64 a2] 23)).alloc (.cells #[.int .i64 b0, .int .i64 b1, .int .i64 b2] 23)) := ⟨_, rfl⟩
    have HZ := hid (show Below w.heap.size w Z from by rw [hZ]; exact ((Below.refl _ w).alloc (Nat.le_refl _) _).alloc (by simp) _)
    have ba : Blk Z (w.heap.size) 23 (kc (a0, a1, a2)) := by
      have h := Blk.new w 23 (kc (a0, a1, a2))
      rw [hZ]; exact h.alloc _
    have HaC := hid (fun (W : World) (hW : Below Z.heap.size Z W) => show At3 W (w.heap.size) 0 (a0, a1, a2) from ⟨(ba.below hW ba.lt).cell 0 _ rfl, (ba.below hW ba.lt).cell 1 _ rfl, (ba.below hW ba.lt).cell 2 _ rfl⟩)
    have bb : Blk Z (w.heap.size + 1) 23 (kc (b0, b1, b2)) := by
      have h := Blk.new (w.alloc (.cells #[.int .i64 a0, .int .i64 a1, .int .i64 a2] 23)) 23 (kc (b0, b1, b2))
      rw [World.size_alloc] at h
      rw [hZ]; exact h
    have HbC := hid (fun (W : World) (hW : Below Z.heap.size Z W) => show At3 W (w.heap.size + 1) 0 (b0, b1, b2) from ⟨(bb.below hW bb.lt).cell 0 _ rfl, (bb.below hW bb.lt).cell 1 _ rfl, (bb.below hW bb.lt).cell 2 _ rfl⟩)
    have HT := hid (Below.refl Z.heap.size Z)
    rw [← hZ]
    clear hZ ba bb
    go_wp2_with fail
    refine (SA.out _).mono ?_
    rintro e wn ⟨rfl, hb⟩
    have HT := hid (below_t HT.out hb)
    clear hb
    obtain ⟨ac0, ac1, ac2⟩ := HaC.out _ HT.out; obtain ⟨bc0, bc1, bc2⟩ := HbC.out _ HT.out
    go_wp2_with fail
    refine (KA.out _).mono ?_
    rintro e wn ⟨rfl, hb⟩
    have HT := hid (below_t HT.out hb)
    clear hb
    clear ac0 ac1 ac2 bc0 bc1 bc2
    obtain ⟨ac0, ac1, ac2⟩ := HaC.out _ HT.out; obtain ⟨bc0, bc1, bc2⟩ := HbC.out _ HT.out
    go_wp2_with fail
    refine (KB.out _).mono ?_
    rintro e wn ⟨rfl, hb⟩
    have HT := hid (below_t HT.out hb)
    clear hb
    clear ac0 ac1 ac2 bc0 bc1 bc2
    obtain ⟨ac0, ac1, ac2⟩ := HaC.out _ HT.out; obtain ⟨bc0, bc1, bc2⟩ := HbC.out _ HT.out
    go_wp2_with fail
    refine (CA.out _).mono ?_
    rintro e wn ⟨rfl, hb⟩
    have HT := hid (below_t HT.out hb)
    clear hb
    go_wp2
    go_ret
    exact ⟨rfl, below_t HZ.out HT.out⟩
end Go.Proofs.Ytlkcnnamnjnmbaa

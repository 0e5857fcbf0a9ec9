/- Contract: the reference's Check. -/
import Derived.Test.YtbejjindkcjecaaRefA
namespace Go.Proofs.Ytbejjindkcjecaa
open Go.RowKit Go
set_option linter.unusedVariables false
set_option linter.unusedSimpArgs false
set_option maxRecDepth 100000 in
set_option maxHeartbeats 8000000 in
theorem refCheck_any (v : Value) (l : List FA) (w : World) (hv : FS w v l) : Calls Try.prog 16 #[v] w fun e w' => e = .returned (.int .i64 (ckl l)) ∧ Below w.heap.size w w' := by
  obtain ⟨p, cap, rfl⟩ := hv.form
  have hr : FR p w.heap.size l w := hv.gr 8 fc_len (by omega)
  have hm := hv.len
  unfold maxLen at hm
  obtain ⟨n, hn⟩ : ∃ n, n = l.length := ⟨_, rfl⟩
  rw [← hn] at hm ⊢
  have HR := hid hr; have HN := hid hn
  clear hr hv hn
  have VA := hid refValid_any
  have OA := hid before_any
  go_enter Try.func16, Try.ntmps16
  go_wp2
  go_loopw [3] (fun i wr => ∃ k : Nat, k ≤ n ∧ i = .int .i64 k ∧ Below w.heap.size w wr ∧ Hid ((l.take k).all vld = true)) (fun i _ => n - (intOf i).toNat)
  case atStart => exact ⟨0, by omega, rfl, Below.refl _ _, hid (by simp)⟩
  case round =>
    obtain ⟨k, hk, rfl, hb, hall⟩ := hrel
    by_cases hlt : k < n
    · obtain ⟨f, hi⟩ := get_lt (l := l) (i := k) (by rw [← HN.out]; exact hlt)
      obtain ⟨b, o, rfl, hab, c0, c1, c2, c3, c4, c5, c6, c7⟩ := (HR.out.up hb).at8 hi
      have HB := hid hb; have HI := hid hi
      clear hb hi hab
      have VV := hid (fun W => VA.out f W)
      cases hvf : vld f with
      | true =>
        have hnext := hid (all_next HI.out hvf hall.out)
        rw [hvf] at VV
        clear hvf
        go_wp2_with (go_at_call 35; refine (VV.out _).mono ?_; rintro e w' ⟨rfl, hb'⟩; have HB' := hid hb'; clear hb')
        go_roundw
        case rel => exact ⟨k + 1, by omega, by go_num, below_t HB.out HB'.out, hnext⟩
        case measure => simp [intOf]; omega
      | false =>
        have hc := hid (ckl_70 HI.out hvf)
        rw [hvf] at VV
        clear hvf
        go_wp2_with (go_at_call 35; refine (VV.out _).mono ?_; rintro e w' ⟨rfl, hb'⟩; have HB' := hid hb'; clear hb')
        go_ret
        exact ⟨by rw [hc.out]; rfl, below_t HB.out HB'.out⟩
    · have hal : l.all vld = true := by
        have h := hall.out
        rwa [show k = l.length by have := HN.out; omega, List.take_length] at h
      have HA' := hid hal; have HB := hid hb
      clear hal hall hb
      go_wp2
      go_loopw [4] (fun i wr => ∃ j : Nat, j ≤ n ∧ i = .int .i64 ((j : Int) + 1) ∧ Below w.heap.size w wr ∧ Hid (∀ m a b, m < j → l[m]? = some a → l[m + 1]? = some b → ord a b < 0)) (fun i _ => n - (intOf i).toNat)
      case atStart => exact ⟨0, by omega, rfl, HB.out, hid (fun m a b hm => absurd hm (by omega))⟩
      case round =>
        obtain ⟨j, hj, rfl, hb, hord⟩ := hrel
        by_cases hlt2 : j + 1 < n
        · obtain ⟨f, hi⟩ := get_lt (l := l) (i := j) (by rw [← HN.out]; omega)
          obtain ⟨g, hg⟩ := get_lt (l := l) (i := j + 1) (by rw [← HN.out]; exact hlt2)
          obtain ⟨b, o, rfl, hab, hA⟩ := (HR.out.up hb).at8 hi
          obtain ⟨b', o', hbo, _, hB⟩ := (HR.out.up hb).at8 hg
          cases hbo
          have hsz := hb.size
          have HA := hid (fun (W : World) (hW : Below wr.heap.size wr W) => hA.up hW (by omega))
          have HB2 := hid (fun (W : World) (hW : Below wr.heap.size wr W) => hB.up hW (by omega))
          have HB := hid hb; have HI := hid hi; have HG := hid hg
          have hlt3 : decide ((j : Int) + 1 < (n : Int)) = true := decide_eq_true (by omega)
          have HW1 := hid (show IntKind.i64.wrap (j : Int) = (j : Int) from IntWalk.i64_in _ (by omega))
          have HN1 := hid (show (0 : Int) ≤ (j : Int) + 1 ∧ ¬ (n : Int) ≤ (j : Int) + 1 from ⟨by omega, by omega⟩)
          have hnj : ¬ n ≤ j := by omega
          have hnj2 : ¬ n ≤ j + 1 := by omega
          have hle2 : (j : Int) + 1 ≤ 9223372036854775807 := by omega
          have OO := hid (fun W => OA.out f g W)
          obtain ⟨z, hz⟩ : ∃ z, z = decide (F7.bef f g) := ⟨_, rfl⟩
          rw [← hz] at OO
          have HZ := hid (show z = true ↔ ord f g < 0 by rw [hz, ord_lt]; simp)
          clear hb hi hg hab hz hA hB hsz
          have HT := hid (show Below wr.heap.size wr wr.drew from (Below.refl _ wr).drew)
          cases z with
          | true =>
            go_upto_region 9 with fail
            refine wa_start (S := fun W => Below wr.heap.size wr W) (by kernel_rfl) HT.out ?_
            refine wa_tk 0 (some 23) (.slice (some ⟨b, o, none⟩) n cap) rfl (by kernel_rfl) rfl rfl HT.out (fun w h0 => by go_simp) ?_
            try simp only [Act.put, List.setIfInBounds_toArray, List.set_cons_zero, List.set_cons_succ]
            refine wa_tk 1 (some 24) (.int .i64 ((j : Int) + 1)) rfl (by kernel_rfl) rfl rfl HT.out (fun w h0 => by go_simp) ?_
            try simp only [Act.put, List.setIfInBounds_toArray, List.set_cons_zero, List.set_cons_succ]
            refine wa_tk 2 (some 25) (.int .i64 (j : Int)) rfl (by kernel_rfl) rfl rfl HT.out (fun w h0 => by have hw1 := HW1.out; go_simp) ?_
            try simp only [Act.put, List.setIfInBounds_toArray, List.set_cons_zero, List.set_cons_succ]
            refine wa_tk 3 (some 26) (.pointer (some ⟨b, o + j * 8, none⟩)) rfl (by kernel_rfl) rfl rfl HT.out (fun w h0 => by go_simp) ?_
            try simp only [Act.put, List.setIfInBounds_toArray, List.set_cons_zero, List.set_cons_succ]
            refine wa_tk 4 (some 27) (FV f) rfl (by kernel_rfl) rfl rfl HT.out (fun w h0 => by obtain ⟨a0, a1, a2, a3, a4, a5, a6, a7⟩ := HA.out _ h0; go_simp) ?_
            try simp only [Act.put, List.setIfInBounds_toArray, List.set_cons_zero, List.set_cons_succ]
            refine wa_tk 5 (some 28) (.slice (some ⟨b, o, none⟩) n cap) rfl (by kernel_rfl) rfl rfl HT.out (fun w h0 => by go_simp) ?_
            try simp only [Act.put, List.setIfInBounds_toArray, List.set_cons_zero, List.set_cons_succ]
            refine wa_tk 6 (some 29) (.int .i64 ((j : Int) + 1)) rfl (by kernel_rfl) rfl rfl HT.out (fun w h0 => by go_simp) ?_
            try simp only [Act.put, List.setIfInBounds_toArray, List.set_cons_zero, List.set_cons_succ]
            refine wa_tk 7 (some 30) (.pointer (some ⟨b, o + (j + 1) * 8, none⟩)) rfl (by kernel_rfl) rfl rfl HT.out (fun w h0 => by have hn1 := HN1.out.1; have hn2 := HN1.out.2; go_simp) ?_
            try simp only [Act.put, List.setIfInBounds_toArray, List.set_cons_zero, List.set_cons_succ]
            refine wa_tk 8 (some 31) (FV g) rfl (by kernel_rfl) rfl rfl HT.out (fun w h0 => by obtain ⟨a0, a1, a2, a3, a4, a5, a6, a7⟩ := HB2.out _ h0; go_simp) ?_
            try simp only [Act.put, List.setIfInBounds_toArray, List.set_cons_zero, List.set_cons_succ]
            refine wa_branch [9] (by decide +kernel) rfl ?_
            refine ar_op 9 rfl rfl (fun K hK => ?_) ar_nil
            unfold Oper.wp
            go_simp
            go_at_call 30
            refine (OO.out _).mono ?_
            rintro e wz ⟨rfl, hbz⟩
            have HT := hid (below_t HT.out hbz)
            clear hbz
            go_simp
            refine hK.out _ _ HT.out ?_
            clear hK K
            try simp only [Act.put, List.setIfInBounds_toArray, List.set_cons_zero, List.set_cons_succ]
            refine wa_branch [10] (by decide +kernel) rfl ?_
            refine ar_op 10 rfl rfl (fun K hK => ?_) ar_nil
            unfold Oper.wp
            go_simp
            refine hK.out _ _ HT.out ?_
            clear hK K
            try simp only [Act.put, List.setIfInBounds_toArray, List.set_cons_zero, List.set_cons_succ]
            refine wa_done (by decide +kernel) ?_
            have hnx := hid (show ∀ m a b, m < j + 1 → l[m]? = some a → l[m + 1]? = some b → ord a b < 0 from fun m a b hm ha hb => by
              by_cases hmj : m < j
              · exact hord.out m a b hmj ha hb
              · obtain rfl : m = j := by omega
                have e1 := HI.out; have e2 := HG.out
                rw [ha] at e1; rw [hb] at e2
                cases e1; cases e2
                exact HZ.out.1 rfl)
            have HF := hid (below_t HB.out HT.out)
            clear HT HA HB2 hle2 hnj hnj2 HW1 HN1
            go_wp2
            go_roundw
            case rel => exact ⟨j + 1, by omega, by go_num, HF.out, hnx⟩
            case measure => simp [intOf]; omega
          | false =>
            go_upto_region 9 with fail
            refine wa_start (S := fun W => Below wr.heap.size wr W) (by kernel_rfl) HT.out ?_
            refine wa_tk 0 (some 23) (.slice (some ⟨b, o, none⟩) n cap) rfl (by kernel_rfl) rfl rfl HT.out (fun w h0 => by go_simp) ?_
            try simp only [Act.put, List.setIfInBounds_toArray, List.set_cons_zero, List.set_cons_succ]
            refine wa_tk 1 (some 24) (.int .i64 ((j : Int) + 1)) rfl (by kernel_rfl) rfl rfl HT.out (fun w h0 => by go_simp) ?_
            try simp only [Act.put, List.setIfInBounds_toArray, List.set_cons_zero, List.set_cons_succ]
            refine wa_tk 2 (some 25) (.int .i64 (j : Int)) rfl (by kernel_rfl) rfl rfl HT.out (fun w h0 => by have hw1 := HW1.out; go_simp) ?_
            try simp only [Act.put, List.setIfInBounds_toArray, List.set_cons_zero, List.set_cons_succ]
            refine wa_tk 3 (some 26) (.pointer (some ⟨b, o + j * 8, none⟩)) rfl (by kernel_rfl) rfl rfl HT.out (fun w h0 => by go_simp) ?_
            try simp only [Act.put, List.setIfInBounds_toArray, List.set_cons_zero, List.set_cons_succ]
            refine wa_tk 4 (some 27) (FV f) rfl (by kernel_rfl) rfl rfl HT.out (fun w h0 => by obtain ⟨a0, a1, a2, a3, a4, a5, a6, a7⟩ := HA.out _ h0; go_simp) ?_
            try simp only [Act.put, List.setIfInBounds_toArray, List.set_cons_zero, List.set_cons_succ]
            refine wa_tk 5 (some 28) (.slice (some ⟨b, o, none⟩) n cap) rfl (by kernel_rfl) rfl rfl HT.out (fun w h0 => by go_simp) ?_
            try simp only [Act.put, List.setIfInBounds_toArray, List.set_cons_zero, List.set_cons_succ]
            refine wa_tk 6 (some 29) (.int .i64 ((j : Int) + 1)) rfl (by kernel_rfl) rfl rfl HT.out (fun w h0 => by go_simp) ?_
            try simp only [Act.put, List.setIfInBounds_toArray, List.set_cons_zero, List.set_cons_succ]
            refine wa_tk 7 (some 30) (.pointer (some ⟨b, o + (j + 1) * 8, none⟩)) rfl (by kernel_rfl) rfl rfl HT.out (fun w h0 => by have hn1 := HN1.out.1; have hn2 := HN1.out.2; go_simp) ?_
            try simp only [Act.put, List.setIfInBounds_toArray, List.set_cons_zero, List.set_cons_succ]
            refine wa_tk 8 (some 31) (FV g) rfl (by kernel_rfl) rfl rfl HT.out (fun w h0 => by obtain ⟨a0, a1, a2, a3, a4, a5, a6, a7⟩ := HB2.out _ h0; go_simp) ?_
            try simp only [Act.put, List.setIfInBounds_toArray, List.set_cons_zero, List.set_cons_succ]
            refine wa_branch [9] (by decide +kernel) rfl ?_
            refine ar_op 9 rfl rfl (fun K hK => ?_) ar_nil
            unfold Oper.wp
            go_simp
            go_at_call 30
            refine (OO.out _).mono ?_
            rintro e wz ⟨rfl, hbz⟩
            have HT := hid (below_t HT.out hbz)
            clear hbz
            go_simp
            refine hK.out _ _ HT.out ?_
            clear hK K
            try simp only [Act.put, List.setIfInBounds_toArray, List.set_cons_zero, List.set_cons_succ]
            refine wa_branch [10] (by decide +kernel) rfl ?_
            refine ar_op 10 rfl rfl (fun K hK => ?_) ar_nil
            unfold Oper.wp
            go_simp
            refine hK.out _ _ HT.out ?_
            clear hK K
            try simp only [Act.put, List.setIfInBounds_toArray, List.set_cons_zero, List.set_cons_succ]
            refine wa_done (by decide +kernel) ?_
            have hc := hid (show ckl l = 71 from by
              unfold ckl; rw [if_pos HA'.out, if_neg (fun e => by
                have := (incB_iff l).1 e j f g HI.out HG.out
                have := HZ.out.2 this; cases this)])
            have HF := hid (below_t HB.out HT.out)
            clear HT HA HB2 hle2 hnj hnj2 HW1 HN1
            go_wp2
            go_ret
            exact ⟨by rw [hc.out]; rfl, HF.out⟩
        · have hlt3 : decide ((j : Int) + 1 < (n : Int)) = false := decide_eq_false (by omega)
          have hc := hid (show ckl l = 0 from by
            unfold ckl; rw [if_pos HA'.out, if_pos ((incB_iff l).2 (fun m a b ha hb => hord.out m a b (by
              have h1 := (List.getElem?_eq_some_iff.1 hb).1
              have h2 := HN.out
              omega) ha hb))])
          have HB := hid hb
          clear hb
          go_wp2
          go_ret
          exact ⟨by rw [hc.out]; rfl, HB.out⟩
end Go.Proofs.Ytbejjindkcjecaa

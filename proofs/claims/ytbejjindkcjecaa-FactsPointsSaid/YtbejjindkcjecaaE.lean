/- Contracts: Check of facts. -/
import Derived.Test.YtbejjindkcjecaaD
import Derived.IntWalk
namespace Go.Proofs.Ytbejjindkcjecaa
open Go.RowKit Go
set_option linter.unusedVariables false
set_option linter.unusedSimpArgs false
theorem below_t {w w1 w2 : World} (h : Below w.heap.size w w1) (k : Below w1.heap.size w1 w2) : Below w.heap.size w w2 := h.trans (k.mono h.size)
theorem At8.up {W W' : World} {b o n : Nat} {f : FA} (h : At8 W b o f) (hb : Below n W W') (hlt : b < n) : At8 W' b o f := by
  obtain ⟨c0, c1, c2, c3, c4, c5, c6, c7⟩ := h
  exact ⟨(hb.cell (p := ⟨b, o, none⟩) hlt).trans c0, (hb.cell (p := ⟨b, o + 1, none⟩) hlt).trans c1, (hb.cell (p := ⟨b, o + 2, none⟩) hlt).trans c2, (hb.cell (p := ⟨b, o + 3, none⟩) hlt).trans c3, (hb.cell (p := ⟨b, o + 4, none⟩) hlt).trans c4, (hb.cell (p := ⟨b, o + 5, none⟩) hlt).trans c5, (hb.cell (p := ⟨b, o + 6, none⟩) hlt).trans c6, (hb.cell (p := ⟨b, o + 7, none⟩) hlt).trans c7⟩
/-- strictly increasing in the order -/
def incB : List FA → Bool
  | a :: b :: r => decide (ord a b < 0) && incB (b :: r)
  | _ => true
theorem incB_iff : ∀ l : List FA, incB l = true ↔ ∀ j a b, l[j]? = some a → l[j + 1]? = some b → ord a b < 0
  | [] => by simp [incB]
  | [a] => by
    simp only [incB, true_iff]
    intro j x y _ h2
    simp at h2
  | a :: b :: r => by
    rw [incB, Bool.and_eq_true, incB_iff (b :: r)]
    constructor
    · rintro ⟨h1, h2⟩ j x y hx hy
      cases j with
      | zero => simp at hx hy; subst hx; subst hy; simpa using h1
      | succ j => exact h2 j x y (by simpa using hx) (by simpa using hy)
    · intro h
      exact ⟨by simpa using h 0 a b rfl rfl, fun j x y hx hy => h (j + 1) x y (by simpa using hx) (by simpa using hy)⟩
/-- the error of a list of facts -/
def ckl (l : List FA) : Int := if l.all vld then (if incB l then 0 else 71) else 70
theorem ckl_70 {l : List FA} {i : Nat} {f : FA} (h : l[i]? = some f) (hf : vld f = false) : ckl l = 70 := by
  have hl : ¬ (l.all vld = true) := fun e => by
    have := List.all_eq_true.1 e f (List.mem_of_getElem? h)
    rw [hf] at this; cases this
  unfold ckl; rw [if_neg hl]
theorem all_next {l : List FA} {i : Nat} {f : FA} (h : l[i]? = some f) (hf : vld f = true) (hp : (l.take i).all vld = true) : (l.take (i + 1)).all vld = true := by
  rw [take_snoc h, List.all_append, hp]; simp [hf]
set_option maxRecDepth 100000 in
set_option maxHeartbeats 4000000 in
theorem check_any (v : Value) (l : List FA) (w : World) (hv : FS w v l) : Calls Try.prog 15 #[v] w fun e w' => e = .returned (.int .i64 (ckl l)) ∧ Below w.heap.size w w' := by
  obtain ⟨p, cap, rfl⟩ := hv.form
  have hr : FR p w.heap.size l w := hv.gr 8 fc_len (by omega)
  have hm := hv.len
  unfold maxLen at hm
  obtain ⟨n, hn⟩ : ∃ n, n = l.length := ⟨_, rfl⟩
  rw [← hn] at hm ⊢
  have HR := hid hr; have HN := hid hn
  clear hr hv hn
  have VA := hid valid_any
  have OA := hid order_any
  go_enter Try.func15, Try.ntmps15
  go_wp2
  go_loopw [8] (fun i wr => ∃ k : Nat, k ≤ n ∧ i = .int .i64 k ∧ Below w.heap.size w wr ∧ Hid ((l.take k).all vld = true)) (fun i _ => n - (intOf i).toNat)
  case atStart => exact ⟨0, by omega, rfl, Below.refl _ _, hid (by simp)⟩
  case round =>
    obtain ⟨k, hk, rfl, hb, hall⟩ := hrel
    by_cases hlt : k < n
    · obtain ⟨f, hi⟩ := get_lt (l := l) (i := k) (by rw [← HN.out]; exact hlt)
      obtain ⟨b, o, rfl, hab, c0, c1, c2, c3, c4, c5, c6, c7⟩ := (HR.out.up hb).at8 hi
      have HB := hid hb; have HI := hid hi
      clear hb hi hab
      have VV := hid (fun W => VA.out f W)
      cases hvf : vld f with
      | true =>
        have hnext := hid (all_next HI.out hvf hall.out)
        rw [hvf] at VV
        clear hvf
        go_wp2_with (go_at_call 32; refine (VV.out _).mono ?_; rintro e w' ⟨rfl, hb'⟩; have HB' := hid hb'; clear hb')
        go_roundw
        case rel => exact ⟨k + 1, by omega, by go_num, below_t (HB.out.alloc HB.out.size _) HB'.out, hnext⟩
        case measure => simp [intOf]; omega
      | false =>
        have hc := hid (ckl_70 HI.out hvf)
        rw [hvf] at VV
        clear hvf
        go_wp2_with (go_at_call 32; refine (VV.out _).mono ?_; rintro e w' ⟨rfl, hb'⟩; have HB' := hid hb'; clear hb')
        go_ret
        exact ⟨by rw [hc.out]; rfl, below_t (HB.out.alloc HB.out.size _) HB'.out⟩
    · have hal : l.all vld = true := by
        have h := hall.out
        rwa [show k = l.length by have := HN.out; omega, List.take_length] at h
      have HA' := hid hal; have HB := hid hb
      clear hal hall hb
      go_wp2
      go_loopw [5] (fun i wr => ∃ j : Nat, j ≤ n ∧ i = .int .i64 ((j : Int) + 1) ∧ Below w.heap.size w wr ∧ Hid (∀ m a b, m < j → l[m]? = some a → l[m + 1]? = some b → ord a b < 0)) (fun i _ => n - (intOf i).toNat)
      case atStart => exact ⟨0, by omega, rfl, HB.out, hid (fun m a b hm => absurd hm (by omega))⟩
      case round =>
        obtain ⟨j, hj, rfl, hb, hord⟩ := hrel
        by_cases hlt2 : j + 1 < n
        · obtain ⟨f, hi⟩ := get_lt (l := l) (i := j) (by rw [← HN.out]; omega)
          obtain ⟨g, hg⟩ := get_lt (l := l) (i := j + 1) (by rw [← HN.out]; exact hlt2)
          obtain ⟨b, o, rfl, hab, hA⟩ := (HR.out.up hb).at8 hi
          obtain ⟨b', o', hbo, _, hB⟩ := (HR.out.up hb).at8 hg
          cases hbo
          have hsz := hb.size
          have HA := hid (fun (W : World) (hW : Below wr.heap.size wr W) => hA.up hW (by omega))
          have HB2 := hid (fun (W : World) (hW : Below wr.heap.size wr W) => hB.up hW (by omega))
          have HB := hid hb; have HI := hid hi; have HG := hid hg
          have hlt3 : decide ((j : Int) + 1 < (n : Int)) = true := decide_eq_true (by omega)
          have HW1 := hid (show IntKind.i64.wrap (j : Int) = (j : Int) from IntWalk.i64_in _ (by omega))
          have HN1 := hid (show (0 : Int) ≤ (j : Int) + 1 ∧ ¬ (n : Int) ≤ (j : Int) + 1 from ⟨by omega, by omega⟩)
          have hnj : ¬ n ≤ j := by omega
          have hnj2 : ¬ n ≤ j + 1 := by omega
          have hle2 : (j : Int) + 1 ≤ 9223372036854775807 := by omega
          have OO := hid (fun W => OA.out f g W)
          obtain ⟨z, hz⟩ : ∃ z, z = ord f g := ⟨_, rfl⟩
          rw [← hz] at OO
          have HZ := hid hz
          clear hb hi hg hab hz hA hB hsz
          have HT := hid (show Below wr.heap.size wr wr.drew from (Below.refl _ wr).drew)
          by_cases hzz : z < 0
          · go_upto_region 10 with fail
            refine wa_start (S := fun W => Below wr.heap.size wr W) (by kernel_rfl) HT.out ?_
            refine wa_tk 0 (some 22) (.slice (some ⟨b, o, none⟩) n cap) rfl (by kernel_rfl) rfl rfl HT.out (fun w h0 => by go_simp) ?_
            try simp only [Act.put, List.setIfInBounds_toArray, List.set_cons_zero, List.set_cons_succ]
            refine wa_tk 1 (some 23) (.int .i64 ((j : Int) + 1)) rfl (by kernel_rfl) rfl rfl HT.out (fun w h0 => by go_simp) ?_
            try simp only [Act.put, List.setIfInBounds_toArray, List.set_cons_zero, List.set_cons_succ]
            refine wa_tk 2 (some 24) (.int .i64 (j : Int)) rfl (by kernel_rfl) rfl rfl HT.out (fun w h0 => by have hw1 := HW1.out; go_simp) ?_
            try simp only [Act.put, List.setIfInBounds_toArray, List.set_cons_zero, List.set_cons_succ]
            refine wa_tk 3 (some 25) (.pointer (some ⟨b, o + j * 8, none⟩)) rfl (by kernel_rfl) rfl rfl HT.out (fun w h0 => by go_simp) ?_
            try simp only [Act.put, List.setIfInBounds_toArray, List.set_cons_zero, List.set_cons_succ]
            refine wa_tk 4 (some 26) (FV f) rfl (by kernel_rfl) rfl rfl HT.out (fun w h0 => by obtain ⟨a0, a1, a2, a3, a4, a5, a6, a7⟩ := HA.out _ h0; go_simp) ?_
            try simp only [Act.put, List.setIfInBounds_toArray, List.set_cons_zero, List.set_cons_succ]
            refine wa_tk 5 (some 27) (.slice (some ⟨b, o, none⟩) n cap) rfl (by kernel_rfl) rfl rfl HT.out (fun w h0 => by go_simp) ?_
            try simp only [Act.put, List.setIfInBounds_toArray, List.set_cons_zero, List.set_cons_succ]
            refine wa_tk 6 (some 28) (.int .i64 ((j : Int) + 1)) rfl (by kernel_rfl) rfl rfl HT.out (fun w h0 => by go_simp) ?_
            try simp only [Act.put, List.setIfInBounds_toArray, List.set_cons_zero, List.set_cons_succ]
            refine wa_tk 7 (some 29) (.pointer (some ⟨b, o + (j + 1) * 8, none⟩)) rfl (by kernel_rfl) rfl rfl HT.out (fun w h0 => by have hn1 := HN1.out.1; have hn2 := HN1.out.2; go_simp) ?_
            try simp only [Act.put, List.setIfInBounds_toArray, List.set_cons_zero, List.set_cons_succ]
            refine wa_tk 8 (some 30) (FV g) rfl (by kernel_rfl) rfl rfl HT.out (fun w h0 => by obtain ⟨a0, a1, a2, a3, a4, a5, a6, a7⟩ := HB2.out _ h0; go_simp) ?_
            try simp only [Act.put, List.setIfInBounds_toArray, List.set_cons_zero, List.set_cons_succ]
            refine wa_branch [9] (by decide +kernel) rfl ?_
            refine ar_op 9 rfl rfl (fun K hK => ?_) ar_nil
            unfold Oper.wp
            go_simp
            go_at_call 33
            refine (OO.out _).mono ?_
            rintro e w' ⟨rfl, q, os, rfl⟩
            go_simp
            have HT := hid (show Below wr.heap.size wr (Go.Sort.grow (wr.drewN (1 + q)) os) from below_os rfl (Nat.le_refl _))
            refine hK.out _ _ HT.out ?_
            clear hK K
            try simp only [Act.put, List.setIfInBounds_toArray, List.set_cons_zero, List.set_cons_succ]
            refine wa_branch [10] (by decide +kernel) rfl ?_
            refine ar_op 10 rfl rfl (fun K hK => ?_) ar_nil
            unfold Oper.wp
            go_simp
            refine hK.out _ _ HT.out ?_
            clear hK K
            try simp only [Act.put, List.setIfInBounds_toArray, List.set_cons_zero, List.set_cons_succ]
            refine wa_done (by decide +kernel) ?_
            have hnx := hid (show ∀ m a b, m < j + 1 → l[m]? = some a → l[m + 1]? = some b → ord a b < 0 from fun m a b hm ha hb => by
              by_cases hmj : m < j
              · exact hord.out m a b hmj ha hb
              · obtain rfl : m = j := by omega
                have e1 := HI.out; have e2 := HG.out
                rw [ha] at e1; rw [hb] at e2
                cases e1; cases e2
                rw [← HZ.out]; exact hzz)
            have HF := hid (show Below w.heap.size w (Go.Sort.grow (wr.drewN (1 + q)) os) from below_t HB.out (below_os rfl (Nat.le_refl _)))
            clear HT HA HB2 hle2 hnj hnj2 HW1 HN1
            go_wp2
            go_roundw
            case rel => exact ⟨j + 1, by omega, by go_num, HF.out, hnx⟩
            case measure => simp [intOf]; omega
          · go_upto_region 10 with fail
            refine wa_start (S := fun W => Below wr.heap.size wr W) (by kernel_rfl) HT.out ?_
            refine wa_tk 0 (some 22) (.slice (some ⟨b, o, none⟩) n cap) rfl (by kernel_rfl) rfl rfl HT.out (fun w h0 => by go_simp) ?_
            try simp only [Act.put, List.setIfInBounds_toArray, List.set_cons_zero, List.set_cons_succ]
            refine wa_tk 1 (some 23) (.int .i64 ((j : Int) + 1)) rfl (by kernel_rfl) rfl rfl HT.out (fun w h0 => by go_simp) ?_
            try simp only [Act.put, List.setIfInBounds_toArray, List.set_cons_zero, List.set_cons_succ]
            refine wa_tk 2 (some 24) (.int .i64 (j : Int)) rfl (by kernel_rfl) rfl rfl HT.out (fun w h0 => by have hw1 := HW1.out; go_simp) ?_
            try simp only [Act.put, List.setIfInBounds_toArray, List.set_cons_zero, List.set_cons_succ]
            refine wa_tk 3 (some 25) (.pointer (some ⟨b, o + j * 8, none⟩)) rfl (by kernel_rfl) rfl rfl HT.out (fun w h0 => by go_simp) ?_
            try simp only [Act.put, List.setIfInBounds_toArray, List.set_cons_zero, List.set_cons_succ]
            refine wa_tk 4 (some 26) (FV f) rfl (by kernel_rfl) rfl rfl HT.out (fun w h0 => by obtain ⟨a0, a1, a2, a3, a4, a5, a6, a7⟩ := HA.out _ h0; go_simp) ?_
            try simp only [Act.put, List.setIfInBounds_toArray, List.set_cons_zero, List.set_cons_succ]
            refine wa_tk 5 (some 27) (.slice (some ⟨b, o, none⟩) n cap) rfl (by kernel_rfl) rfl rfl HT.out (fun w h0 => by go_simp) ?_
            try simp only [Act.put, List.setIfInBounds_toArray, List.set_cons_zero, List.set_cons_succ]
            refine wa_tk 6 (some 28) (.int .i64 ((j : Int) + 1)) rfl (by kernel_rfl) rfl rfl HT.out (fun w h0 => by go_simp) ?_
            try simp only [Act.put, List.setIfInBounds_toArray, List.set_cons_zero, List.set_cons_succ]
            refine wa_tk 7 (some 29) (.pointer (some ⟨b, o + (j + 1) * 8, none⟩)) rfl (by kernel_rfl) rfl rfl HT.out (fun w h0 => by have hn1 := HN1.out.1; have hn2 := HN1.out.2; go_simp) ?_
            try simp only [Act.put, List.setIfInBounds_toArray, List.set_cons_zero, List.set_cons_succ]
            refine wa_tk 8 (some 30) (FV g) rfl (by kernel_rfl) rfl rfl HT.out (fun w h0 => by obtain ⟨a0, a1, a2, a3, a4, a5, a6, a7⟩ := HB2.out _ h0; go_simp) ?_
            try simp only [Act.put, List.setIfInBounds_toArray, List.set_cons_zero, List.set_cons_succ]
            refine wa_branch [9] (by decide +kernel) rfl ?_
            refine ar_op 9 rfl rfl (fun K hK => ?_) ar_nil
            unfold Oper.wp
            go_simp
            go_at_call 33
            refine (OO.out _).mono ?_
            rintro e w' ⟨rfl, q, os, rfl⟩
            go_simp
            have HT := hid (show Below wr.heap.size wr (Go.Sort.grow (wr.drewN (1 + q)) os) from below_os rfl (Nat.le_refl _))
            refine hK.out _ _ HT.out ?_
            clear hK K
            try simp only [Act.put, List.setIfInBounds_toArray, List.set_cons_zero, List.set_cons_succ]
            refine wa_branch [10] (by decide +kernel) rfl ?_
            refine ar_op 10 rfl rfl (fun K hK => ?_) ar_nil
            unfold Oper.wp
            go_simp
            refine hK.out _ _ HT.out ?_
            clear hK K
            try simp only [Act.put, List.setIfInBounds_toArray, List.set_cons_zero, List.set_cons_succ]
            refine wa_done (by decide +kernel) ?_
            have hc := hid (show ckl l = 71 from by
              unfold ckl; rw [if_pos HA'.out, if_neg (fun e => by
                have := (incB_iff l).1 e j f g HI.out HG.out
                rw [← HZ.out] at this; omega)])
            have hzz2 : 0 ≤ z := by omega
            clear hzz
            have HF := hid (show Below w.heap.size w (Go.Sort.grow (wr.drewN (1 + q)) os) from below_t HB.out (below_os rfl (Nat.le_refl _)))
            clear HT HA HB2 hle2 hnj hnj2 HW1 HN1
            go_wp2
            go_ret
            exact ⟨by rw [hc.out]; rfl, HF.out⟩
        · have hlt3 : decide ((j : Int) + 1 < (n : Int)) = false := decide_eq_false (by omega)
          have hc := hid (show ckl l = 0 from by
            unfold ckl; rw [if_pos HA'.out, if_pos ((incB_iff l).2 (fun m a b ha hb => hord.out m a b (by
              have h1 := (List.getElem?_eq_some_iff.1 hb).1
              have h2 := HN.out
              omega) ha hb))])
          have HB := hid hb
          clear hb
          go_wp2
          go_ret
          exact ⟨by rw [hc.out]; rfl, HB.out⟩
end Go.Proofs.Ytbejjindkcjecaa

/- The law Lists. -/
import Derived.Test.YtlkcnnamnjnmbaaSane
import Derived.Test.YtlkcnnamnjnmbaaFr
namespace Go.Proofs.Ytlkcnnamnjnmbaa
open Go.RowKit Go
set_option linter.unusedVariables false
set_option linter.unusedSimpArgs false
theorem mge_eq (a b : List St) : (S8.mge a b = 0 ∧ S8.lst a ∧ S8.lst b) ∨ (S8.mge a b = 80 ∧ ¬ (S8.lst a ∧ S8.lst b)) := by
  by_cases h : S8.lst a ∧ S8.lst b
  · exact .inl ⟨if_pos h, h⟩
  · exact .inr ⟨if_neg h, h⟩
set_option maxRecDepth 100000 in
set_option maxHeartbeats 8000000 in
theorem lists_law (va vb vc : Value) (a b c : List St) (w : World) (ha : KS w va a) (hb : KS w vb b) (hc : KS w vc c) : Calls Try.prog 9 #[va, vb, vc] w fun e w' => e = .returned (.bool true) ∧ Below w.heap.size w w' := by
  have SA := hid sane_any
  obtain ⟨pa, ca, hfa⟩ := ha.form
  obtain ⟨pb, cb, hfb⟩ := hb.form
  obtain ⟨pc, cc, hfc⟩ := hc.form
  have hga : ∀ n, .slice pa n ca = va → True := fun _ _ => trivial
  have FA := hid (fun W (h : Below w.heap.size w W) => few_any va a W (ha.ups h))
  have FB := hid (fun W (h : Below w.heap.size w W) => few_any vb b W (hb.ups h))
  have FC := hid (fun W (h : Below w.heap.size w W) => few_any vc c W (hc.ups h))
  have HAA := hid (fun W (h : Below w.heap.size w W) => ha.ups h)
  obtain ⟨na, hna⟩ : ∃ n, n = a.length := ⟨_, rfl⟩
  obtain ⟨nb, hnb⟩ : ∃ n, n = b.length := ⟨_, rfl⟩
  obtain ⟨nc, hnc⟩ : ∃ n, n = c.length := ⟨_, rfl⟩
  rw [← hna] at hfa FA; rw [← hnb] at hfb FB; rw [← hnc] at hfc FC
  subst hfa hfb hfc
  clear hga
  by_cases hla : na ≤ 40
  · rw [show decide (na ≤ 40) = true from decide_eq_true hla] at FA
    by_cases hlb : nb ≤ 40
    · rw [show decide (nb ≤ 40) = true from decide_eq_true hlb] at FB
      by_cases hlc : nc ≤ 40
      · rw [show decide (nc ≤ 40) = true from decide_eq_true hlc] at FC
        have hmg : ∀ x y : List St, (S8.mg x y).length ≤ x.length + y.length := fun x y => by
          unfold S8.mg; split
          · exact S8.mrg_length x y
          · simp
        have l1 := hmg a b; have l2 := hmg b c
        have AB := hid (fun W (h : Below w.heap.size w W) => Merge_any _ _ a b W (ha.ups h) (hb.ups h) (by rw [List.length_append]; omega))
        have BC := hid (fun W (h : Below w.heap.size w W) => Merge_any _ _ b c W (hb.ups h) (hc.ups h) (by rw [List.length_append]; omega))
        have BA := hid (fun W (h : Below w.heap.size w W) => Merge_any _ _ b a W (hb.ups h) (ha.ups h) (by rw [List.length_append]; omega))
        have LE := hid (fun W (h : Below w.heap.size w W) v (hv : KS W v (S8.mg a b)) => Merge_any v _ (S8.mg a b) c W hv (hc.ups h) (by rw [List.length_append]; omega))
        have RI := hid (fun W (h : Below w.heap.size w W) v (hv : KS W v (S8.mg b c)) => Merge_any _ v a (S8.mg b c) W (ha.ups h) hv (by rw [List.length_append]; omega))
        have OW := hid (fun W (h : Below w.heap.size w W) => Merge_any _ _ a a W (ha.ups h) (ha.ups h) (by rw [List.length_append]; omega))
        clear hmg l1 l2 ha hb hc hla hlb hlc hna hnb hnc
        rcases mge_eq a b with ⟨h1, h2, h3⟩ | ⟨h1, h2⟩
        · rw [h1] at AB
          rcases mge_eq b c with ⟨g1, g2, g3⟩ | ⟨g1, g2⟩
          · rw [g1] at BC
            have e1 : S8.mg a b = S8.mrg a b := if_pos ⟨h2, h3⟩
            have e2 : S8.mg b c = S8.mrg b c := if_pos ⟨h3, g3⟩
            have e3 : S8.mg b a = S8.mrg b a := if_pos ⟨h3, h2⟩
            have k1 : S8.lst (S8.mg a b) := by rw [e1]; exact S8.lst_mrg h2 h3
            have k2 : S8.lst (S8.mg b c) := by rw [e2]; exact S8.lst_mrg h3 g3
            have e4 : S8.mg (S8.mg a b) c = S8.mrg (S8.mrg a b) c := by rw [← e1]; exact if_pos ⟨k1, g3⟩
            have e5 : S8.mg a (S8.mg b c) = S8.mrg a (S8.mrg b c) := by rw [← e2]; exact if_pos ⟨h2, k2⟩
            have e6 : S8.mg a a = S8.mrg a a := if_pos ⟨h2, h2⟩
            have E1 := hid (show S8.mg a b = S8.mg b a by rw [e1, e3]; exact S8.mrg_comm h2 h3)
            have E2 := hid (show S8.mg (S8.mg a b) c = S8.mg a (S8.mg b c) by rw [e4, e5]; exact S8.mrg_assoc h2 h3 g3)
            have E3 := hid (show S8.mg a a = a by rw [e6]; exact S8.mrg_self h2)
            rw [show S8.mge b a = 0 from if_pos ⟨h3, h2⟩] at BA
            rw [show S8.mge (S8.mg a b) c = 0 from if_pos ⟨k1, g3⟩] at LE
            rw [show S8.mge a (S8.mg b c) = 0 from if_pos ⟨h2, k2⟩] at RI
            rw [show S8.mge a a = 0 from if_pos ⟨h2, h2⟩] at OW
            clear h1 h2 h3 g1 g2 g3 e1 e2 e3 e4 e5 e6 k1 k2
            go_enter Try.func9, Try.ntmps9
            have HZ := hid (Below.refl w.heap.size w)
            have HT := hid (Below.refl w.heap.size w)
            go_wp2_with fail
            refine (SA.out _).mono ?_
            rintro e wn ⟨rfl, hb⟩
            have HT := hid (below_t HT.out hb)
            clear hb
            go_wp2_with fail
            refine (FA.out _ (HZ.out.trans (HT.out.mono HZ.out.size))).mono ?_
            rintro e wn ⟨rfl, hb⟩
            have HT := hid (below_t HT.out hb)
            clear hb
            go_wp2_with fail
            refine (FB.out _ (HZ.out.trans (HT.out.mono HZ.out.size))).mono ?_
            rintro e wn ⟨rfl, hb⟩
            have HT := hid (below_t HT.out hb)
            clear hb
            go_wp2_with fail
            refine (FC.out _ (HZ.out.trans (HT.out.mono HZ.out.size))).mono ?_
            rintro e wn ⟨rfl, hb⟩
            have HT := hid (below_t HT.out hb)
            clear hb
            go_wp2_with fail
            refine (AB.out _ (HZ.out.trans (HT.out.mono HZ.out.size))).mono ?_
            rintro e wn ⟨⟨u1, rfl, hu⟩, hb⟩
            obtain ⟨pu1, cu1, hf⟩ := hu.form
            obtain ⟨nu1, hn⟩ : ∃ n, n = (S8.mg a b).length := ⟨_, rfl⟩
            rw [← hn] at hf
            subst hf
            have Hu1 := hid hu
            have HT := hid (below_t HT.out hb)
            clear hb hu hn
            go_wp2_with fail
            refine (BC.out _ (HZ.out.trans (HT.out.mono HZ.out.size))).mono ?_
            rintro e wn ⟨⟨u2, rfl, hu⟩, hb⟩
            have Hu1 := hid (Hu1.out.ups hb)
            obtain ⟨pu2, cu2, hf⟩ := hu.form
            obtain ⟨nu2, hn⟩ : ∃ n, n = (S8.mg b c).length := ⟨_, rfl⟩
            rw [← hn] at hf
            subst hf
            have Hu2 := hid hu
            have HT := hid (below_t HT.out hb)
            clear hb hu hn
            go_wp2_with fail
            refine (BA.out _ (HZ.out.trans (HT.out.mono HZ.out.size))).mono ?_
            rintro e wn ⟨⟨u3, rfl, hu⟩, hb⟩
            have Hu1 := hid (Hu1.out.ups hb)
            have Hu2 := hid (Hu2.out.ups hb)
            obtain ⟨pu3, cu3, hf⟩ := hu.form
            obtain ⟨nu3, hn⟩ : ∃ n, n = (S8.mg b a).length := ⟨_, rfl⟩
            rw [← hn] at hf
            subst hf
            have Hu3 := hid hu
            have HT := hid (below_t HT.out hb)
            clear hb hu hn
            go_wp2_with fail
            refine (LE.out _ (HZ.out.trans (HT.out.mono HZ.out.size)) _ Hu1.out).mono ?_
            rintro e wn ⟨⟨u4, rfl, hu⟩, hb⟩
            have Hu1 := hid (Hu1.out.ups hb)
            have Hu2 := hid (Hu2.out.ups hb)
            have Hu3 := hid (Hu3.out.ups hb)
            obtain ⟨pu4, cu4, hf⟩ := hu.form
            obtain ⟨nu4, hn⟩ : ∃ n, n = (S8.mg (S8.mg a b) c).length := ⟨_, rfl⟩
            rw [← hn] at hf
            subst hf
            have Hu4 := hid hu
            have HT := hid (below_t HT.out hb)
            clear hb hu hn
            go_wp2_with fail
            refine (RI.out _ (HZ.out.trans (HT.out.mono HZ.out.size)) _ Hu2.out).mono ?_
            rintro e wn ⟨⟨u5, rfl, hu⟩, hb⟩
            have Hu1 := hid (Hu1.out.ups hb)
            have Hu2 := hid (Hu2.out.ups hb)
            have Hu3 := hid (Hu3.out.ups hb)
            have Hu4 := hid (Hu4.out.ups hb)
            obtain ⟨pu5, cu5, hf⟩ := hu.form
            obtain ⟨nu5, hn⟩ : ∃ n, n = (S8.mg a (S8.mg b c)).length := ⟨_, rfl⟩
            rw [← hn] at hf
            subst hf
            have Hu5 := hid hu
            have HT := hid (below_t HT.out hb)
            clear hb hu hn
            go_wp2_with fail
            refine (OW.out _ (HZ.out.trans (HT.out.mono HZ.out.size))).mono ?_
            rintro e wn ⟨⟨u6, rfl, hu⟩, hb⟩
            have Hu1 := hid (Hu1.out.ups hb)
            have Hu2 := hid (Hu2.out.ups hb)
            have Hu3 := hid (Hu3.out.ups hb)
            have Hu4 := hid (Hu4.out.ups hb)
            have Hu5 := hid (Hu5.out.ups hb)
            obtain ⟨pu6, cu6, hf⟩ := hu.form
            obtain ⟨nu6, hn⟩ : ∃ n, n = (S8.mg a a).length := ⟨_, rfl⟩
            rw [← hn] at hf
            subst hf
            have Hu6 := hid hu
            have HT := hid (below_t HT.out hb)
            clear hb hu hn
            have HSM := hid (same_any _ _ _ _ _ Hu1.out Hu3.out)
            rw [decide_eq_true E1.out] at HSM
            go_wp2_with fail
            refine (HSM.out).mono ?_
            rintro e wn ⟨rfl, hb⟩
            have Hu4 := hid (Hu4.out.ups hb)
            have Hu5 := hid (Hu5.out.ups hb)
            have Hu6 := hid (Hu6.out.ups hb)
            clear HSM
            have HT := hid (below_t HT.out hb)
            clear hb
            have HSM := hid (same_any _ _ _ _ _ Hu4.out Hu5.out)
            rw [decide_eq_true E2.out] at HSM
            go_wp2_with fail
            refine (HSM.out).mono ?_
            rintro e wn ⟨rfl, hb⟩
            have Hu6 := hid (Hu6.out.ups hb)
            clear HSM
            have HT := hid (below_t HT.out hb)
            clear hb
            have HSM := hid (same_any _ _ _ _ _ Hu6.out (HAA.out _ (HZ.out.trans (HT.out.mono HZ.out.size))))
            rw [decide_eq_true E3.out] at HSM
            go_wp2_with fail
            refine (HSM.out).mono ?_
            rintro e wn ⟨rfl, hb⟩
            have HT := hid (below_t HT.out hb)
            clear hb
            go_wp2
            all_goals (go_ret; exact ⟨rfl, below_t HZ.out HT.out⟩)
          · rw [g1] at BC
            clear h1 h2 h3 g1 g2 BA LE RI OW
            go_enter Try.func9, Try.ntmps9
            have HZ := hid (Below.refl w.heap.size w)
            have HT := hid (Below.refl w.heap.size w)
            go_wp2_with fail
            refine (SA.out _).mono ?_
            rintro e wn ⟨rfl, hb⟩
            have HT := hid (below_t HT.out hb)
            clear hb
            go_wp2_with fail
            refine (FA.out _ (HZ.out.trans (HT.out.mono HZ.out.size))).mono ?_
            rintro e wn ⟨rfl, hb⟩
            have HT := hid (below_t HT.out hb)
            clear hb
            go_wp2_with fail
            refine (FB.out _ (HZ.out.trans (HT.out.mono HZ.out.size))).mono ?_
            rintro e wn ⟨rfl, hb⟩
            have HT := hid (below_t HT.out hb)
            clear hb
            go_wp2_with fail
            refine (FC.out _ (HZ.out.trans (HT.out.mono HZ.out.size))).mono ?_
            rintro e wn ⟨rfl, hb⟩
            have HT := hid (below_t HT.out hb)
            clear hb
            go_wp2_with fail
            refine (AB.out _ (HZ.out.trans (HT.out.mono HZ.out.size))).mono ?_
            rintro e wn ⟨⟨u1, rfl, hu⟩, hb⟩
            obtain ⟨pu1, cu1, hf⟩ := hu.form
            obtain ⟨nu1, hn⟩ : ∃ n, n = (S8.mg a b).length := ⟨_, rfl⟩
            rw [← hn] at hf
            subst hf
            have Hu1 := hid hu
            have HT := hid (below_t HT.out hb)
            clear hb hu hn
            go_wp2_with fail
            refine (BC.out _ (HZ.out.trans (HT.out.mono HZ.out.size))).mono ?_
            rintro e wn ⟨⟨u2, rfl, hu⟩, hb⟩
            have Hu1 := hid (Hu1.out.ups hb)
            obtain ⟨pu2, cu2, hf⟩ := hu.form
            obtain ⟨nu2, hn⟩ : ∃ n, n = (S8.mg b c).length := ⟨_, rfl⟩
            rw [← hn] at hf
            subst hf
            have Hu2 := hid hu
            have HT := hid (below_t HT.out hb)
            clear hb hu hn
            go_wp2
            all_goals (go_ret; exact ⟨rfl, below_t HZ.out HT.out⟩)
        · rw [h1] at AB
          obtain ⟨x, hx⟩ : ∃ x, x = S8.mge b c := ⟨_, rfl⟩
          rw [← hx] at BC
          clear h1 h2 BA LE RI OW hx
          go_enter Try.func9, Try.ntmps9
          have HZ := hid (Below.refl w.heap.size w)
          have HT := hid (Below.refl w.heap.size w)
          go_wp2_with fail
          refine (SA.out _).mono ?_
          rintro e wn ⟨rfl, hb⟩
          have HT := hid (below_t HT.out hb)
          clear hb
          go_wp2_with fail
          refine (FA.out _ (HZ.out.trans (HT.out.mono HZ.out.size))).mono ?_
          rintro e wn ⟨rfl, hb⟩
          have HT := hid (below_t HT.out hb)
          clear hb
          go_wp2_with fail
          refine (FB.out _ (HZ.out.trans (HT.out.mono HZ.out.size))).mono ?_
          rintro e wn ⟨rfl, hb⟩
          have HT := hid (below_t HT.out hb)
          clear hb
          go_wp2_with fail
          refine (FC.out _ (HZ.out.trans (HT.out.mono HZ.out.size))).mono ?_
          rintro e wn ⟨rfl, hb⟩
          have HT := hid (below_t HT.out hb)
          clear hb
          go_wp2_with fail
          refine (AB.out _ (HZ.out.trans (HT.out.mono HZ.out.size))).mono ?_
          rintro e wn ⟨⟨u1, rfl, hu⟩, hb⟩
          obtain ⟨pu1, cu1, hf⟩ := hu.form
          obtain ⟨nu1, hn⟩ : ∃ n, n = (S8.mg a b).length := ⟨_, rfl⟩
          rw [← hn] at hf
          subst hf
          have Hu1 := hid hu
          have HT := hid (below_t HT.out hb)
          clear hb hu hn
          go_wp2_with fail
          refine (BC.out _ (HZ.out.trans (HT.out.mono HZ.out.size))).mono ?_
          rintro e wn ⟨⟨u2, rfl, hu⟩, hb⟩
          have Hu1 := hid (Hu1.out.ups hb)
          obtain ⟨pu2, cu2, hf⟩ := hu.form
          obtain ⟨nu2, hn⟩ : ∃ n, n = (S8.mg b c).length := ⟨_, rfl⟩
          rw [← hn] at hf
          subst hf
          have Hu2 := hid hu
          have HT := hid (below_t HT.out hb)
          clear hb hu hn
          go_wp2
          all_goals (go_ret; exact ⟨rfl, below_t HZ.out HT.out⟩)
      · rw [show decide (nc ≤ 40) = false from decide_eq_false hlc] at FC
        clear ha hb hc hla hlb hlc hna hnb hnc
        go_enter Try.func9, Try.ntmps9
        have HZ := hid (Below.refl w.heap.size w)
        have HT := hid (Below.refl w.heap.size w)
        go_wp2_with fail
        refine (SA.out _).mono ?_
        rintro e wn ⟨rfl, hb⟩
        have HT := hid (below_t HT.out hb)
        clear hb
        go_wp2_with fail
        refine (FA.out _ (HZ.out.trans (HT.out.mono HZ.out.size))).mono ?_
        rintro e wn ⟨rfl, hb⟩
        have HT := hid (below_t HT.out hb)
        clear hb
        go_wp2_with fail
        refine (FB.out _ (HZ.out.trans (HT.out.mono HZ.out.size))).mono ?_
        rintro e wn ⟨rfl, hb⟩
        have HT := hid (below_t HT.out hb)
        clear hb
        go_wp2_with fail
        refine (FC.out _ (HZ.out.trans (HT.out.mono HZ.out.size))).mono ?_
        rintro e wn ⟨rfl, hb⟩
        have HT := hid (below_t HT.out hb)
        clear hb
        go_wp2
        all_goals (go_ret; exact ⟨rfl, below_t HZ.out HT.out⟩)
    · rw [show decide (nb ≤ 40) = false from decide_eq_false hlb] at FB
      clear ha hb hc hla hlb hna hnb hnc
      go_enter Try.func9, Try.ntmps9
      have HZ := hid (Below.refl w.heap.size w)
      have HT := hid (Below.refl w.heap.size w)
      go_wp2_with fail
      refine (SA.out _).mono ?_
      rintro e wn ⟨rfl, hb⟩
      have HT := hid (below_t HT.out hb)
      clear hb
      go_wp2_with fail
      refine (FA.out _ (HZ.out.trans (HT.out.mono HZ.out.size))).mono ?_
      rintro e wn ⟨rfl, hb⟩
      have HT := hid (below_t HT.out hb)
      clear hb
      go_wp2_with fail
      refine (FB.out _ (HZ.out.trans (HT.out.mono HZ.out.size))).mono ?_
      rintro e wn ⟨rfl, hb⟩
      have HT := hid (below_t HT.out hb)
      clear hb
      go_wp2
      all_goals (go_ret; exact ⟨rfl, below_t HZ.out HT.out⟩)
  · rw [show decide (na ≤ 40) = false from decide_eq_false hla] at FA
    clear ha hb hc hla hna hnb hnc
    go_enter Try.func9, Try.ntmps9
    have HZ := hid (Below.refl w.heap.size w)
    have HT := hid (Below.refl w.heap.size w)
    go_wp2_with fail
    refine (SA.out _).mono ?_
    rintro e wn ⟨rfl, hb⟩
    have HT := hid (below_t HT.out hb)
    clear hb
    go_wp2_with fail
    refine (FA.out _ (HZ.out.trans (HT.out.mono HZ.out.size))).mono ?_
    rintro e wn ⟨rfl, hb⟩
    have HT := hid (below_t HT.out hb)
    clear hb
    go_wp2
    all_goals (go_ret; exact ⟨rfl, below_t HZ.out HT.out⟩)
end Go.Proofs.Ytlkcnnamnjnmbaa

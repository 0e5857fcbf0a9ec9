/- The law LexBack. -/
import Derived.Test.YtgckigolbajhoaaDoorLw
namespace Go.Proofs.YtgckigolbajhoaaDoor
open Go.RowKit Go
set_option linter.unusedVariables false
set_option linter.unusedSimpArgs false
set_option maxRecDepth 100000 in
set_option maxHeartbeats 8000000 in
theorem back_any (v : Value) (l : List Tk) (s : ByteArray) (w : World) (hk : Konst w) (hv : KS w v l) (ht : ∀ x ∈ l, x.t.length ≤ 140737488355328) : Calls Tryd.prog 5 #[v, .string s] w fun e w' => e = .returned (.bool true) ∧ Below w.heap.size w w' := by
  have HK := hid hk
  have HSA := hid (sane_any w hk)
  have HT := hid (Below.refl w.heap.size w)
  have HTL := hid ht
  have hsz : (lst s).length = s.size := rfl
  obtain ⟨p, c, rfl⟩ := hv.form
  have KV := hid hv
  clear hk hv ht
  cases hf : few l
  · have HF := hid hf
    clear hf
    go_enter Tryd.func5, Tryd.ntmps5
    go_wp2_with fail
    refine (HSA.out).mono ?_
    rintro e wn ⟨rfl, hb⟩
    have HT := hid (below_t HT.out hb)
    have KV := hid (KV.out.ups hb)
    clear hb
    go_wp2_with fail
    have hq := few_any _ l wn KV.out HTL.out
    rw [HF.out] at hq
    refine hq.mono ?_
    clear hq
    rintro e wn ⟨rfl, hb⟩
    have HT := hid (below_t HT.out hb)
    have KV := hid (KV.out.ups hb)
    clear hb
    go_wp2
    go_ret
    exact ⟨rfl, HT.out⟩
  have HF := hid hf
  by_cases h1 : (3000 : Int) < s.size
  · clear hsz hf
    go_enter Tryd.func5, Tryd.ntmps5
    go_wp2_with fail
    refine (HSA.out).mono ?_
    rintro e wn ⟨rfl, hb⟩
    have HT := hid (below_t HT.out hb)
    have KV := hid (KV.out.ups hb)
    clear hb
    go_wp2_with fail
    have hq := few_any _ l wn KV.out HTL.out
    rw [HF.out] at hq
    refine hq.mono ?_
    clear hq
    rintro e wn ⟨rfl, hb⟩
    have HT := hid (below_t HT.out hb)
    have KV := hid (KV.out.ups hb)
    clear hb
    go_wp2
    go_ret
    exact ⟨rfl, HT.out⟩
  have HTX := hid (fun W (hk : Konst W) (hv : KS W (.slice p l.length c) l) => Text_any (.slice p l.length c) l W hk hv (by have := (few_len hf).1; omega) (fun x hx => Nat.le_trans (mem_sum hx) (Nat.le_trans (few_len hf).2 (by unfold maxLen; omega))) (fun ha => Nat.le_trans (few_join hf ha) (by omega)))
  have HL1 := hid (fun W (hk : Konst W) => Lex_any ⟨(txt l).toArray⟩ W hk)
  rw [lst_mk] at HL1
  have HL2 := hid (fun W (hk : Konst W) => Lex_any s W hk)
  have hs3 : (lst s).length ≤ 3000 := by omega
  have HTX2 := hid (fun v W (hk : Konst W) (hv : KS W v (lexl (lst s))) => Text_any v (lexl (lst s)) W hk hv (by have := (lex_sum (s := lst s)).2; omega) (fun x hx => Nat.le_trans (mem_sum hx) (Nat.le_trans (lex_sum (s := lst s)).1 (by unfold maxLen; omega))) (fun ha => Nat.le_trans (lex_join hs3) (by omega)))
  have HL3 := hid (fun W (hk : Konst W) => Lex_any ⟨(txt (lexl (lst s))).toArray⟩ W hk)
  rw [lst_mk] at HL3
  obtain ⟨b1, b2, b3⟩ := lex_back (l := lexl (lst s)) lex_vld (lex_join hs3)
  rw [show txe (lexl (lst s)) = 0 from if_pos lex_vld] at HTX2
  rw [b1, b2] at HL3
  rcases lex_two (lst s) (by omega) with ⟨m, _, q1, q2, q3⟩ | ⟨b, _, q1, q2, q3⟩
  · rw [q1, q2, q3] at HL2
    rw [q1] at HTX2 HL3 b3
    have HSM2 := hid b3
    cases ha : l.all L9.vld
    · rw [show txe l = 90 from if_neg (by rw [ha]; decide)] at HTX
      clear q1 q2 q3 b1 b2 b3 hs3 hsz hf ha
      go_enter Tryd.func5, Tryd.ntmps5
      go_wp2_with fail
      refine (HSA.out).mono ?_
      rintro e wn ⟨rfl, hb⟩
      have HT := hid (below_t HT.out hb)
      have KV := hid (KV.out.ups hb)
      clear hb
      go_wp2_with fail
      have hq := few_any _ l wn KV.out HTL.out
      rw [HF.out] at hq
      refine hq.mono ?_
      clear hq
      rintro e wn ⟨rfl, hb⟩
      have HT := hid (below_t HT.out hb)
      have KV := hid (KV.out.ups hb)
      clear hb
      go_wp2_with fail
      refine (HTX.out wn (HK.out.up HT.out) KV.out).mono ?_
      rintro e wn ⟨rfl, hb⟩
      have HT := hid (below_t HT.out hb)
      have KV := hid (KV.out.ups hb)
      clear hb
      go_wp2_with fail
      refine (HL2.out _ (HK.out.up HT.out)).mono ?_
      rintro e wn ⟨⟨v, rfl, hv⟩, hb⟩
      have HT := hid (below_t HT.out hb)
      have KV := hid (KV.out.ups hb)
      obtain ⟨pv2, cv2, hf⟩ := hv.form
      subst hf
      have KU2 := hid hv
      clear hb hv
      go_wp2_with fail
      refine (HTX2.out _ wn (HK.out.up HT.out) KU2.out).mono ?_
      rintro e wn ⟨rfl, hb⟩
      have HT := hid (below_t HT.out hb)
      have KV := hid (KV.out.ups hb)
      have KU2 := hid (KU2.out.ups hb)
      clear hb
      go_wp2_with fail
      refine (HL3.out _ (HK.out.up HT.out)).mono ?_
      rintro e wn ⟨⟨v, rfl, hv⟩, hb⟩
      have HT := hid (below_t HT.out hb)
      have KU2 := hid (KU2.out.ups hb)
      have KV := hid (KV.out.ups hb)
      obtain ⟨pv3, cv3, hf⟩ := hv.form
      subst hf
      have KU3 := hid hv
      clear hb hv
      go_wp2_with fail
      have hq := Same_any _ _ _ _ wn KU2.out KU3.out
      rw [HSM2.out] at hq
      refine hq.mono ?_
      clear hq
      rintro e wn ⟨rfl, hb⟩
      have HT := hid (below_t HT.out hb)
      clear hb
      go_wp2
      go_ret
      exact ⟨rfl, HT.out⟩
    · rw [show txe l = 0 from if_pos ha] at HTX
      obtain ⟨d1, d2, d3⟩ := lex_back ha (Nat.le_trans (few_join hf ha) (by omega))
      rw [d1, d2] at HL1
      have HSM := hid d3
      clear q1 q2 q3 b1 b2 b3 hs3 hsz hf ha d1 d2 d3
      go_enter Tryd.func5, Tryd.ntmps5
      go_wp2_with fail
      refine (HSA.out).mono ?_
      rintro e wn ⟨rfl, hb⟩
      have HT := hid (below_t HT.out hb)
      have KV := hid (KV.out.ups hb)
      clear hb
      go_wp2_with fail
      have hq := few_any _ l wn KV.out HTL.out
      rw [HF.out] at hq
      refine hq.mono ?_
      clear hq
      rintro e wn ⟨rfl, hb⟩
      have HT := hid (below_t HT.out hb)
      have KV := hid (KV.out.ups hb)
      clear hb
      go_wp2_with fail
      refine (HTX.out wn (HK.out.up HT.out) KV.out).mono ?_
      rintro e wn ⟨rfl, hb⟩
      have HT := hid (below_t HT.out hb)
      have KV := hid (KV.out.ups hb)
      clear hb
      go_wp2_with fail
      refine (HL1.out _ (HK.out.up HT.out)).mono ?_
      rintro e wn ⟨⟨v, rfl, hv⟩, hb⟩
      have HT := hid (below_t HT.out hb)
      have KV := hid (KV.out.ups hb)
      obtain ⟨pv1, cv1, hf⟩ := hv.form
      subst hf
      have KU1 := hid hv
      clear hb hv
      go_wp2_with fail
      have hq := Same_any _ _ _ _ wn KV.out KU1.out
      rw [HSM.out] at hq
      refine hq.mono ?_
      clear hq
      rintro e wn ⟨rfl, hb⟩
      have HT := hid (below_t HT.out hb)
      have KV := hid (KV.out.ups hb)
      clear hb KU1
      go_wp2_with fail
      refine (HL2.out _ (HK.out.up HT.out)).mono ?_
      rintro e wn ⟨⟨v, rfl, hv⟩, hb⟩
      have HT := hid (below_t HT.out hb)
      have KV := hid (KV.out.ups hb)
      obtain ⟨pv2, cv2, hf⟩ := hv.form
      subst hf
      have KU2 := hid hv
      clear hb hv
      go_wp2_with fail
      refine (HTX2.out _ wn (HK.out.up HT.out) KU2.out).mono ?_
      rintro e wn ⟨rfl, hb⟩
      have HT := hid (below_t HT.out hb)
      have KV := hid (KV.out.ups hb)
      have KU2 := hid (KU2.out.ups hb)
      clear hb
      go_wp2_with fail
      refine (HL3.out _ (HK.out.up HT.out)).mono ?_
      rintro e wn ⟨⟨v, rfl, hv⟩, hb⟩
      have HT := hid (below_t HT.out hb)
      have KU2 := hid (KU2.out.ups hb)
      have KV := hid (KV.out.ups hb)
      obtain ⟨pv3, cv3, hf⟩ := hv.form
      subst hf
      have KU3 := hid hv
      clear hb hv
      go_wp2_with fail
      have hq := Same_any _ _ _ _ wn KU2.out KU3.out
      rw [HSM2.out] at hq
      refine hq.mono ?_
      clear hq
      rintro e wn ⟨rfl, hb⟩
      have HT := hid (below_t HT.out hb)
      clear hb
      go_wp2
      go_ret
      exact ⟨rfl, HT.out⟩
  · rw [q1, q2, q3] at HL2
    cases ha : l.all L9.vld
    · rw [show txe l = 90 from if_neg (by rw [ha]; decide)] at HTX
      clear q1 q2 q3 b1 b2 b3 hs3 hsz hf ha
      go_enter Tryd.func5, Tryd.ntmps5
      go_wp2_with fail
      refine (HSA.out).mono ?_
      rintro e wn ⟨rfl, hb⟩
      have HT := hid (below_t HT.out hb)
      have KV := hid (KV.out.ups hb)
      clear hb
      go_wp2_with fail
      have hq := few_any _ l wn KV.out HTL.out
      rw [HF.out] at hq
      refine hq.mono ?_
      clear hq
      rintro e wn ⟨rfl, hb⟩
      have HT := hid (below_t HT.out hb)
      have KV := hid (KV.out.ups hb)
      clear hb
      go_wp2_with fail
      refine (HTX.out wn (HK.out.up HT.out) KV.out).mono ?_
      rintro e wn ⟨rfl, hb⟩
      have HT := hid (below_t HT.out hb)
      have KV := hid (KV.out.ups hb)
      clear hb
      go_wp2_with fail
      refine (HL2.out _ (HK.out.up HT.out)).mono ?_
      rintro e wn ⟨⟨v, rfl, hv⟩, hb⟩
      have HT := hid (below_t HT.out hb)
      have KV := hid (KV.out.ups hb)
      obtain ⟨pv2, cv2, hf⟩ := hv.form
      subst hf
      have KU2 := hid hv
      clear hb hv
      go_wp2
      go_ret
      exact ⟨rfl, HT.out⟩
    · rw [show txe l = 0 from if_pos ha] at HTX
      obtain ⟨d1, d2, d3⟩ := lex_back ha (Nat.le_trans (few_join hf ha) (by omega))
      rw [d1, d2] at HL1
      have HSM := hid d3
      clear q1 q2 q3 b1 b2 b3 hs3 hsz hf ha d1 d2 d3
      go_enter Tryd.func5, Tryd.ntmps5
      go_wp2_with fail
      refine (HSA.out).mono ?_
      rintro e wn ⟨rfl, hb⟩
      have HT := hid (below_t HT.out hb)
      have KV := hid (KV.out.ups hb)
      clear hb
      go_wp2_with fail
      have hq := few_any _ l wn KV.out HTL.out
      rw [HF.out] at hq
      refine hq.mono ?_
      clear hq
      rintro e wn ⟨rfl, hb⟩
      have HT := hid (below_t HT.out hb)
      have KV := hid (KV.out.ups hb)
      clear hb
      go_wp2_with fail
      refine (HTX.out wn (HK.out.up HT.out) KV.out).mono ?_
      rintro e wn ⟨rfl, hb⟩
      have HT := hid (below_t HT.out hb)
      have KV := hid (KV.out.ups hb)
      clear hb
      go_wp2_with fail
      refine (HL1.out _ (HK.out.up HT.out)).mono ?_
      rintro e wn ⟨⟨v, rfl, hv⟩, hb⟩
      have HT := hid (below_t HT.out hb)
      have KV := hid (KV.out.ups hb)
      obtain ⟨pv1, cv1, hf⟩ := hv.form
      subst hf
      have KU1 := hid hv
      clear hb hv
      go_wp2_with fail
      have hq := Same_any _ _ _ _ wn KV.out KU1.out
      rw [HSM.out] at hq
      refine hq.mono ?_
      clear hq
      rintro e wn ⟨rfl, hb⟩
      have HT := hid (below_t HT.out hb)
      have KV := hid (KV.out.ups hb)
      clear hb KU1
      go_wp2_with fail
      refine (HL2.out _ (HK.out.up HT.out)).mono ?_
      rintro e wn ⟨⟨v, rfl, hv⟩, hb⟩
      have HT := hid (below_t HT.out hb)
      have KV := hid (KV.out.ups hb)
      obtain ⟨pv2, cv2, hf⟩ := hv.form
      subst hf
      have KU2 := hid hv
      clear hb hv
      go_wp2
      go_ret
      exact ⟨rfl, HT.out⟩
end Go.Proofs.YtgckigolbajhoaaDoor

/- The law LexWrong. -/
import Derived.Test.YtgckigolbajhoaaDoorLw
namespace Go.Proofs.YtgckigolbajhoaaDoor
open Go.RowKit Go
set_option linter.unusedVariables false
set_option linter.unusedSimpArgs false
theorem lst_app (a b : ByteArray) : lst (a ++ b) = lst a ++ lst b := by simp [lst]
set_option maxRecDepth 100000 in
set_option maxHeartbeats 8000000 in
theorem wrong_any (s m : ByteArray) (w : World) (hk : Konst w) (hs : s.size ≤ 140737488355328) (hm : m.size ≤ 140737488355328) : Calls Tryd.prog 8 #[.string s, .string m] w fun e w' => e = .returned (.bool true) ∧ Below w.heap.size w w' := by
  have HK := hid hk
  have HSA := hid (sane_any w hk)
  have HT := hid (Below.refl w.heap.size w)
  have hsz : (lst s).length = s.size := rfl
  have hmz : (lst m).length = m.size := rfl
  have hw := wrap_id (x := (s.size : Int) + m.size) (by omega) (by omega)
  clear hk
  by_cases h1 : (3000 : Int) < (s.size : Int) + m.size
  · clear hsz hmz hs hm
    go_enter Tryd.func8, Tryd.ntmps8
    go_wp2_with fail
    refine (HSA.out).mono ?_
    rintro e wn ⟨rfl, hb⟩
    have HT := hid (below_t HT.out hb)
    clear hb
    go_wp2
    go_ret
    exact ⟨rfl, HT.out⟩
  have HLX := hid (fun W (hk : Konst W) => Lex_any s W hk)
  rcases lex_two (lst s) (by omega) with ⟨l, _, q1, q2, q3⟩ | ⟨b, hlx, q1, q2, q3⟩
  · rw [q1, q2, q3] at HLX
    clear q1 q2 q3 hsz hmz hs hm
    go_enter Tryd.func8, Tryd.ntmps8
    go_wp2_with fail
    refine (HSA.out).mono ?_
    rintro e wn ⟨rfl, hb⟩
    have HT := hid (below_t HT.out hb)
    clear hb
    go_wp2_with fail
    refine (HLX.out _ (HK.out.up HT.out)).mono ?_
    rintro e wn ⟨⟨v, rfl, hv⟩, hb⟩
    have HT := hid (below_t HT.out hb)
    obtain ⟨pv, cv, hf⟩ := hv.form
    subst hf
    clear hb hv
    go_wp2
    go_ret
    exact ⟨rfl, HT.out⟩
  · rw [q1, q2, q3] at HLX
    obtain ⟨w1, ⟨a1, e1⟩, ⟨a2, e2⟩, ⟨a3, e3⟩⟩ := lex_wrong (lst m) (by rw [hsz, hmz]; omega) hlx
    obtain ⟨t, ht⟩ : ∃ t, t = s.extract 0 b := ⟨_, rfl⟩
    obtain ⟨x, hx⟩ : ∃ x, x = s ++ ⟨#[32]⟩ ++ m := ⟨_, rfl⟩
    obtain ⟨d, hd⟩ : ∃ d, d = s.extract b s.size := ⟨_, rfl⟩
    have lt : lst t = (lst s).take b := by rw [ht, lst_extract, lst_mk, List.drop_zero, Nat.sub_zero]
    have lx' : lst x = lst s ++ 32 :: lst m := by rw [hx, lst_app, lst_app]; simp [lst]
    have ld : lst d = (lst s).drop b := by rw [hd, lst_extract, lst_mk, List.take_of_length_le (by simp)]
    have HL1 := hid (fun W (hk : Konst W) => Lex_any t W hk)
    have HL2 := hid (fun W (hk : Konst W) => Lex_any x W hk)
    have HL3 := hid (fun W (hk : Konst W) => Lex_any d W hk)
    rw [lt, a1, e1] at HL1
    rw [lx', a2, e2] at HL2
    rw [ld, a3, e3] at HL3
    have HT1 := hid ht; have HX := hid hx; have HD := hid hd
    have g1 : (b : Int) ≤ s.size := by omega
    have g2 : (0 : Int) ≤ b := by omega
    have g3 : (b : Int) < s.size := by omega
    clear q1 q2 q3 hsz hmz hs hm lt lx' ld a1 e1 a2 e2 a3 e3 ht hx hd hlx w1
    go_enter Tryd.func8, Tryd.ntmps8
    go_wp2_with fail
    refine (HSA.out).mono ?_
    rintro e wn ⟨rfl, hb⟩
    have HT := hid (below_t HT.out hb)
    clear hb
    go_wp2_with fail
    refine (HLX.out _ (HK.out.up HT.out)).mono ?_
    rintro e wn ⟨⟨v, rfl, hv⟩, hb⟩
    have HT := hid (below_t HT.out hb)
    obtain ⟨pv, cv, hf⟩ := hv.form
    subst hf
    clear hb hv
    go_wp2_with fail
    rw [← HT1.out]
    refine (HL1.out _ (HK.out.up HT.out)).mono ?_
    rintro e wn ⟨⟨v, rfl, hv⟩, hb⟩
    have HT := hid (below_t HT.out hb)
    obtain ⟨pv1, cv1, hf⟩ := hv.form
    subst hf
    clear hb hv
    go_wp2_with fail
    rw [← HX.out]
    refine (HL2.out _ (HK.out.up HT.out)).mono ?_
    rintro e wn ⟨⟨v, rfl, hv⟩, hb⟩
    have HT := hid (below_t HT.out hb)
    obtain ⟨pv2, cv2, hf⟩ := hv.form
    subst hf
    clear hb hv
    go_wp2_with fail
    rw [← HD.out]
    refine (HL3.out _ (HK.out.up HT.out)).mono ?_
    rintro e wn ⟨⟨v, rfl, hv⟩, hb⟩
    have HT := hid (below_t HT.out hb)
    obtain ⟨pv3, cv3, hf⟩ := hv.form
    subst hf
    clear hb hv
    go_wp2
    go_ret
    exact ⟨rfl, HT.out⟩
end Go.Proofs.YtgckigolbajhoaaDoor

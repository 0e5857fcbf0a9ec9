/- The law LexSpec. -/
import Derived.Test.YtgckigolbajhoaaDoorRm
namespace Go.Proofs.YtgckigolbajhoaaDoor
open Go.RowKit Go
set_option linter.unusedVariables false
set_option linter.unusedSimpArgs false
set_option maxRecDepth 100000 in
set_option maxHeartbeats 8000000 in
theorem rlex_long (s : ByteArray) (w : World) (hs : 65536 < s.size) :
    Calls Tryd.prog 12 #[.string s] w fun e w' => e = .returned (.tuple #[.slice none 0 0, .int .i64 0, .int .i64 2]) ∧ Below w.heap.size w w' := by
  have h0 : (65536 : Int) < s.size := by omega
  clear hs
  go_enter Tryd.func12, Tryd.ntmps12
  go_wp2
  refine bodyPost_ret (by simp [results, Tryd.results12, go_sem]; rfl) rfl ?_
  exact ⟨rfl, Below.refl _ _⟩
theorem rlex_any (s : ByteArray) (w : World) (hs : s.size ≤ 70000) :
    Calls Tryd.prog 12 #[.string s] w fun e w' => (∃ v, e = .returned (.tuple #[v, .int .i64 (lexa (lst s)), .int .i64 (lexe (lst s))]) ∧ KS w' v (lexl (lst s))) ∧ Below w.heap.size w w' := by
  have hsz : (lst s).length = s.size := rfl
  by_cases h : s.size ≤ 65536
  · exact rlex_short s w h
  · refine (rlex_long s w (by omega)).mono ?_
    rintro e w' ⟨rfl, hb⟩
    have hle : 65536 < (lst s).length := by omega
    refine ⟨⟨_, ?_, .inl ⟨rfl, if_pos hle⟩⟩, hb⟩
    rw [show lexa (lst s) = 0 from if_pos hle, show lexe (lst s) = 2 from if_pos hle]; rfl
set_option maxRecDepth 100000 in
set_option maxHeartbeats 8000000 in
theorem lexspec_any (s : ByteArray) (w : World) (hk : Konst w) : Calls Tryd.prog 3 #[.string s] w fun e w' => e = .returned (.bool true) ∧ Below w.heap.size w w' := by
  have HK := hid hk
  have HSA := hid (sane_any w hk)
  have HT := hid (Below.refl w.heap.size w)
  clear hk
  by_cases h1 : (70000 : Int) < s.size
  ·
    go_enter Tryd.func3, Tryd.ntmps3
    go_wp2_with fail
    refine HSA.out.mono ?_
    rintro e wn ⟨rfl, hb⟩
    have HT := hid (below_t HT.out hb)
    clear hb
    go_wp2
    go_ret
    exact ⟨rfl, HT.out⟩
  have HS := hid (show s.size ≤ 70000 by omega)
  have HLX := hid (fun W (hk : Konst W) => Lex_any s W hk)
  go_enter Tryd.func3, Tryd.ntmps3
  go_wp2_with fail
  refine HSA.out.mono ?_
  rintro e wn ⟨rfl, hb⟩
  have HT := hid (below_t HT.out hb)
  clear hb
  go_wp2_with fail
  refine (HLX.out wn (HK.out.up HT.out)).mono ?_
  rintro e w1 ⟨⟨v1, rfl, hv1⟩, hb⟩
  have HT := hid (below_t HT.out hb)
  have K1 := hid hv1
  obtain ⟨p1, c1, hf⟩ := hv1.form
  subst hf
  clear hb hv1
  go_wp2_with fail
  refine (rlex_any s w1 HS.out).mono ?_
  rintro e w2 ⟨⟨v2, rfl, hv2⟩, hb⟩
  have HT := hid (below_t HT.out hb)
  have K2 := hid hv2
  have K1 := hid (K1.out.ups hb)
  obtain ⟨p2, c2, hf⟩ := hv2.form
  subst hf
  clear hb hv2
  go_wp2_with fail
  have hq := requal_any _ _ _ _ w2 K1.out K2.out
  rw [show decide (lexl (lst s) = lexl (lst s)) = true from decide_eq_true rfl] at hq
  refine hq.mono ?_
  clear hq
  rintro e w3 ⟨rfl, hb⟩
  have HT := hid (below_t HT.out hb)
  clear hb
  go_wp2
  go_ret
  exact ⟨rfl, HT.out⟩
end Go.Proofs.YtgckigolbajhoaaDoor

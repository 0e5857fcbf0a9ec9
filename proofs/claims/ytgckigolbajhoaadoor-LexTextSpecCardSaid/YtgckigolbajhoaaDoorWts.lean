/- The law LexTextSpec. -/
import Derived.Test.YtgckigolbajhoaaDoorRt
namespace Go.Proofs.YtgckigolbajhoaaDoor
open Go.RowKit Go
set_option linter.unusedVariables false
set_option linter.unusedSimpArgs false
set_option maxRecDepth 100000 in
set_option maxHeartbeats 8000000 in
theorem textspec_any (v u : Value) (a b : List Tk) (s : ByteArray) (w : World) (hk : Konst w) (ha : KS w v a) (hb : KS w u b) (hta : ∀ x ∈ a, x.t.length ≤ 140737488355328) (htb : ∀ x ∈ b, x.t.length ≤ 140737488355328) (hs : s.size ≤ 140737488355328) :
    Calls Tryd.prog 4 #[v, u, .string s] w fun e w' => e = .returned (.bool true) ∧ Below w.heap.size w w' := by
  have HK := hid hk
  have HSA := hid (sane_any w hk)
  have HT := hid (Below.refl w.heap.size w)
  have HTA := hid hta; have HTB := hid htb
  obtain ⟨p, c, rfl⟩ := ha.form
  obtain ⟨q, d, rfl⟩ := hb.form
  have KA := hid ha; have KB := hid hb
  have HS := hid (show s.size ≤ maxLen by unfold maxLen; omega)
  have HNM := hid (fun W (hk : Konst W) => name_any s W hk HS.out)
  clear hk ha hb hta htb hs
  cases hfa : few a
  · have HFA := hid hfa
    clear hfa
    go_enter Tryd.func4, Tryd.ntmps4
    go_wp2_with fail
    refine (HSA.out).mono ?_
    rintro e wn ⟨rfl, hb⟩
    have HT := hid (below_t HT.out hb)
    have KA := hid (KA.out.ups hb)
    have KB := hid (KB.out.ups hb)
    clear hb
    go_wp2_with fail
    have hq := few_any _ _ wn KA.out HTA.out
    rw [HFA.out] at hq
    refine (hq).mono ?_
    rintro e wn ⟨rfl, hb⟩
    have HT := hid (below_t HT.out hb)
    have KA := hid (KA.out.ups hb)
    have KB := hid (KB.out.ups hb)
    clear hb
    clear hq
    go_wp2
    go_ret
    exact ⟨rfl, HT.out⟩
  have HFA := hid hfa
  cases hfb : few b
  · have HFB := hid hfb
    clear hfa hfb
    go_enter Tryd.func4, Tryd.ntmps4
    go_wp2_with fail
    refine (HSA.out).mono ?_
    rintro e wn ⟨rfl, hb⟩
    have HT := hid (below_t HT.out hb)
    have KA := hid (KA.out.ups hb)
    have KB := hid (KB.out.ups hb)
    clear hb
    go_wp2_with fail
    have hq := few_any _ _ wn KA.out HTA.out
    rw [HFA.out] at hq
    refine (hq).mono ?_
    rintro e wn ⟨rfl, hb⟩
    have HT := hid (below_t HT.out hb)
    have KA := hid (KA.out.ups hb)
    have KB := hid (KB.out.ups hb)
    clear hb
    clear hq
    go_wp2_with fail
    have hq := few_any _ _ wn KB.out HTB.out
    rw [HFB.out] at hq
    refine (hq).mono ?_
    rintro e wn ⟨rfl, hb⟩
    have HT := hid (below_t HT.out hb)
    have KA := hid (KA.out.ups hb)
    have KB := hid (KB.out.ups hb)
    clear hb
    clear hq
    go_wp2
    go_ret
    exact ⟨rfl, HT.out⟩
  have HFB := hid hfb
  by_cases h1 : (1000 : Int) < s.size
  · clear hfa hfb
    go_enter Tryd.func4, Tryd.ntmps4
    go_wp2_with fail
    refine (HSA.out).mono ?_
    rintro e wn ⟨rfl, hb⟩
    have HT := hid (below_t HT.out hb)
    have KA := hid (KA.out.ups hb)
    have KB := hid (KB.out.ups hb)
    clear hb
    go_wp2_with fail
    have hq := few_any _ _ wn KA.out HTA.out
    rw [HFA.out] at hq
    refine (hq).mono ?_
    rintro e wn ⟨rfl, hb⟩
    have HT := hid (below_t HT.out hb)
    have KA := hid (KA.out.ups hb)
    have KB := hid (KB.out.ups hb)
    clear hb
    clear hq
    go_wp2_with fail
    have hq := few_any _ _ wn KB.out HTB.out
    rw [HFB.out] at hq
    refine (hq).mono ?_
    rintro e wn ⟨rfl, hb⟩
    have HT := hid (below_t HT.out hb)
    have KA := hid (KA.out.ups hb)
    have KB := hid (KB.out.ups hb)
    clear hb
    clear hq
    go_wp2
    go_ret
    exact ⟨rfl, HT.out⟩
  have HTX := hid (fun W (hk : Konst W) (hv : KS W (.slice p a.length c) a) => Text_any (.slice p a.length c) a W hk hv (by have := (few_len hfa).1; omega) (fun x hx => Nat.le_trans (mem_sum hx) (Nat.le_trans (few_len hfa).2 (by unfold maxLen; omega))) (fun hh => Nat.le_trans (few_join hfa hh) (by omega)))
  clear hfa hfb
  go_enter Tryd.func4, Tryd.ntmps4
  go_wp2_with fail
  refine (HSA.out).mono ?_
  rintro e wn ⟨rfl, hb⟩
  have HT := hid (below_t HT.out hb)
  have KA := hid (KA.out.ups hb)
  have KB := hid (KB.out.ups hb)
  clear hb
  go_wp2_with fail
  have hq := few_any _ _ wn KA.out HTA.out
  rw [HFA.out] at hq
  refine (hq).mono ?_
  rintro e wn ⟨rfl, hb⟩
  have HT := hid (below_t HT.out hb)
  have KA := hid (KA.out.ups hb)
  have KB := hid (KB.out.ups hb)
  clear hb
  clear hq
  go_wp2_with fail
  have hq := few_any _ _ wn KB.out HTB.out
  rw [HFB.out] at hq
  refine (hq).mono ?_
  rintro e wn ⟨rfl, hb⟩
  have HT := hid (below_t HT.out hb)
  have KA := hid (KA.out.ups hb)
  have KB := hid (KB.out.ups hb)
  clear hb
  clear hq
  go_wp2_with fail
  refine (HTX.out wn (HK.out.up HT.out) KA.out).mono ?_
  rintro e wn ⟨rfl, hb⟩
  have HT := hid (below_t HT.out hb)
  have KA := hid (KA.out.ups hb)
  have KB := hid (KB.out.ups hb)
  clear hb
  go_wp2_with fail
  refine (rtext_any _ _ wn KA.out HFA.out).mono ?_
  rintro e wn ⟨rfl, hb⟩
  have HT := hid (below_t HT.out hb)
  have KA := hid (KA.out.ups hb)
  have KB := hid (KB.out.ups hb)
  clear hb
  go_wp2_with fail
  refine (Same_any _ _ _ _ wn KA.out KB.out).mono ?_
  rintro e wn ⟨rfl, hb⟩
  have HT := hid (below_t HT.out hb)
  have KA := hid (KA.out.ups hb)
  have KB := hid (KB.out.ups hb)
  clear hb
  go_wp2_with fail
  refine (rsame_any _ _ _ _ wn KA.out KB.out).mono ?_
  rintro e wn ⟨rfl, hb⟩
  have HT := hid (below_t HT.out hb)
  have KA := hid (KA.out.ups hb)
  have KB := hid (KB.out.ups hb)
  clear hb
  go_wp2_with fail
  have hq := Same_any _ _ _ _ wn KA.out KA.out
  rw [show sme a a = true from decide_eq_true rfl] at hq
  refine (hq).mono ?_
  rintro e wn ⟨rfl, hb⟩
  have HT := hid (below_t HT.out hb)
  have KA := hid (KA.out.ups hb)
  have KB := hid (KB.out.ups hb)
  clear hb
  clear hq
  go_wp2_with fail
  refine (HNM.out wn (HK.out.up HT.out)).mono ?_
  rintro e wn ⟨rfl, hb⟩
  have HT := hid (below_t HT.out hb)
  have KA := hid (KA.out.ups hb)
  have KB := hid (KB.out.ups hb)
  clear hb
  go_wp2_with fail
  refine (rname2_any s wn HS.out).mono ?_
  rintro e w9 ⟨rfl, rfl⟩
  go_wp2
  go_ret
  exact ⟨rfl, HT.out⟩
end Go.Proofs.YtgckigolbajhoaaDoor

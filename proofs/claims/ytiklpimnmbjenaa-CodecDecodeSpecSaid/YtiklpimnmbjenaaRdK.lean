/- The reference's Decode: lemmas. -/
import Derived.Test.YtiklpimnmbjenaaRdJ
import Derived.Test.YtiklpimnmbjenaaV
import Derived.Test.YtiklpimnmbjenaaQ
namespace Go.Proofs.Ytiklpimnmbjenaa
open Go.RowKit Go
set_option linter.unusedVariables false
set_option linter.unusedSimpArgs false
theorem hgts_dps : ∀ (l : List T) (m k : Nat), (∀ t ∈ l, ∀ d, dp t = some d → hgt t ≤ d + 1) → dps l m = some k → hgts l ≤ k + 1 ∧ m ≤ k := by
  intro l
  induction l with
  | nil => intro m k _ h; rw [dps] at h; simp at h; rw [hgts]; omega
  | cons t r ih =>
    intro m k hl h
    rw [dps_cons] at h
    cases ht : dp t with
    | none => rw [ht] at h; cases h
    | some d =>
      rw [ht] at h
      have h1 := hl t (by simp) d ht
      obtain ⟨h2, h3⟩ := ih (max m d) k (fun t h => hl t (by simp [h])) h
      rw [hgts]; omega
theorem hgt_dp (t : T) : ∀ d, dp t = some d → hgt t ≤ d + 1 := by
  induction t using T.all with
  | step k n s l ih =>
    intro d h
    have hg := (dp_good (by rw [h]; rfl : (dp (.mk k n s l)).isSome = true)).1
    rw [dp_mk, if_pos hg] at h
    rw [hgt_mk]
    by_cases h3 : k = 3
    · rw [if_pos h3] at h
      cases hd : dps l 0 with
      | none => rw [hd] at h; cases h
      | some x => rw [hd] at h; simp at h; have := (hgts_dps l 0 x ih hd).1; omega
    · have : l = [] := by unfold cln at hg; cases l <;> grind
      subst this; rw [hgts]; omega
theorem own_conv {w : World} {base : Nat} {v : Value} {l : List Int} (h : Own w base v l) : (convert 27 9 v).run Try.prog w = .ok (.string (strOfNums l)) w := by
  obtain ⟨g, c, rfl, ho⟩ := h
  have HO : Row w g l.length c l := by
    have h1 := row_lt' ho
    refine ⟨ho.1, ?_⟩
    rcases ho.2 with ⟨h, _⟩ | ⟨g', cap', cur, hv, r1, r⟩
    · simp at h
    · simp only [Value.slice.injEq, Option.some.injEq, Addr.mk.injEq, and_true, true_and] at hv
      obtain ⟨rfl, rfl⟩ := hv
      exact .inr ⟨g, c, cur, rfl, Nat.le_refl _, r⟩
  exact conv_row HO rfl
theorem inb_conv {w : World} {v : Value} {l : List Int} (h : InB w v l) : (convert 27 9 v).run Try.prog w = .ok (.string (strOfNums l)) w := by
  obtain ⟨h0, p, cap, rfl, h1, h2⟩ := h
  by_cases hl : l = []
  · subst hl; exact conv_zero (P := Try.prog) w 27 5 Try.underlying27 (by kernel_rfl) p cap 9 Try.underlying9
  · obtain ⟨c, o, rfl, h3, h4⟩ := h2 hl
    exact run_convert_bytes_arg (P := Try.prog) w 27 5 Try.underlying27 (by kernel_rfl) c o l.length cap l rfl (fun i hi => by
      have := h4 i l[i] (List.getElem?_eq_getElem hi)
      rw [this]; simp [List.getD, List.getElem?_eq_getElem hi]) 9 Try.underlying9
theorem InB.up {w W : World} {v : Value} {l : List Int} (h : InB w v l) (hb : Below w.heap.size w W) : InB W v l := by
  obtain ⟨h0, p, cap, rfl, h1, h2⟩ := h
  refine ⟨h0, p, cap, rfl, h1, fun hl => ?_⟩
  obtain ⟨c, o, rfl, h3, h4⟩ := h2 hl
  exact ⟨c, o, rfl, Nat.lt_of_lt_of_le h3 hb.size, h4.kept fun j => hb.cell (p := ⟨c, j, none⟩) h3⟩
/-- what decB accepts -/
theorem decB_some {l : List Int} {t : T} (hb : ∀ c ∈ l, 0 ≤ c ∧ c < 256) (h : pv 16 l = some (t, [])) : l = enc t ∧ SzErr (dp t) = 0 ∧ (dp t).isSome = true ∧ hgt t ≤ 1000 := by
  obtain ⟨h1, k, h2, h3⟩ := pv_sound 16 l t [] hb h
  refine ⟨by simpa using h1, ?_, by rw [h2]; rfl, ?_⟩
  · rw [h2]; simp [SzErr]; omega
  · have := hgt_dp t k h2; omega
/-- the world in which the reference's Decode calls Value -/
abbrev D1 (w : World) (p : Option Addr) (len cap : Nat) : World :=
  (w.alloc (.cells #[.int .i64 0, .int .i64 0, .string ⟨#[]⟩, .slice none 0 0] 24)).alloc (.cells #[.slice p len cap, .int .i64 0, .bool false] 55)
theorem D1_below (w : World) (p : Option Addr) (len cap : Nat) : Below w.heap.size w (D1 w p len cap) := ((Below.refl _ _).alloc (Nat.le_refl _) _).alloc (by simp) _
theorem D1_rr {w : World} {p : Option Addr} {l : List Int} {cap : Nat} (hv : InB w (.slice p l.length cap) l) (hl : l.length ≤ 1000000) : RR (D1 w p l.length cap) (w.heap.size + 1) l 0 false := by
  obtain ⟨hby, p', cap', he, hlc, hc⟩ := hv
  simp only [Value.slice.injEq, true_and] at he
  obtain ⟨rfl, rfl⟩ := he
  refine ⟨hby, by unfold D1; simp [go_sem], Nat.zero_le _, by omega, ⟨p, cap, by unfold D1; simp [go_sem], hlc, fun hl => ?_⟩, by unfold D1; simp [go_sem], by unfold D1; simp [go_sem], by unfold D1; simp [go_sem], by unfold D1; simp [go_sem]⟩
  obtain ⟨c, o, hp, hlt, hb⟩ := hc hl
  refine ⟨c, o, hp, by omega, hb.kept fun o => (D1_below w p l.length cap).cell (p := ⟨c, o, none⟩) hlt⟩
theorem D1_after {w w1 : World} {p : Option Addr} {len cap : Nat} (hg : (D1 w p len cap).grownBy w1 (some (w.heap.size + 1))) : Zed w1 w.heap.size ∧ Below w.heap.size w w1 :=
  ⟨((Zed.new w).grown (grown_alloc _ _ (some (w.heap.size + 1))) (by omega)).grown hg (by omega), (D1_below w p len cap).trans (below_of_grown hg (by omega) (D1_below w p len cap).size)⟩
end Go.Proofs.Ytiklpimnmbjenaa

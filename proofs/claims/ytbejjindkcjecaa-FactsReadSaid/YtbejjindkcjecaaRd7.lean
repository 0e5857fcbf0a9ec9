/- The law Read: its lists. -/
import Derived.Test.YtbejjindkcjecaaWup
namespace Go.Proofs.Ytbejjindkcjecaa
open Go.RowKit Go
set_option linter.unusedVariables false
set_option linter.unusedSimpArgs false
theorem ok_at {n : Int} : ∀ {p : Int} {l : List (Int × Int)} {j : Nat} {s : Int × Int}, T6.ok n p l → l[j]? = some s → p < s.1 ∧ s.1 < s.2 ∧ s.2 ≤ n
  | _, [], _, _, _, h => by simp at h
  | p, (f, t) :: r, j, s, ⟨h1, h2, h3, h4⟩, h => by
    cases j with
    | zero => simp at h; subst h; exact ⟨h1, h2, h3⟩
    | succ j =>
      have := ok_at (l := r) (j := j) h4 (by simpa using h)
      exact ⟨by omega, this.2⟩
theorem ok_next {n : Int} : ∀ {p : Int} {l : List (Int × Int)} {j : Nat} {s u : Int × Int}, T6.ok n p l → l[j]? = some s → l[j + 1]? = some u → s.2 < u.1
  | _, [], _, _, _, _, h, _ => by simp at h
  | p, (f, t) :: r, j, s, u, ⟨h1, h2, h3, h4⟩, h, h' => by
    cases j with
    | zero =>
      simp at h; subst h
      exact (ok_at (l := r) (j := 0) h4 (by simpa using h')).1
    | succ j => exact ok_next (l := r) (j := j) h4 (by simpa using h) (by simpa using h')
/-- the read meets the span -/
def hitS (r : RD) (kk : KE) (s : Int × Int) : Bool := decide (kk = r.1) && decide (max r.2.1 s.1 < min r.2.2 s.2)
def hitC (r : RD) (c : CK) : Bool := c.2.any (hitS r c.1)
def hits (r : RD) (cs : List CK) : Bool := cs.any (hitC r)
theorem hits_alk (q q' : Int) (L : List FA) (r : RD) : alk q q' L [r] = !hits r (F7.changes q q' L) := by
  have h1 : alk q q' L [r] = decide (F7.points r.1 r.2.1 r.2.2 q L = F7.points r.1 r.2.1 r.2.2 q' L) := by simp [alk, alk1]
  rw [h1]
  have h2 : hits r (F7.changes q q' L) = true ↔ ∃ s ∈ F7.difs r.1 q q' L, max r.2.1 s.1 < min r.2.2 s.2 := by
    unfold hits hitC hitS
    simp only [List.any_eq_true, Bool.and_eq_true, decide_eq_true_eq]
    constructor
    · rintro ⟨⟨kk, ss⟩, hm, s, hs, rfl, hlt⟩
      obtain ⟨rfl, _⟩ := F7.mem_changes.1 hm
      exact ⟨s, hs, hlt⟩
    · rintro ⟨s, hs, hlt⟩
      exact ⟨(r.1, F7.difs r.1 q q' L), F7.mem_changes.2 ⟨rfl, fun e => by rw [e] at hs; cases hs⟩, s, hs, rfl, hlt⟩
  by_cases h : ∃ s ∈ F7.difs r.1 q q' L, max r.2.1 s.1 < min r.2.2 s.2
  · rw [h2.2 h]
    exact decide_eq_false (fun e => F7.alike_iff.1 e h)
  · cases hh : hits r (F7.changes q q' L) with
    | true => exact absurd (h2.1 hh) h
    | false => exact decide_eq_true (F7.alike_iff.2 h)
/-- at the start of a span that differs the values differ -/
theorem dif_at {q q' : Int} {L : List FA} {kk : KE} {ss : List (Int × Int)} (h : (kk, ss) ∈ F7.changes q q' L) {j : Nat} {s : Int × Int} (hj : ss[j]? = some s) :
    0 ≤ s.1 ∧ s.1 < s.2 ∧ s.2 ≤ 1024 ∧ F7.val kk s.1 q L ≠ F7.val kk s.1 q' L ∧ (∀ i u, j = i + 1 → ss[i]? = some u → u.2 < s.1) := by
  obtain ⟨rfl, _⟩ := F7.mem_changes.1 h
  have hok := F7.difs_ok kk q q' L
  obtain ⟨h1, h2, h3⟩ := ok_at hok hj
  have hh : T6.has (F7.difs kk q q' L) s.1 := ⟨s, List.mem_of_getElem? hj, Int.le_refl _, h2⟩
  refine ⟨by omega, h2, h3, ((F7.difs_has kk q q' L s.1).1 hh).2.2, fun i u e hu => ?_⟩
  subst e
  exact ok_next hok hu hj
end Go.Proofs.Ytbejjindkcjecaa

/- Appending rows to a row of one's own. -/
import Derived.Test.YtbejjindkcjecaaRefB
import Derived.Deep.Upon
namespace Go.Proofs.Ytbejjindkcjecaa
open Go.RowKit Go
set_option linter.unusedVariables false
set_option linter.unusedSimpArgs false
theorem fo_lit {W : World} {B base : Nat} (hB : Blk W B 28 []) (h : base ≤ B) : FO W base (.slice (some ⟨B, 0, none⟩) 0 0) [] :=
  ⟨by simp, .inr ⟨B, 0, #[], rfl, h, hB, Nat.le_refl _, by simp [maxLen], by simp, by simp⟩⟩
theorem app_none {W : World} {b : Option Addr} {n cap : Nat} {q : Option Addr} {c : Nat} (hle : n ≤ cap) (h : q = none → c = 0) : (Builtin.append_ #[22, 22] 22 #[.slice b n cap, .slice q 0 c]).run Try.prog W = .ok (.slice b n cap) W := by
  obtain ⟨i, hi, hf⟩ := Option.map_eq_some_iff.1 info28
  cases q with
  | none =>
    obtain rfl := h rfl
    cases b <;> simp [Builtin.append_, run_underlying Try.underlying22, sizeOf, typeInfo, hi, Builtin.lenOf, run_firstCells_none, hle, storeCells]
  | some a =>
    have hfc := run_firstCells_some (P := Try.prog) W i.size 0 a 0 c [] (by simp) (fun j v hj => by simp at hj)
    cases b <;> simp [Builtin.append_, run_underlying Try.underlying22, sizeOf, typeInfo, hi, Builtin.lenOf, hfc, hle, storeCells]
theorem app_more {W : World} {base : Nat} {v x : Value} {l m : List FA} (h : FO W base v l) (hx : FS W x m) (hl : l.length ≤ 1000000) (hm : m.length ≤ 1000000) (hb : base ≤ W.heap.size) :
    ∃ v' W', (Builtin.append_ #[22, 22] 22 #[v, x]).run Try.prog W = .ok v' W' ∧ FO W' base v' (l ++ m) ∧ Below base W W' := by
  obtain ⟨i, hi, hf⟩ := Option.map_eq_some_iff.1 info28
  simp only [Prod.mk.injEq] at hf
  obtain ⟨hz, hs, hbyt⟩ := hf
  obtain ⟨z, hz, hzs⟩ := Option.map_eq_some_iff.1 hz
  by_cases h0 : m = []
  · subst h0
    obtain ⟨p, c, rfl⟩ := h.gs.form
    obtain ⟨q, c', hq⟩ := hx.form
    subst hq
    refine ⟨_, W, app_none h.gs.cap.2.1 (fun e => ?_), by rw [List.append_nil]; exact h, Below.refl _ _⟩
    rcases hx with ⟨e', _⟩ | ⟨a, c2, e', _⟩
    · cases e'; rfl
    · cases e'; cases e
  · rcases hx with ⟨_, e⟩ | ⟨a, c, e, hlc, hmx, hcs⟩
    · exact absurd e h0
    · subst e
      have hpos : 0 < m.length := List.length_pos_iff.2 h0
      have h' : W.ownsRow base 28 8 v l.length (l.flatMap fc) := h
      obtain ⟨g, c', W', h1, h2, h3, _⟩ := run_append_lies (P := Try.prog) (w := W) 22 22 base 28 i z 8 64 Try.underlying22 hi hz hs hbyt hzs (by omega) v l.length (l.flatMap fc) h' a m.length c (m.flatMap fc) (flat_length fc 8 fc_len m) (fun j u hj => hcs.1 j u hj)
        (fun u hu => by obtain ⟨f, _, hf⟩ := List.mem_flatMap.1 hu; exact fc_one f u hf) hpos (by unfold maxLen; omega) (by omega) hb _ rfl
      refine ⟨_, W', h1, ?_, (Below.refl _ W).grown h3 hb (fun j hj => (GO.lt h j hj).1)⟩
      show GO 28 8 fc W' base _ (l ++ m)
      unfold GO
      rw [List.length_append, List.flatMap_append]
      exact h2
/-- rows appended to an empty literal -/
theorem app_lit {W : World} {B base : Nat} {x : Value} {m : List FA} (hB : Blk W B 28 []) (hb : base ≤ B) (hx : FS W x m) (hm : m.length ≤ 1000000) :
    ∃ v' W', (Builtin.append_ #[22, 22] 22 #[.slice (some ⟨B, 0, none⟩) 0 0, x]).run Try.prog W = .ok v' W' ∧ FO W' base v' m ∧ Below W.heap.size W W' := by
  obtain ⟨i, hi, hf⟩ := Option.map_eq_some_iff.1 info28
  simp only [Prod.mk.injEq] at hf
  obtain ⟨hz, hs, hbyt⟩ := hf
  obtain ⟨z, hz, hzs⟩ := Option.map_eq_some_iff.1 hz
  by_cases h0 : m = []
  · subst h0
    obtain ⟨q, c', hq⟩ := hx.form
    subst hq
    refine ⟨_, W, app_none (Nat.le_refl _) (fun e => ?_), fo_lit hB hb, Below.refl _ _⟩
    rcases hx with ⟨e', _⟩ | ⟨a, c2, e', _⟩
    · cases e'; rfl
    · cases e'; cases e
  · rcases hx with ⟨_, e⟩ | ⟨a, c, e, hlc, hmx, hcs⟩
    · exact absurd e h0
    · subst e
      have hpos : 0 < m.length := List.length_pos_iff.2 h0
      obtain ⟨v', W', h1, h2, h3⟩ := run_append_arg_grows (P := Try.prog) W 22 22 28 i z 8 64 Try.underlying22 hi hz hs hbyt hzs (by omega) ⟨B, 0, none⟩ 0 0 [] rfl (fun j u hj => by simp at hj) a m.length c (m.flatMap fc) (flat_length fc 8 fc_len m) (fun j u hj => hcs.1 j u hj) (by omega) (by unfold maxLen; omega) (by omega)
      refine ⟨v', W', h1, ?_, (Below.refl _ W).grown h3 (Nat.le_refl _) (fun j hj => by cases hj)⟩
      have hlt := hB.lt
      refine GO.mono (b := W.heap.size) ?_ (by omega)
      show GO 28 8 fc W' W.heap.size v' m
      unfold GO
      rw [Nat.zero_add, List.nil_append] at h2
      exact h2
end Go.Proofs.Ytbejjindkcjecaa

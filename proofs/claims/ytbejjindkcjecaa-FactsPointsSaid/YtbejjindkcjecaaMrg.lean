/- The merge in place of two sorted lists of facts, step by step: what the stable sort of more than 20 does with its blocks. No program. -/
import Derived.Test.YtbejjindkcjecaaSp
namespace Go.Proofs.Ytbejjindkcjecaa
open Go.RowKit Go
set_option linter.unusedVariables false
set_option linter.unusedSimpArgs false
theorem one_eqv {x : FA} : ∀ (Y : List FA), (∀ y ∈ Y, F7.bef y x) → Eqv ([x] ++ Y) (Y ++ [x])
  | [], _ => by simpa using Eqv.refl [x]
  | y :: Y, h => by
    have h1 : Eqv ([x, y] ++ Y) ([y, x] ++ Y) := (swap_eqv (h y (by simp))).app (Eqv.refl Y)
    have h2 : Eqv ([y] ++ ([x] ++ Y)) ([y] ++ (Y ++ [x])) := (Eqv.refl [y]).app (one_eqv Y fun z hz => h z (List.mem_cons_of_mem _ hz))
    exact h1.trans (by simpa using h2)
/-- two blocks change places where each of the later ones is ahead of each of the earlier ones -/
theorem cross_eqv : ∀ (X Y : List FA), (∀ x ∈ X, ∀ y ∈ Y, F7.bef y x) → Eqv (X ++ Y) (Y ++ X)
  | [], Y, _ => by simpa using Eqv.refl Y
  | x :: X, Y, h => by
    have h1 : Eqv ([x] ++ (X ++ Y)) ([x] ++ (Y ++ X)) := (Eqv.refl [x]).app (cross_eqv X Y fun z hz => h z (List.mem_cons_of_mem _ hz))
    have h2 : Eqv (([x] ++ Y) ++ X) ((Y ++ [x]) ++ X) := (one_eqv Y fun y hy => h x (by simp) y hy).app (Eqv.refl X)
    have h3 := h1.trans (by simpa using h2)
    simpa using h3
/-- l' is l, sorted in a stable way -/
def Mg (l l' : List FA) : Prop := Eqv l l' ∧ Srt l' ∧ l.Perm l'
theorem Srt.app {A B : List FA} (h : Srt A) (k : Srt B) (c : ∀ a ∈ A, ∀ b ∈ B, ¬ F7.bef b a) : Srt (A ++ B) := List.pairwise_append.2 ⟨h, k, c⟩
theorem Srt.parts {A B : List FA} (h : Srt (A ++ B)) : Srt A ∧ Srt B ∧ ∀ a ∈ A, ∀ b ∈ B, ¬ F7.bef b a := List.pairwise_append.1 h
theorem bef_asym {a b : FA} (h : F7.bef a b) : ¬ F7.bef b a := fun k => F7.bef_irrefl _ (F7.bef_trans h k)
/-- nothing to merge -/
theorem mg_sorted {l : List FA} (h : Srt l) : Mg l l := ⟨Eqv.refl l, h, List.Perm.refl l⟩
/-- the first of two lists is one fact: it goes behind those that are ahead of it -/
theorem mg_left {x : FA} {Y B : List FA} (h : Srt (Y ++ B)) (hy : ∀ y ∈ Y, F7.bef y x) (hb : ∀ b ∈ B, ¬ F7.bef b x) : Mg ([x] ++ (Y ++ B)) (Y ++ ([x] ++ B)) := by
  obtain ⟨h1, h2, h3⟩ := h.parts
  refine ⟨?_, ?_, ?_⟩
  · have := (one_eqv Y hy).app (Eqv.refl B)
    simpa using this
  · refine h1.app (Srt.app (List.pairwise_singleton _ x) h2 fun a ha b hb1 => by rw [List.mem_singleton.1 ha]; exact hb b hb1) ?_
    intro a ha b hb'
    rcases List.mem_append.1 hb' with e | e
    · rw [List.mem_singleton.1 e]; exact bef_asym (hy a ha)
    · exact h3 a ha b e
  · simpa using List.perm_middle.symm
/-- the second of two lists is one fact: it goes ahead of those that it is ahead of -/
theorem mg_right {y : FA} {A X : List FA} (h : Srt (A ++ X)) (ha : ∀ a ∈ A, ¬ F7.bef y a) (hx : ∀ x ∈ X, F7.bef y x) : Mg ((A ++ X) ++ [y]) (A ++ ([y] ++ X)) := by
  obtain ⟨h1, h2, h3⟩ := h.parts
  refine ⟨?_, ?_, ?_⟩
  · have := (Eqv.refl A).app (cross_eqv X [y] fun x hx' z hz => by rw [List.mem_singleton.1 hz]; exact hx x hx')
    simpa using this
  · refine h1.app (Srt.app (List.pairwise_singleton _ y) h2 ?_) ?_
    · intro a ha' b hb
      rw [List.mem_singleton.1 ha']; exact bef_asym (hx b hb)
    · intro a ha' b hb'
      rcases List.mem_append.1 hb' with e | e
      · rw [List.mem_singleton.1 e]; exact ha a ha'
      · exact h3 a ha' b e
  · rw [List.append_assoc]
    exact (List.perm_append_comm (l₁ := X) (l₂ := [y])).append_left A
/-- both lists parted, the inner parts change places, then each half by itself -/
theorem mg_step {A X Y B l1 l2 : List FA} (h1 : Srt (A ++ X)) (h2 : Srt (Y ++ B)) (hyx : ∀ x ∈ X, ∀ y ∈ Y, F7.bef y x) (hab : ∀ a ∈ A, ∀ b ∈ B, ¬ F7.bef b a) (m1 : Mg (A ++ Y) l1) (m2 : Mg (X ++ B) l2) :
    Mg ((A ++ X) ++ (Y ++ B)) (l1 ++ l2) := by
  obtain ⟨a1, a2, a3⟩ := h1.parts
  obtain ⟨b1, b2, b3⟩ := h2.parts
  obtain ⟨e1, s1, p1⟩ := m1
  obtain ⟨e2, s2, p2⟩ := m2
  refine ⟨?_, ?_, ?_⟩
  · have hc : Eqv (A ++ ((X ++ Y) ++ B)) (A ++ ((Y ++ X) ++ B)) := (Eqv.refl A).app ((cross_eqv X Y hyx).app (Eqv.refl B))
    have hd : Eqv ((A ++ Y) ++ (X ++ B)) (l1 ++ l2) := e1.app e2
    exact (by simpa using hc : Eqv ((A ++ X) ++ (Y ++ B)) ((A ++ Y) ++ (X ++ B))).trans hd
  · refine s1.app s2 ?_
    intro u hu v hv
    rcases List.mem_append.1 (p1.mem_iff.2 hu) with eu | eu <;> rcases List.mem_append.1 (p2.mem_iff.2 hv) with ev | ev
    · exact a3 u eu v ev
    · exact hab u eu v ev
    · exact bef_asym (hyx v ev u eu)
    · exact b3 u eu v ev
  · refine List.Perm.trans ?_ (p1.append p2)
    have : ((A ++ X) ++ (Y ++ B)).Perm (A ++ ((Y ++ X) ++ B)) := by
      rw [List.append_assoc, ← List.append_assoc X Y B]
      exact ((List.perm_append_comm (l₁ := X) (l₂ := Y)).append_right B).append_left A
    simpa using this
end Go.Proofs.Ytbejjindkcjecaa

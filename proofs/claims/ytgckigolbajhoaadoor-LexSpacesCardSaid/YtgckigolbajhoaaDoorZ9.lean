/- What the laws say, plainly: white space and comments. -/
import Derived.Test.YtgckigolbajhoaaDoorX9
namespace L9
open Go
/-- bytes that have no tokens, whatever follows -/
def Gap (g : B) : Prop := ∀ (r : B) (a : Nat), lx (g ++ r) a = lx r (a + g.length)
theorem gap_nil : Gap [] := fun r a => by rw [List.nil_append]; rfl
theorem gap_app {g h : B} (hg : Gap g) (hh : Gap h) : Gap (g ++ h) := fun r a => by
  rw [List.append_assoc, hg, hh, List.length_append]
  congr 1; omega
theorem gap_one {c : UInt8} (h : isW c = true) : Gap [c] := fun r a => by
  rw [List.singleton_append, lx_skip (n := 1) a (by simp [stp, h])]; rfl
theorem gap_com {w : B} (h : ∀ c ∈ w, nLF c = true) : Gap ([47, 47] ++ w ++ [10]) := fun r a => by
  have htw : ([47, 47] ++ w ++ [10] ++ r).takeWhile nLF = [47, 47] ++ w := by
    have h2 : ∀ c ∈ [47, 47] ++ w, nLF c = true := by
      intro c hc
      rcases List.mem_append.1 hc with hc | hc
      · simp at hc; subst hc; rfl
      · exact h c hc
    rw [List.append_assoc]
    exact tw_stop h2 (by intro c m e; simp at e; rw [← e.1]; rfl)
  have hs : stp ([47, 47] ++ w ++ [10] ++ r) = .skip ([47, 47] ++ w).length := by
    have hcons : [47, 47] ++ w ++ [10] ++ r = 47 :: (47 :: (w ++ [10] ++ r)) := by simp
    have hs0 : stp (47 :: (47 :: (w ++ [10] ++ r))) = .skip ((47 :: (47 :: (w ++ [10] ++ r))).takeWhile nLF).length := by
      have hsl : slashes (47 :: (47 :: (w ++ [10] ++ r))) = true := by simp [slashes]
      simp only [stp]
      rw [if_neg (by decide), if_pos hsl]
    rw [hcons, hs0, ← hcons, htw]
  rw [lx_skip a hs]
  have hd : ([47, 47] ++ w ++ [10] ++ r).drop ([47, 47] ++ w).length = [10] ++ r := by
    rw [List.append_assoc]; exact List.drop_left
  rw [hd, gap_one (by decide) r]
  congr 1; simp only [List.length_append]; omega
/-- tokens with gaps behind them -/
def sp (l : List (T × B)) : B := l.flatMap (fun p => tx p.1 ++ [32] ++ p.2)
theorem sp_snoc (l : List (T × B)) (x : T) (g : B) : sp (l ++ [(x, g)]) = sp l ++ (tx x ++ [32] ++ g) := by simp [sp]
theorem lx_sp : ∀ (l : List (T × B)) (a : Nat), (∀ p ∈ l, vld p.1 = true ∧ Gap p.2) → ∃ m, lx (sp l) a = .ok m ∧ m.map core = l.map (fun p => core p.1)
  | [], a, _ => ⟨[], rfl, rfl⟩
  | (x, g) :: r, a, h => by
    obtain ⟨hx, hg⟩ := h (x, g) (by simp)
    have hs : sp ((x, g) :: r) = tx x ++ (32 :: (g ++ sp r)) := by simp [sp]
    obtain ⟨h1, h2, h3⟩ := stp_back (r := 32 :: (g ++ sp r)) hx (by intro c m e; simp at e; rw [← e.1]; rfl)
    rw [hs, lx_tok a h1, List.drop_left, lx_skip (n := 1) _ (by simp [stp, isW]), List.drop_succ_cons, List.drop_zero, hg]
    obtain ⟨m, e1, e2⟩ := lx_sp r (a + (tx x).length + 1 + g.length) (fun p hp => h p (by simp [hp]))
    rw [e1]
    exact ⟨_, rfl, by rw [List.map_cons, List.map_cons, core_tok x _ h3, e2]⟩
theorem lx_sp0 (l : List (T × B)) (h : ∀ p ∈ l, vld p.1 = true ∧ Gap p.2) : ∃ m, lx (10 :: sp l) 0 = .ok m ∧ m.map core = l.map (fun p => core p.1) := by
  rw [lx_skip (n := 1) 0 (by simp [stp, isW]), List.drop_succ_cons, List.drop_zero]
  exact lx_sp l _ h
theorem sp_len (l : List (T × B)) (h : ∀ p ∈ l, vld p.1 = true ∧ p.2.length ≤ 105) : (sp l).length ≤ (l.map (·.1.t.length)).sum + 119 * l.length := by
  induction l with
  | nil => simp [sp]
  | cons p r ih =>
    have h1 := h p (by simp)
    have h2 := ih (fun q hq => h q (by simp [hq]))
    have h3 := tx_len p.1 h1.1
    have hs : sp (p :: r) = tx p.1 ++ [32] ++ p.2 ++ sp r := by simp [sp]
    rw [hs]
    simp only [List.length_append, List.map_cons, List.sum_cons, List.length_cons, List.length_nil]
    omega
/-- the eight gaps -/
def gaps (w : B) : List B := [[32], [9], [10], [13, 10], [32, 32], [47, 47] ++ w ++ [10], [32, 47, 47, 32, 10], [10, 47, 47, 10]]
theorem gaps_gap {w : B} (h : ∀ c ∈ w, nLF c = true) (hl : w.length ≤ 100) : ∀ g ∈ gaps w, Gap g ∧ g.length ≤ 105 := by
  intro g hg
  simp only [gaps, List.mem_cons, List.not_mem_nil, or_false] at hg
  rcases hg with rfl | rfl | rfl | rfl | rfl | rfl | rfl | rfl
  · exact ⟨gap_one (by decide), by simp⟩
  · exact ⟨gap_one (by decide), by simp⟩
  · exact ⟨gap_one (by decide), by simp⟩
  · exact ⟨gap_app (gap_one (c := 13) (by decide)) (gap_one (c := 10) (by decide)), by simp⟩
  · exact ⟨gap_app (gap_one (c := 32) (by decide)) (gap_one (c := 32) (by decide)), by simp⟩
  · exact ⟨gap_com h, by simp; omega⟩
  · exact ⟨gap_app (gap_one (c := 32) (by decide)) (gap_com (w := [32]) (by decide)), by simp⟩
  · exact ⟨gap_app (gap_one (c := 10) (by decide)) (gap_com (w := []) (by decide)), by simp⟩
end L9

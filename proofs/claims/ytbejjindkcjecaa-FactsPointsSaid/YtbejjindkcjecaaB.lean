/- Contracts: within, terms.Check and terms.Has of one span, cmp.Compare, cmp.Or. -/
import Derived.Test.YtbejjindkcjecaaA
import Derived.Sort.Grow
namespace Go.Proofs.Ytbejjindkcjecaa
open Go.RowKit Go
set_option linter.unusedVariables false
set_option linter.unusedSimpArgs false
/-- n lies between a and b -/
def wth (n a b : Int) : Bool := decide (a ≤ n ∧ n ≤ b)
theorem within_any (n a b : Int) (w : World) : Calls Try.prog 48 #[.int .i64 n, .int .i64 a, .int .i64 b] w fun e w' => e = .returned (.bool (wth n a b)) ∧ w = w' := by
  rcases (by omega : (a ≤ n ∧ n ≤ b) ∨ (a ≤ n ∧ b < n) ∨ n < a) with ⟨h1, h2⟩ | ⟨h1, h2⟩ | h1
  · have hd := hid (show wth n a b = true from decide_eq_true ⟨h1, h2⟩)
    go_enter Try.func48, Try.ntmps48
    go_wp2
    go_ret
    exact ⟨by rw [hd.out]; rfl, rfl⟩
  · have hd := hid (show wth n a b = false from decide_eq_false (by omega))
    have h3 : decide (n ≤ b) = false := decide_eq_false (by omega)
    go_enter Try.func48, Try.ntmps48
    go_wp2
    go_ret
    exact ⟨by rw [hd.out]; rfl, rfl⟩
  · have hd := hid (show wth n a b = false from decide_eq_false (by omega))
    go_enter Try.func48, Try.ntmps48
    go_wp2
    go_ret
    exact ⟨by rw [hd.out]; rfl, rfl⟩
/-- the error of one span -/
def chk1 (f t : Int) : Int := if 0 ≤ f ∧ f < t ∧ t ≤ 1024 then 0 else 60
set_option maxRecDepth 100000 in
theorem check1_any (b o : Nat) (f t : Int) (w : World) (hb : b < w.heap.size) (h1 : w.cell? ⟨b, o, none⟩ = some (.int .i64 f)) (h2 : w.cell? ⟨b, o + 1, none⟩ = some (.int .i64 t)) :
    Calls Try.prog 49 #[.slice (some ⟨b, o, none⟩) 1 1] w fun e w' => e = .returned (.int .i64 (chk1 f t)) ∧ ∃ os, w' = Go.Sort.grow w os := by
  go_enter Try.func49, Try.ntmps49
  go_wp2
  rcases (by omega : (0 ≤ f ∧ f < t ∧ t ≤ 1024) ∨ f < 0 ∨ (0 ≤ f ∧ t ≤ f) ∨ (0 ≤ f ∧ f < t ∧ 1024 < t)) with ⟨c1, c2, c3⟩ | c1 | ⟨c1, c2⟩ | ⟨c1, c2, c3⟩
  · have hd := hid (show chk1 f t = 0 from if_pos ⟨c1, c2, c3⟩)
    refine wp_loop_rounds 2 ?_
    rw [rounds_succ]
    go_wp2
    rw [rounds_succ]
    go_wp2
    go_ret
    exact ⟨by rw [hd.out]; rfl, _, Go.Sort.alloc_eq_grow _ _⟩
  all_goals
    have hd := hid (show chk1 f t = 60 from if_neg (by omega))
    refine wp_loop_rounds 2 ?_
    rw [rounds_succ]
    go_wp2
    go_ret
    exact ⟨by rw [hd.out]; rfl, _, Go.Sort.alloc_eq_grow _ _⟩
/-- one span holds x -/
def has1 (f t x : Int) : Bool := decide (f ≤ x ∧ x < t)
set_option maxRecDepth 100000 in
theorem has1_any (b o : Nat) (f t x : Int) (w : World) (hb : b < w.heap.size) (h1 : w.cell? ⟨b, o, none⟩ = some (.int .i64 f)) (h2 : w.cell? ⟨b, o + 1, none⟩ = some (.int .i64 t)) :
    Calls Try.prog 37 #[.slice (some ⟨b, o, none⟩) 1 1, .int .i64 x] w fun e w' => e = .returned (.bool (has1 f t x)) ∧ w' = w.alloc (.cells #[.int .i64 f, .int .i64 t] 26) := by
  go_enter Try.func37, Try.ntmps37
  go_wp2
  rcases (by omega : (f ≤ x ∧ x < t) ∨ x < f ∨ (f ≤ x ∧ t ≤ x)) with ⟨c1, c2⟩ | c1 | ⟨c1, c2⟩
  · have hd := hid (show has1 f t x = true from decide_eq_true ⟨c1, c2⟩)
    refine wp_loop_rounds 2 ?_
    rw [rounds_succ]
    go_wp2
    go_ret
    exact ⟨by rw [hd.out]; rfl, rfl⟩
  all_goals
    have hd := hid (show has1 f t x = false from decide_eq_false (by omega))
    refine wp_loop_rounds 2 ?_
    rw [rounds_succ]
    go_wp2
    rw [rounds_succ]
    go_wp2
    go_ret
    exact ⟨by rw [hd.out]; rfl, rfl⟩
/-- the comparison of two numbers -/
def cmpI (a b : Int) : Int := if a < b then -1 else if b < a then 1 else 0
theorem isNaN_any (a : Int) (w : World) : Calls Try.prog 59 #[.int .i64 a] w fun e w' => e = .returned (.bool false) ∧ w = w' := by
  go_enter Try.func59, Try.ntmps59
  go_wp2
  go_ret
  exact ⟨rfl, rfl⟩
set_option maxRecDepth 100000 in
theorem compare_any (a b : Int) (w : World) : Calls Try.prog 51 #[.int .i64 a, .int .i64 b] w fun e w' => e = .returned (.int .i64 (cmpI a b)) ∧ w = w' := by
  rcases (by omega : a < b ∨ b < a ∨ a = b) with h | h | h
  · have hd := hid (show cmpI a b = -1 from if_pos h)
    go_enter Try.func51, Try.ntmps51
    go_wp2_with (go_at_call 59; refine (isNaN_any _ _).mono ?_; rintro e w' ⟨rfl, rfl⟩)
    go_ret
    exact ⟨by rw [hd.out]; rfl, rfl⟩
  · have hd := hid (show cmpI a b = 1 from by unfold cmpI; rw [if_neg (by omega), if_pos h])
    go_enter Try.func51, Try.ntmps51
    go_wp2_with (go_at_call 59; refine (isNaN_any _ _).mono ?_; rintro e w' ⟨rfl, rfl⟩)
    go_ret
    exact ⟨by rw [hd.out]; rfl, rfl⟩
  · have hd := hid (show cmpI a b = 0 from by unfold cmpI; rw [if_neg (by omega), if_neg (by omega)])
    have h1 : ¬ a < b := by omega
    have h2 : ¬ b < a := by omega
    clear h
    go_enter Try.func51, Try.ntmps51
    go_wp2_with (go_at_call 59; refine (isNaN_any _ _).mono ?_; rintro e w' ⟨rfl, rfl⟩)
    go_ret
    exact ⟨by rw [hd.out]; rfl, rfl⟩
/-- the first that is not 0 -/
def orl : List Int → Int
  | [] => 0
  | x :: r => if x = 0 then orl r else x
theorem orl_zeros {l : List Int} : ∀ (k : Nat), (∀ x ∈ l.take k, x = 0) → orl l = orl (l.drop k) := by
  induction l with
  | nil => intro k _; simp
  | cons y r ih =>
    intro k h
    cases k with
    | zero => rfl
    | succ k =>
      have h0 : y = 0 := h y (by simp)
      rw [List.drop_succ_cons, ← ih k (fun x hx => h x (by simp [hx]))]
      simp [orl, h0]
set_option maxRecDepth 100000 in
theorem or_any (b o n c : Nat) (l : List Int) (w : World) (hn : n = l.length) (h : ∀ i x, l[i]? = some x → w.cell? ⟨b, o + i, none⟩ = some (.int .i64 x)) (hnc : n ≤ 3) :
    Calls Try.prog 50 #[.slice (some ⟨b, o, none⟩) n c] w fun e w' => e = .returned (.int .i64 (orl l)) ∧ w = w' := by
  have HR := hid h; have HN := hid hn
  clear h hn
  go_enter Try.func50, Try.ntmps50
  go_wp2
  go_loop [8] (fun i => ∃ k : Nat, k ≤ n ∧ i = .int .i64 k ∧ Hid (∀ x ∈ l.take k, x = 0)) (fun i => n - (intOf i).toNat)
  case atStart => exact ⟨0, by omega, rfl, hid (by simp)⟩
  case round =>
    obtain ⟨k, hk, rfl, hz⟩ := hrel
    by_cases hlt : k < n
    · obtain ⟨x, hi⟩ := get_lt (l := l) (i := k) (by rw [← HN.out]; exact hlt)
      have hc := HR.out k x hi
      have hts := hid (take_snoc hi)
      have hdr := hid (show orl l = orl (x :: l.drop (k + 1)) by
        rw [orl_zeros k hz.out]
        obtain ⟨h1, h2⟩ := List.getElem?_eq_some_iff.1 hi
        rw [List.drop_eq_getElem_cons h1, h2])
      clear hi
      by_cases hx : x = 0
      · have hb1 : (x == 0) = true := by simpa using hx
        have hb2 : (x != 0) = false := by simpa using hx
        have HX := hid hx
        clear hx
        go_wp2
        go_round
        case rel => exact ⟨k + 1, by omega, by go_num, hid (by rw [hts.out]; intro y hy; rcases List.mem_append.1 hy with h | h; exact hz.out y h; simp at h; rw [h]; exact HX.out)⟩
        case measure => simp [intOf]; omega
      · have hb1 : (x == 0) = false := by simpa using hx
        have hb2 : (x != 0) = true := by simpa using hx
        have hv := hid (show orl l = x by rw [hdr.out]; simp [orl, hx])
        clear hx
        go_wp2
        go_ret
        exact ⟨by rw [hv.out]; rfl, rfl⟩
    · have hv := hid (show orl l = 0 by rw [orl_zeros k hz.out, show k = l.length by have := HN.out; omega, List.drop_length]; rfl)
      go_wp2
      go_ret
      exact ⟨by rw [hv.out]; rfl, rfl⟩
end Go.Proofs.Ytbejjindkcjecaa

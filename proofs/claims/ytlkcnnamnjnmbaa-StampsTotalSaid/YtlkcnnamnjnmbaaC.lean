/- Contracts: within, cmp.Compare, inTurn, Check, Compare; the reference's Check, compare, Compare. -/
import Derived.Test.YtlkcnnamnjnmbaaRg
namespace Go.Proofs.Ytlkcnnamnjnmbaa
open Go.RowKit Go
set_option linter.unusedVariables false
set_option linter.unusedSimpArgs false
theorem below_t {a b c : World} (h : Below a.heap.size a b) (h2 : Below b.heap.size b c) : Below a.heap.size a c := h.trans (h2.mono h.size)
/-- n lies between a and b -/
def wth (n a b : Int) : Bool := decide (a ≤ n ∧ n ≤ b)
theorem within_any (n a b : Int) (w : World) : Calls Try.prog 26 #[.int .i64 n, .int .i64 a, .int .i64 b] w fun e w' => e = .returned (.bool (wth n a b)) ∧ w = w' := by
  rcases (by omega : (a ≤ n ∧ n ≤ b) ∨ (a ≤ n ∧ b < n) ∨ n < a) with ⟨h1, h2⟩ | ⟨h1, h2⟩ | h1
  · have hd := hid (show wth n a b = true from decide_eq_true ⟨h1, h2⟩)
    go_enter Try.func26, Try.ntmps26
    go_wp2
    go_ret
    exact ⟨by rw [hd.out]; rfl, rfl⟩
  · have hd := hid (show wth n a b = false from decide_eq_false (by omega))
    have h3 : decide (n ≤ b) = false := decide_eq_false (by omega)
    go_enter Try.func26, Try.ntmps26
    go_wp2
    go_ret
    exact ⟨by rw [hd.out]; rfl, rfl⟩
  · have hd := hid (show wth n a b = false from decide_eq_false (by omega))
    go_enter Try.func26, Try.ntmps26
    go_wp2
    go_ret
    exact ⟨by rw [hd.out]; rfl, rfl⟩
theorem isNaN_any (a : Int) (w : World) : Calls Try.prog 35 #[.int .i64 a] w fun e w' => e = .returned (.bool false) ∧ w = w' := by
  go_enter Try.func35, Try.ntmps35
  go_wp2
  go_ret
  exact ⟨rfl, rfl⟩
set_option maxRecDepth 100000 in
set_option maxHeartbeats 4000000 in
theorem compare_any (a b : Int) (w : World) : Calls Try.prog 32 #[.int .i64 a, .int .i64 b] w fun e w' => e = .returned (.int .i64 (S8.cn a b)) ∧ w = w' := by
  rcases (by omega : a < b ∨ b < a ∨ a = b) with h | h | h
  · have hd := hid (show S8.cn a b = -1 from if_pos h)
    go_enter Try.func32, Try.ntmps32
    go_wp2_with (go_at_call 35; refine (isNaN_any _ _).mono ?_; rintro e w' ⟨rfl, rfl⟩)
    go_ret
    exact ⟨by rw [hd.out]; rfl, rfl⟩
  · have hd := hid (show S8.cn a b = 1 from by unfold S8.cn; rw [if_neg (by omega), if_pos h])
    go_enter Try.func32, Try.ntmps32
    go_wp2_with (go_at_call 35; refine (isNaN_any _ _).mono ?_; rintro e w' ⟨rfl, rfl⟩)
    go_ret
    exact ⟨by rw [hd.out]; rfl, rfl⟩
  · have hd := hid (show S8.cn a b = 0 from by unfold S8.cn; rw [if_neg (by omega), if_neg (by omega)])
    have h1 : ¬ a < b := by omega
    have h2 : ¬ b < a := by omega
    clear h
    go_enter Try.func32, Try.ntmps32
    go_wp2_with (go_at_call 35; refine (isNaN_any _ _).mono ?_; rintro e w' ⟨rfl, rfl⟩)
    go_ret
    exact ⟨by rw [hd.out]; rfl, rfl⟩
theorem rcmp_any (a b : Int) (w : World) : Calls Try.prog 28 #[.int .i64 a, .int .i64 b] w fun e w' => e = .returned (.int .i64 (S8.cn a b)) ∧ w = w' := by
  rcases (by omega : a < b ∨ b < a ∨ a = b) with h | h | h
  · have hd := hid (show S8.cn a b = -1 from if_pos h)
    go_enter Try.func28, Try.ntmps28
    go_wp2
    go_ret
    exact ⟨by rw [hd.out]; rfl, rfl⟩
  · have hd := hid (show S8.cn a b = 1 from by unfold S8.cn; rw [if_neg (by omega), if_pos h])
    go_enter Try.func28, Try.ntmps28
    go_wp2
    go_ret
    exact ⟨by rw [hd.out]; rfl, rfl⟩
  · have hd := hid (show S8.cn a b = 0 from by unfold S8.cn; rw [if_neg (by omega), if_neg (by omega)])
    have h1 : ¬ a < b := by omega
    have h2 : ¬ b < a := by omega
    clear h
    go_enter Try.func28, Try.ntmps28
    go_wp2
    go_ret
    exact ⟨by rw [hd.out]; rfl, rfl⟩
/-- the first pair that differs decides -/
def trn : List (Int × Int) → Int
  | [] => 0
  | x :: r => if S8.cn x.1 x.2 = 0 then trn r else S8.cn x.1 x.2
theorem cp_trn (a b : St) : S8.cp a b = trn [(a.1, b.1), (a.2.1, b.2.1), (a.2.2, b.2.2)] := by
  rw [S8.cp_by]; simp only [trn, ne_eq, ite_not]
  split
  · split
    · split
      · assumption
      · rfl
    · rfl
  · rfl
set_option maxRecDepth 100000 in
set_option maxHeartbeats 4000000 in
theorem inTurn_any (b n c : Nat) (l : List (Int × Int)) (w : World) (hn : n = l.length) (hb : b < w.heap.size) (h : ∀ i x, l[i]? = some x → w.cell? ⟨b, 2 * i, none⟩ = some (.int .i64 x.1) ∧ w.cell? ⟨b, 2 * i + 1, none⟩ = some (.int .i64 x.2)) (hnc : n ≤ 3) :
    Calls Try.prog 27 #[.slice (some ⟨b, 0, none⟩) n c] w fun e w' => e = .returned (.int .i64 (trn l)) ∧ Below w.heap.size w w' := by
  have HR := hid h; have HN := hid hn; have HB := hid hb
  clear h hn hb
  go_enter Try.func27, Try.ntmps27
  go_wp2
  go_loopw [8] (fun i wr => ∃ k : Nat, k ≤ n ∧ i = .int .i64 k ∧ Hid (trn l = trn (l.drop k)) ∧ Below w.heap.size w wr) (fun i _ => n - (intOf i).toNat)
  case atStart => exact ⟨0, by omega, rfl, hid rfl, Below.refl _ _⟩
  case round =>
    obtain ⟨k, hk, rfl, hz, hbw⟩ := hrel
    have HBW := hid hbw
    by_cases hlt : k < n
    · obtain ⟨x, hi⟩ := get_lt (l := l) (i := k) (by rw [← HN.out]; exact hlt)
      obtain ⟨c0, c1⟩ := HR.out k x hi
      have hc0 := (hbw.cell (p := ⟨b, 2 * k, none⟩) HB.out).trans c0
      have hc1 := (hbw.cell (p := ⟨b, 2 * k + 1, none⟩) HB.out).trans c1
      have hdr := hid (show trn l = trn (x :: l.drop (k + 1)) by
        rw [hz.out]
        obtain ⟨h1, h2⟩ := List.getElem?_eq_some_iff.1 hi
        rw [List.drop_eq_getElem_cons h1, h2])
      obtain ⟨x0, x1⟩ := x
      rw [show 2 * k = k * 2 by omega] at hc0
      rw [show 2 * k + 1 = k * 2 + 1 by omega] at hc1
      simp only at hc0 hc1
      clear hi c0 c1 hbw
      have Cx := hid (fun W => compare_any x0 x1 W)
      by_cases hx : S8.cn x0 x1 = 0
      · have HX := hid (show trn l = trn (l.drop (k + 1)) by rw [hdr.out]; exact if_pos hx)
        rw [hx] at Cx
        clear hx
        go_wp2_with fail
        refine (Cx.out _).mono ?_
        rintro e wn ⟨rfl, rfl⟩
        go_wp2
        go_roundw
        case rel => exact ⟨k + 1, by omega, by go_num, HX, HBW.out.alloc HBW.out.size _⟩
        case measure => simp [intOf]; omega
      · have hv := hid (show trn l = S8.cn x0 x1 by rw [hdr.out]; exact if_neg hx)
        obtain ⟨z, hz⟩ : ∃ z, z = S8.cn x0 x1 := ⟨_, rfl⟩
        rw [← hz] at Cx hx hv
        have hb1 : (z == 0) = false := by simpa using hx
        have hb2 : (z != 0) = true := by simpa using hx
        clear hz hx
        go_wp2_with fail
        refine (Cx.out _).mono ?_
        rintro e wn ⟨rfl, rfl⟩
        go_wp2
        go_ret
        exact ⟨by rw [hv.out]; rfl, HBW.out.alloc HBW.out.size _⟩
    · have hv := hid (show trn l = 0 by rw [hz.out, show k = l.length by have := HN.out; omega, List.drop_length]; rfl)
      go_wp2
      go_ret
      exact ⟨by rw [hv.out]; rfl, HBW.out⟩
theorem pairs_new (w : World) (t : TypeId) (a b c d e f : Int) : ∀ i x, [(a, b), (c, d), (e, f)][i]? = some x → (w.alloc (.cells #[.int .i64 a, .int .i64 b, .int .i64 c, .int .i64 d, .int .i64 e, .int .i64 f] t)).cell? ⟨w.heap.size, 2 * i, none⟩ = some (.int .i64 x.1) ∧ (w.alloc (.cells #[.int .i64 a, .int .i64 b, .int .i64 c, .int .i64 d, .int .i64 e, .int .i64 f] t)).cell? ⟨w.heap.size, 2 * i + 1, none⟩ = some (.int .i64 x.2) := by
  intro i x h
  match i, h with
  | 0, h => simp at h; subst h; exact ⟨cell_lit _ _ _ _ _ rfl, cell_lit _ _ _ _ _ rfl⟩
  | 1, h => simp at h; subst h; exact ⟨cell_lit _ _ _ _ _ rfl, cell_lit _ _ _ _ _ rfl⟩
  | 2, h => simp at h; subst h; exact ⟨cell_lit _ _ _ _ _ rfl, cell_lit _ _ _ _ _ rfl⟩
  | n + 3, h => simp at h
end Go.Proofs.Ytlkcnnamnjnmbaa

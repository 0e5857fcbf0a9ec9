/- What the laws say, plainly: what stands between tokens. -/
import Derived.Test.YtgckigolbajhoaaDoorX9
namespace L9
open Go
/-- white space and comments, read byte by byte; whether a comment is open at the end -/
def ws : Bool → B → Option Bool
  | cm, [] => some cm
  | cm, c :: r => if (nLF c && (cm || slashes (c :: r))) = false ∧ isW c = false then none else ws (nLF c && (cm || slashes (c :: r))) r
theorem W_47 {c : UInt8} (h : isW c = true) : c.toNat ≠ 47 := by
  simp only [isW, decide_eq_true_eq] at h; omega
theorem sl_ne {c : UInt8} {r : B} (h : c.toNat ≠ 47) : slashes (c :: r) = false := by
  cases r with
  | nil => rfl
  | cons d r => simp [slashes, h]
theorem ws_white {c : UInt8} {r : B} (h : isW c = true) : ws false (c :: r) = ws false r := by
  have hs : slashes (c :: r) = false := sl_ne (W_47 h)
  simp [ws, hs, h]
theorem ws_lf (r : B) (b : Bool) : ws b (10 :: r) = ws false r := by
  have h1 : nLF 10 = false := by decide
  have h2 : isW 10 = true := by decide
  simp [ws, h1, h2]
theorem ws_true (w r : B) (h : ∀ c ∈ w, nLF c = true) : ws true (w ++ r) = ws true r := by
  induction w with
  | nil => rfl
  | cons c w ih =>
    have hc := h c (by simp)
    rw [List.cons_append]
    simp only [ws, hc, Bool.true_or, Bool.and_true]
    rw [if_neg (by simp)]
    exact ih (fun d hd => h d (by simp [hd]))
theorem ws_com {s : B} (n : Nat) (h : slashes s = true) (hn : (s.takeWhile nLF).length = n) (r : B) : ws false (s.take n ++ r) = ws true r := by
  obtain ⟨c, d, q, rfl, h1, h2⟩ := slashes_lf h
  have ht : (c :: d :: q).take n = c :: d :: q.takeWhile nLF := by
    rw [← hn, ← tw_take, tw_slashes h1 h2]
  rw [ht, List.cons_append, List.cons_append]
  have hc : nLF c = true := by simp [nLF, h1]
  have hsl : slashes (c :: d :: (q.takeWhile nLF ++ r)) = true := by simp [slashes, h1, h2]
  simp only [ws, hc, hsl, Bool.or_true, Bool.and_true]
  rw [if_neg (by simp)]
  have hd : nLF d = true := by simp [nLF, h2]
  simp only [hd, Bool.true_or, Bool.and_true]
  rw [if_neg (by simp)]
  exact ws_true _ _ (tw_all _ _)
theorem tx_head {x : T} (h : vld x = true) : ∃ c r, tx x = c :: r ∧ isW c = false := by
  have h1 := (stp_back (r := []) h (by simp)).1
  rw [List.append_nil] at h1
  cases hq : tx x with
  | nil => rw [hq] at h1; simp [stp] at h1
  | cons c r =>
    refine ⟨c, r, rfl, ?_⟩
    cases hw : isW c
    · rfl
    · rw [hq] at h1; simp [stp, hw] at h1
theorem after_com (s : B) : s.drop (s.takeWhile nLF).length = [] ∨ ∃ r, s.drop (s.takeWhile nLF).length = 10 :: r := by
  induction s with
  | nil => exact .inl rfl
  | cons c r ih =>
    cases hc : nLF c
    · refine .inr ⟨r, ?_⟩
      have : c = 10 := by
        simp only [nLF, decide_eq_false_iff_not] at hc
        exact UInt8.toNat_inj.1 (by simpa using hc)
      subst this
      simp [nLF]
    · rw [tw_cons hc, List.length_cons, List.drop_succ_cons]; exact ih
def Plc (s : B) (a : Nat) (l : List T) : Prop :=
  (l = [] ∧ ∃ b, ws false s = some b) ∨ ∃ t m n, l = t :: m ∧ t.a = ((a + n : Nat) : Int) ∧ ws false (s.take n) = some false ∧ n + (tx t).length ≤ s.length ∧ (s.drop n).take (tx t).length = tx t ∧ 1 ≤ (tx t).length ∧ vld t = true ∧ lx (s.drop (n + (tx t).length)) (a + n + (tx t).length) = .ok m
theorem lx_plc (s : B) (a : Nat) : ∀ l, lx s a = .ok l → Plc s a l := by
  refine lx_ind (M := fun s a => ∀ l, lx s a = .ok l → Plc s a l) ?_ ?_ ?_ ?_ s a
  · intro a l h; rw [lx_nil] at h; cases h; exact .inl ⟨rfl, false, rfl⟩
  · intro s a n h ih l hl
    rw [lx_skip a h] at hl
    have hn := skip_len h
    match s, h with
    | [], h => simp [stp] at h
    | c :: r, h =>
      rcases stp_cases c r with ⟨h1, e⟩ | ⟨h1, h2, e⟩ | ⟨_, _, _, _, e⟩ | ⟨_, _, _, _, e⟩ | ⟨_, _, _, _, _, e⟩ | ⟨_, _, _, _, _, e⟩ | ⟨_, _, _, _, _, e⟩ | ⟨_, _, _, _, _, e⟩ <;> rw [e] at h <;> try (cases h)
      · rcases ih l hl with ⟨rfl, b, hb⟩ | ⟨t, m, k, rfl, p1, p2, p3, p4, p5, p6, p7⟩
        · exact .inl ⟨rfl, b, by rw [ws_white h1]; exact hb⟩
        · rw [List.drop_succ_cons, List.drop_zero] at p2 p3 p4 p7
          refine .inr ⟨t, m, k + 1, rfl, by rw [p1]; push_cast; omega, ?_, by rw [List.length_cons]; omega, ?_, p5, p6, ?_⟩
          · rw [List.take_succ_cons, ws_white h1]; exact p2
          · rw [List.drop_succ_cons]; exact p4
          · rw [show k + 1 + (tx t).length = (k + (tx t).length) + 1 by omega, List.drop_succ_cons, show a + (k + 1) + (tx t).length = a + 1 + k + (tx t).length by omega]; exact p7
      · obtain ⟨q, hq⟩ : ∃ q, q = ((c :: r).takeWhile nLF).length := ⟨_, rfl⟩
        rw [← hq] at hl ih hn
        have hsplit : ∀ k, (c :: r).take (q + k) = (c :: r).take q ++ ((c :: r).drop q).take k := fun k => List.take_add
        rcases ih l hl with ⟨rfl, b, hb⟩ | ⟨t, m, k, rfl, p1, p2, p3, p4, p5, p6, p7⟩
        · refine .inl ⟨rfl, ?_⟩
          have hw := ws_com q h2 hq.symm ((c :: r).drop q)
          rw [List.take_append_drop] at hw
          rcases after_com (c :: r) with h0 | ⟨r', h0⟩
          · rw [← hq] at h0; rw [h0] at hw; exact ⟨true, hw⟩
          · rw [← hq] at h0
            rw [h0] at hw hb
            rw [ws_lf] at hw hb
            exact ⟨b, hw.trans hb⟩
        · have hk : 1 ≤ k := by
            rcases Nat.eq_zero_or_pos k with rfl | h9
            · obtain ⟨c', r', hc1, hc2⟩ := tx_head p6
              rw [List.drop_zero] at p4
              rcases after_com (c :: r) with h0 | ⟨r'', h0⟩
              · rw [← hq] at h0; rw [h0, hc1] at p4; simp at p4
              · rw [← hq] at h0
                rw [h0, hc1] at p4
                simp at p4
                rw [← p4.1] at hc2; simp [isW] at hc2
            · exact h9
          refine .inr ⟨t, m, q + k, rfl, by rw [p1]; push_cast; omega, ?_, by rw [List.length_drop] at p3; omega, by rw [← List.drop_drop]; exact p4, p5, p6, ?_⟩
          · rw [hsplit, ws_com q h2 hq.symm]
            rcases after_com (c :: r) with h0 | ⟨r', h0⟩
            · rw [← hq] at h0; rw [h0] at p3; simp at p3; omega
            · rw [← hq] at h0
              rw [h0] at p2 ⊢
              obtain ⟨j, rfl⟩ : ∃ j, k = j + 1 := ⟨k - 1, by omega⟩
              rw [List.take_succ_cons, ws_lf] at p2 ⊢
              exact p2
          · rw [List.drop_drop] at p7
            rw [show q + k + (tx t).length = q + (k + (tx t).length) by omega, show a + (q + k) + (tx t).length = a + q + k + (tx t).length by omega]; exact p7
  · intro s a k t v n h ih l hl
    have hn := tok_len h
    rw [lx_tok a h] at hl
    obtain ⟨m, h1, rfl⟩ := put_ok hl
    obtain ⟨q1, q2, _⟩ := stp_vld a h
    have hlen : (tx ⟨k, t, v, a⟩).length = n := by rw [q2, List.length_take]; omega
    refine .inr ⟨_, m, 0, rfl, by simp, rfl, by rw [hlen]; omega, ?_, by rw [hlen]; omega, q1, ?_⟩
    · rw [hlen, List.drop_zero]; exact q2.symm
    · rw [hlen, Nat.zero_add, Nat.add_zero]; exact h1
  · intro s a hs h l hl; rw [lx_bad a hs h] at hl; cases hl
end L9

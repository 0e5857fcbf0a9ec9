/- What the laws say, plainly: names, errors, the way back. -/
import Derived.Test.YtgckigolbajhoaaDoorM9
namespace L9
open Go
theorem put_ok {t : T} {x : Except Nat (List T)} {l : List T} (h : put t x = .ok l) : ∃ m, x = .ok m ∧ l = t :: m := by
  cases x with
  | error a => simp [put] at h
  | ok m => simp [put] at h; exact ⟨m, rfl, h.symm⟩
theorem put_err {t : T} {x : Except Nat (List T)} {b : Nat} (h : put t x = .error b) : x = .error b := by
  cases x with
  | error a => simpa [put] using h
  | ok m => simp [put] at h
theorem lx_all (s : B) (a : Nat) : ∀ l, lx s a = .ok l → l.all vld = true := by
  refine lx_ind (M := fun s a => ∀ l, lx s a = .ok l → l.all vld = true) ?_ ?_ ?_ ?_ s a
  · intro a l h; rw [lx_nil] at h; cases h; rfl
  · intro s a n h ih l hl; rw [lx_skip a h] at hl; exact ih l hl
  · intro s a k t v n h ih l hl
    rw [lx_tok a h] at hl
    obtain ⟨m, h1, rfl⟩ := put_ok hl
    rw [List.all_cons, ih m h1, (stp_vld a h).1]; rfl
  · intro s a hs h l hl; rw [lx_bad a hs h] at hl; cases hl
theorem nm_lx {s : B} (h : nm s = true) : lx s 0 = .ok [⟨1, s, 0, 0⟩] := by
  have hv : vld ⟨1, s, 0, 0⟩ = true := by simp [vld, h]
  have hb := (stp_back (x := ⟨1, s, 0, 0⟩) (r := []) hv (by simp)).1
  have htx : tx ⟨1, s, 0, 0⟩ = s := by simp [tx]
  rw [htx, List.append_nil] at hb
  rw [lx_tok 0 hb, List.drop_length, lx_nil]
  rfl
/-- the text's lengths -/
theorem tx_len (x : T) (h : vld x = true) : (tx x).length ≤ x.t.length + 13 := by
  unfold tx
  split
  · rename_i hk
    have hn : x.n ≤ 1099511627776 := by
      have hkk : x.k = 2 := hk
      unfold vld at h
      rw [if_neg (by omega), if_pos hkk] at h
      exact (of_decide_eq_true h).2.2
    rw [Lib.decDigits_length]
    have : ∀ (k u : Nat), u < 10 ^ (k + 1) → Lib.nDigits u ≤ k + 1 := by
      intro k
      induction k with
      | zero => intro u hu; rw [Lib.nDigits_small (by simpa using hu)]; omega
      | succ k ih =>
        intro u hu
        by_cases h10 : u < 10
        · rw [Lib.nDigits_small h10]; omega
        · rw [Lib.nDigits_big h10]
          have := ih (u / 10) (by rw [Nat.pow_succ] at hu; omega)
          omega
    have := this 12 x.n.toNat (by
      have : (10 : Nat) ^ (12 + 1) = 10000000000000 := by decide
      omega)
    omega
  · omega
theorem lens_tx (l : List T) (h : l.all vld = true) : Lib.lens (l.map tx) ≤ (l.map (·.t.length)).sum + 13 * l.length := by
  induction l with
  | nil => simp [Lib.lens]
  | cons x r ih =>
    rw [List.all_cons, Bool.and_eq_true] at h
    have h1 := tx_len x h.1
    have h2 := ih h.2
    simp only [Lib.lens, List.map_cons, List.sum_cons, List.length_cons] at h2 ⊢
    omega
theorem join_len (l : List T) (h : l.all vld = true) : (Lib.join (l.map tx) [32]).length ≤ (l.map (·.t.length)).sum + 14 * l.length := by
  cases l with
  | nil => simp [Lib.join_nil]
  | cons x r =>
    have h1 := lens_tx (x :: r) h
    rw [List.map_cons, Lib.join_length, List.length_map]
    rw [List.map_cons] at h1
    simp only [List.length_cons, List.length_nil] at h1 ⊢
    omega
theorem tail_white (l : List T) : ∀ c m, Lib.joinTail [32] (l.map tx) = c :: m → isW c = true := by
  intro c m h
  cases l with
  | nil => simp [Lib.joinTail] at h
  | cons x r =>
    simp [Lib.joinTail] at h
    rw [← h.1]; rfl
theorem core_tok (x : T) (a : Int) (h : (x.n.toNat : Int) = x.n) : core ⟨x.k, x.t, (x.n.toNat : Int), a⟩ = core x := by simp [core, h]
/-- the tokens of texts, each after a space -/
theorem lx_tail : ∀ (l : List T) (a : Nat), l.all vld = true → ∃ m, lx (Lib.joinTail [32] (l.map tx)) a = .ok m ∧ m.map core = l.map core
  | [], a, _ => ⟨[], rfl, rfl⟩
  | x :: r, a, h => by
    rw [List.all_cons, Bool.and_eq_true] at h
    have hj : Lib.joinTail [32] ((x :: r).map tx) = 32 :: (tx x ++ Lib.joinTail [32] (r.map tx)) := by simp [Lib.joinTail]
    rw [hj, lx_skip (n := 1) a (by simp [stp, isW])]
    obtain ⟨h1, h2, h3⟩ := stp_back (r := Lib.joinTail [32] (r.map tx)) h.1 (tail_white r)
    rw [List.drop_succ_cons, List.drop_zero, lx_tok (a + 1) h1, List.drop_left]
    obtain ⟨m, e1, e2⟩ := lx_tail r (a + 1 + (tx x).length) h.2
    rw [e1]
    exact ⟨_, rfl, by rw [List.map_cons, List.map_cons, core_tok x _ h3, e2]⟩
theorem lx_join (l : List T) (h : l.all vld = true) : ∃ m, lx (Lib.join (l.map tx) [32]) 0 = .ok m ∧ m.map core = l.map core := by
  cases l with
  | nil => exact ⟨[], rfl, rfl⟩
  | cons x r =>
    rw [List.all_cons, Bool.and_eq_true] at h
    rw [List.map_cons, Lib.join_cons]
    obtain ⟨h1, h2, h3⟩ := stp_back (r := Lib.joinTail [32] (r.map tx)) h.1 (tail_white r)
    rw [lx_tok 0 h1, List.drop_left]
    obtain ⟨m, e1, e2⟩ := lx_tail r (0 + (tx x).length) h.2
    rw [e1]
    exact ⟨_, rfl, by rw [List.map_cons, List.map_cons, core_tok x _ h3, e2]⟩
theorem lx_sum (s : B) (a : Nat) : ∀ l, lx s a = .ok l → (l.map (·.t.length)).sum ≤ s.length ∧ l.length ≤ s.length := by
  refine lx_ind (M := fun s a => ∀ l, lx s a = .ok l → (l.map (·.t.length)).sum ≤ s.length ∧ l.length ≤ s.length) ?_ ?_ ?_ ?_ s a
  · intro a l h; rw [lx_nil] at h; cases h; simp
  · intro s a n h ih l hl
    rw [lx_skip a h] at hl
    have := ih l hl
    rw [List.length_drop] at this
    exact ⟨by omega, by omega⟩
  · intro s a k t v n h ih l hl
    rw [lx_tok a h] at hl
    obtain ⟨m, h1, rfl⟩ := put_ok hl
    have h2 := ih m h1
    have h3 := tok_len h
    have h4 : t.length ≤ n := by
      obtain ⟨q1, q2, q3⟩ := stp_vld a h
      have hlen : (s.take n).length = n := by rw [List.length_take]; omega
      by_cases hk : k = 2
      · have : vld ⟨k, t, v, a⟩ = true := q1
        unfold vld at this
        simp only at this
        rw [if_neg (by omega), if_pos hk] at this
        rw [(of_decide_eq_true this).1]; simp
      · have : t = s.take n := by rw [← q2]; unfold tx; rw [if_neg hk]
        rw [this, hlen]; omega
    rw [List.length_drop] at h2
    simp only [List.map_cons, List.sum_cons, List.length_cons]
    exact ⟨by omega, by omega⟩
  · intro s a hs h l hl; rw [lx_bad a hs h] at hl; cases hl
/-- a step sees no further than its bytes -/
theorem tw_take_eq (p : UInt8 → Bool) (s : B) (m : Nat) (h : (s.takeWhile p).length ≤ m) : (s.take m).takeWhile p = s.takeWhile p := by
  induction s generalizing m with
  | nil => simp
  | cons c r ih =>
    cases hp : p c
    · cases m with
      | zero => simp [hp]
      | succ m => simp [hp]
    · rw [tw_cons hp] at h ⊢
      cases m with
      | zero => simp at h
      | succ m =>
        rw [List.take_succ_cons, tw_cons hp, ih m (by simpa using h)]
theorem slashes_take {s : B} {m : Nat} (h : 2 ≤ m) : slashes (s.take m) = slashes s := by
  match s, m with
  | _, 0 => omega
  | _, 1 => omega
  | [], m + 2 => rfl
  | [_], m + 2 => rfl
  | _ :: _ :: _, m + 2 => rfl
theorem slashes_one {s : B} : slashes (s.take 1) = false := by
  match s with
  | [] => rfl
  | _ :: _ => rfl
end L9

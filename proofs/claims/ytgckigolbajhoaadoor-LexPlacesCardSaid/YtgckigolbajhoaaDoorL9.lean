/- Sources and tokens, plainly: classes of bytes, the tokens of a source, texts of tokens. -/
import Derived.Lib.ItoaNum
import Derived.Lib.Join
namespace L9
abbrev B := List UInt8
def isL (c : UInt8) : Bool := decide (97 ≤ c.toNat ∧ c.toNat ≤ 122 ∨ 65 ≤ c.toNat ∧ c.toNat ≤ 90)
def isD (c : UInt8) : Bool := decide (48 ≤ c.toNat ∧ c.toNat ≤ 57)
def isW (c : UInt8) : Bool := decide (c.toNat = 32 ∨ c.toNat = 9 ∨ c.toNat = 10 ∨ c.toNat = 13)
def isS (c : UInt8) : Bool := decide (c.toNat = 123 ∨ c.toNat = 125 ∨ c.toNat = 40 ∨ c.toNat = 41 ∨ c.toNat = 59 ∨ c.toNat = 44 ∨ c.toNat = 61 ∨ c.toNat = 35 ∨ c.toNat = 60 ∨ c.toNat = 47 ∨ c.toNat = 33 ∨ c.toNat = 45 ∨ c.toNat = 46)
def isP (c : UInt8) : Bool := isL c || isD c || decide (c.toNat = 95)
def nLF (c : UInt8) : Bool := decide (c.toNat ≠ 10)
/-- the number of digits -/
def vn (l : B) : Nat := l.foldl (fun n c => 10 * n + (c.toNat - 48)) 0
inductive Stp where
  | skip (n : Nat)
  | tok (k : Int) (t : B) (v : Nat) (n : Nat)
  | bad
deriving DecidableEq
def slashes : B → Bool
  | c :: d :: _ => decide (c.toNat = 47 ∧ d.toNat = 47)
  | _ => false
/-- what begins a source -/
def stp (s : B) : Stp :=
  match s with
  | [] => .bad
  | c :: _ =>
    if isW c then .skip 1
    else if slashes s then .skip (s.takeWhile nLF).length
    else if isL c then (if (s.takeWhile isP).length ≤ 32 then .tok 1 (s.takeWhile isP) 0 (s.takeWhile isP).length else .bad)
    else if isD c then (if (c.toNat = 48 ∧ 1 < (s.takeWhile isD).length) ∨ 1099511627776 < vn (s.takeWhile isD) then .bad else .tok 2 [] (vn (s.takeWhile isD)) (s.takeWhile isD).length)
    else if isS c then .tok 3 [c] 0 1
    else .bad
/-- kind, text, number, place -/
structure T where
  k : Int
  t : B
  n : Int
  a : Int
deriving DecidableEq
def put (t : T) : Except Nat (List T) → Except Nat (List T)
  | .ok l => .ok (t :: l)
  | .error a => .error a
def lxf : Nat → B → Nat → Except Nat (List T)
  | 0, _, _ => .ok []
  | f + 1, s, a => if s = [] then .ok [] else
    match stp s with
    | .skip n => lxf f (s.drop n) (a + n)
    | .tok k t v n => put ⟨k, t, v, a⟩ (lxf f (s.drop n) (a + n))
    | .bad => .error a
/-- the tokens of a source that begins at a, or the place of an error -/
def lx (s : B) (a : Nat) : Except Nat (List T) := lxf s.length s a
theorem tw_cons {p : UInt8 → Bool} {c : UInt8} {r : B} (h : p c = true) : (c :: r).takeWhile p = c :: r.takeWhile p := by simp [h]
theorem tw_pos {p : UInt8 → Bool} {c : UInt8} {r : B} (h : p c = true) : 1 ≤ ((c :: r).takeWhile p).length := by rw [tw_cons h]; simp
theorem tw_le (p : UInt8 → Bool) (s : B) : (s.takeWhile p).length ≤ s.length := (List.takeWhile_prefix p).length_le
theorem isL_P {c : UInt8} (h : isL c = true) : isP c = true := by simp [isP, h]
theorem isD_P {c : UInt8} (h : isD c = true) : isP c = true := by simp [isP, h]
theorem slashes_lf {s : B} (h : slashes s = true) : ∃ c d r, s = c :: d :: r ∧ c.toNat = 47 ∧ d.toNat = 47 := by
  match s, h with
  | c :: d :: r, h => exact ⟨c, d, r, rfl, by simpa [slashes] using h⟩
  | [_], h => simp [slashes] at h
  | [], h => simp [slashes] at h
theorem tw_slashes {c d : UInt8} {r : B} (h1 : c.toNat = 47) (h2 : d.toNat = 47) : (c :: d :: r).takeWhile nLF = c :: d :: r.takeWhile nLF := by
  rw [tw_cons (by simp [nLF, h1]), tw_cons (by simp [nLF, h2])]
/-- every case of a step, with what it says -/
theorem stp_cases (c : UInt8) (r : B) :
    (isW c = true ∧ stp (c :: r) = .skip 1) ∨
    (isW c = false ∧ slashes (c :: r) = true ∧ stp (c :: r) = .skip ((c :: r).takeWhile nLF).length) ∨
    (isW c = false ∧ slashes (c :: r) = false ∧ isL c = true ∧ ((c :: r).takeWhile isP).length ≤ 32 ∧ stp (c :: r) = .tok 1 ((c :: r).takeWhile isP) 0 ((c :: r).takeWhile isP).length) ∨
    (isW c = false ∧ slashes (c :: r) = false ∧ isL c = true ∧ 32 < ((c :: r).takeWhile isP).length ∧ stp (c :: r) = .bad) ∨
    (isW c = false ∧ slashes (c :: r) = false ∧ isL c = false ∧ isD c = true ∧ ((c.toNat = 48 ∧ 1 < ((c :: r).takeWhile isD).length) ∨ 1099511627776 < vn ((c :: r).takeWhile isD)) ∧ stp (c :: r) = .bad) ∨
    (isW c = false ∧ slashes (c :: r) = false ∧ isL c = false ∧ isD c = true ∧ ¬ ((c.toNat = 48 ∧ 1 < ((c :: r).takeWhile isD).length) ∨ 1099511627776 < vn ((c :: r).takeWhile isD)) ∧ stp (c :: r) = .tok 2 [] (vn ((c :: r).takeWhile isD)) ((c :: r).takeWhile isD).length) ∨
    (isW c = false ∧ slashes (c :: r) = false ∧ isL c = false ∧ isD c = false ∧ isS c = true ∧ stp (c :: r) = .tok 3 [c] 0 1) ∨
    (isW c = false ∧ slashes (c :: r) = false ∧ isL c = false ∧ isD c = false ∧ isS c = false ∧ stp (c :: r) = .bad) := by
  cases h1 : isW c
  · cases h2 : slashes (c :: r)
    · cases h3 : isL c
      · cases h4 : isD c
        · cases h5 : isS c <;> simp [stp, h1, h2, h3, h4, h5]
        · by_cases h6 : (c.toNat = 48 ∧ 1 < ((c :: r).takeWhile isD).length) ∨ 1099511627776 < vn ((c :: r).takeWhile isD)
          · exact .inr (.inr (.inr (.inr (.inl ⟨rfl, rfl, rfl, rfl, h6, by unfold stp; simp only [h1, h2, h3, h4]; rw [if_pos h6]; rfl⟩))))
          · exact .inr (.inr (.inr (.inr (.inr (.inl ⟨rfl, rfl, rfl, rfl, h6, by unfold stp; simp only [h1, h2, h3, h4]; rw [if_neg h6]; rfl⟩)))))
      · by_cases h6 : ((c :: r).takeWhile isP).length ≤ 32
        · exact .inr (.inr (.inl ⟨rfl, rfl, rfl, h6, by unfold stp; simp only [h1, h2, h3]; rw [if_pos h6]; rfl⟩))
        · exact .inr (.inr (.inr (.inl ⟨rfl, rfl, rfl, by omega, by unfold stp; simp only [h1, h2, h3]; rw [if_neg h6]; rfl⟩)))
    · simp [stp, h1, h2]
  · simp [stp, h1]
theorem skip_len {s : B} {n : Nat} (h : stp s = .skip n) : 1 ≤ n ∧ n ≤ s.length := by
  match s with
  | [] => simp [stp] at h
  | c :: r =>
    rcases stp_cases c r with ⟨_, e⟩ | ⟨_, h2, e⟩ | ⟨_, _, _, _, e⟩ | ⟨_, _, _, _, e⟩ | ⟨_, _, _, _, _, e⟩ | ⟨_, _, _, _, _, e⟩ | ⟨_, _, _, _, _, e⟩ | ⟨_, _, _, _, _, e⟩ <;> rw [e] at h <;> try (cases h)
    · simp
    · obtain ⟨c', d, r', he, h3, h4⟩ := slashes_lf h2
      refine ⟨?_, tw_le _ _⟩
      rw [he, tw_slashes h3 h4]; simp
theorem tok_len {s : B} {n v : Nat} {k : Int} {t : B} (h : stp s = .tok k t v n) : 1 ≤ n ∧ n ≤ s.length := by
  match s with
  | [] => simp [stp] at h
  | c :: r =>
    rcases stp_cases c r with ⟨_, e⟩ | ⟨_, h2, e⟩ | ⟨_, _, h3, _, e⟩ | ⟨_, _, _, _, e⟩ | ⟨_, _, _, _, _, e⟩ | ⟨_, _, _, h4, _, e⟩ | ⟨_, _, _, _, _, e⟩ | ⟨_, _, _, _, _, e⟩ <;> rw [e] at h <;> try (cases h)
    · exact ⟨tw_pos (isL_P h3), tw_le _ _⟩
    · exact ⟨tw_pos h4, tw_le _ _⟩
    · simp
theorem lxf_enough : ∀ (f g : Nat) (s : B) (a : Nat), s.length ≤ f → s.length ≤ g → lxf f s a = lxf g s a
  | 0, g, s, a, hf, _ => by
    have : s = [] := List.eq_nil_of_length_eq_zero (by omega)
    subst this
    cases g <;> simp [lxf]
  | f + 1, 0, s, a, _, hg => by
    have : s = [] := List.eq_nil_of_length_eq_zero (by omega)
    subst this
    simp [lxf]
  | f + 1, g + 1, s, a, hf, hg => by
    unfold lxf
    split
    · rfl
    · split
      · rename_i n h
        have := skip_len h
        exact lxf_enough f g _ _ (by simp; omega) (by simp; omega)
      · rename_i k t v n h
        have := tok_len h
        rw [lxf_enough f g _ _ (by simp; omega) (by simp; omega)]
      · rfl
theorem lx_nil (a : Nat) : lx [] a = .ok [] := rfl
theorem lx_skip {s : B} {n : Nat} (a : Nat) (h : stp s = .skip n) : lx s a = lx (s.drop n) (a + n) := by
  have := skip_len h
  have hs : s ≠ [] := by intro e; subst e; simp at this; omega
  unfold lx
  conv => lhs; rw [show s.length = (s.length - 1) + 1 by omega]; unfold lxf
  rw [if_neg hs, h]
  exact lxf_enough _ _ _ _ (by simp; omega) (by simp)
theorem lx_tok {s : B} {n v : Nat} {k : Int} {t : B} (a : Nat) (h : stp s = .tok k t v n) : lx s a = put ⟨k, t, v, a⟩ (lx (s.drop n) (a + n)) := by
  have := tok_len h
  have hs : s ≠ [] := by intro e; subst e; simp at this; omega
  unfold lx
  conv => lhs; rw [show s.length = (s.length - 1) + 1 by omega]; unfold lxf
  rw [if_neg hs, h]
  simp only
  rw [lxf_enough _ _ _ _ (by simp; omega) (Nat.le_refl _)]
theorem lx_bad {s : B} (a : Nat) (hs : s ≠ []) (h : stp s = .bad) : lx s a = .error a := by
  unfold lx
  cases s with
  | nil => exact absurd rfl hs
  | cons c r =>
    simp only [List.length_cons]
    unfold lxf
    rw [if_neg hs, h]
/-- induction along the steps -/
theorem lx_ind {M : B → Nat → Prop} (h0 : ∀ a, M [] a) (h1 : ∀ s a n, stp s = .skip n → M (s.drop n) (a + n) → M s a) (h2 : ∀ s a k t v n, stp s = .tok k t v n → M (s.drop n) (a + n) → M s a)
    (h3 : ∀ s a, s ≠ [] → stp s = .bad → M s a) : ∀ s a, M s a := by
  have H : ∀ (f : Nat) (s : B), s.length ≤ f → ∀ a, M s a := by
    intro f
    induction f with
    | zero => intro s hs a; have : s = [] := List.eq_nil_of_length_eq_zero (by omega); subst this; exact h0 a
    | succ f ih =>
      intro s hs a
      by_cases he : s = []
      · subst he; exact h0 a
      · cases h : stp s with
        | skip n => have := skip_len h; exact h1 s a n h (ih _ (by simp; omega) _)
        | tok k t v n => have := tok_len h; exact h2 s a k t v n h (ih _ (by simp; omega) _)
        | bad => exact h3 s a he h
  exact fun s a => H s.length s (Nat.le_refl _) a
/-- white space at the beginning -/
theorem lx_white : ∀ (s : B) (a : Nat), lx s a = lx (s.drop (s.takeWhile isW).length) (a + (s.takeWhile isW).length)
  | [], a => rfl
  | c :: r, a => by
    cases h : isW c
    · simp [h]
    · rw [tw_cons h, List.length_cons, List.drop_succ_cons, lx_skip (n := 1) a (by simp [stp, h]), List.drop_succ_cons, List.drop_zero, lx_white r (a + 1)]
      congr 1; omega
/-- a token's text -/
def tx (x : T) : B := if x.k = 2 then Go.Lib.decDigits x.n.toNat else x.t
def nm (s : B) : Bool := match s with
  | [] => false
  | c :: _ => decide (s.length ≤ 32) && isL c && s.all isP
def vld (x : T) : Bool :=
  if x.k = 1 then nm x.t && decide (x.n = 0)
  else if x.k = 2 then decide (x.t = [] ∧ 0 ≤ x.n ∧ x.n ≤ 1099511627776)
  else if x.k = 3 then (match x.t with | [c] => isS c && decide (x.n = 0) | _ => false)
  else false
def core (x : T) : Int × B × Int := (x.k, x.t, x.n)
end L9

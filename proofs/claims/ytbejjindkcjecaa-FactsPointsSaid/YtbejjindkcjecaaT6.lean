/- Lists of spans as sets of numbers: what is valid, what a list holds; equal sets have equal valid lists; how many numbers a list holds; the list of a set. No program. -/
namespace Go.Proofs.Ytbejjindkcjecaa.T6
/-- spans in order, each behind p with a gap, none beyond n -/
def ok (n : Int) : Int → List (Int × Int) → Prop
  | _, [] => True
  | p, (f, t) :: r => p < f ∧ f < t ∧ t ≤ n ∧ ok n t r
def has (l : List (Int × Int)) (x : Int) : Prop := ∃ s ∈ l, s.1 ≤ x ∧ x < s.2
instance (l : List (Int × Int)) (x : Int) : Decidable (has l x) := inferInstanceAs (Decidable (∃ s ∈ l, s.1 ≤ x ∧ x < s.2))
theorem has_nil (x : Int) : ¬ has [] x := by rintro ⟨s, h, _⟩; simp at h
theorem has_cons (f t : Int) (r : List (Int × Int)) (x : Int) : has ((f, t) :: r) x ↔ (f ≤ x ∧ x < t) ∨ has r x := by
  unfold has; simp
theorem has_append (l m : List (Int × Int)) (x : Int) : has (l ++ m) x ↔ has l x ∨ has m x := by
  unfold has
  constructor
  · rintro ⟨s, h, k⟩
    rcases List.mem_append.1 h with h | h
    · exact .inl ⟨s, h, k⟩
    · exact .inr ⟨s, h, k⟩
  · rintro (⟨s, h, k⟩ | ⟨s, h, k⟩)
    · exact ⟨s, List.mem_append.2 (.inl h), k⟩
    · exact ⟨s, List.mem_append.2 (.inr h), k⟩
theorem ok_range {n : Int} : ∀ {p : Int} {l : List (Int × Int)} {x : Int}, ok n p l → has l x → p < x ∧ x < n := by
  intro p l
  induction l generalizing p with
  | nil => intro x _ h; exact absurd h (has_nil x)
  | cons s r ih =>
    obtain ⟨f, t⟩ := s
    rintro x ⟨h1, h2, h3, h4⟩ h
    rcases (has_cons f t r x).1 h with h | h
    · omega
    · have := ih h4 h; omega
/-- equal sets have equal lists -/
theorem uniq {n : Int} : ∀ {p : Int} {l m : List (Int × Int)}, ok n p l → ok n p m → (∀ x, has l x ↔ has m x) → l = m := by
  intro p l
  induction l generalizing p with
  | nil =>
    intro m _ hm h
    cases m with
    | nil => rfl
    | cons s r =>
      obtain ⟨f, t⟩ := s
      obtain ⟨h1, h2, h3, h4⟩ := hm
      exact absurd ((h f).2 ((has_cons f t r f).2 (.inl ⟨by omega, h2⟩))) (has_nil f)
  | cons s r ih =>
    obtain ⟨f, t⟩ := s
    rintro m ⟨h1, h2, h3, h4⟩ hm h
    cases m with
    | nil => exact absurd ((h f).1 ((has_cons f t r f).2 (.inl ⟨by omega, h2⟩))) (has_nil f)
    | cons s' r' =>
      obtain ⟨f', t'⟩ := s'
      obtain ⟨g1, g2, g3, g4⟩ := hm
      have a1 := (has_cons f' t' r' f).1 ((h f).1 ((has_cons f t r f).2 (.inl ⟨by omega, h2⟩)))
      have a2 := (has_cons f t r f').1 ((h f').2 ((has_cons f' t' r' f').2 (.inl ⟨by omega, g2⟩)))
      have b1 : f' ≤ f := by
        rcases a1 with a1 | a1
        · omega
        · have := ok_range g4 a1; omega
      have b2 : f ≤ f' := by
        rcases a2 with a2 | a2
        · omega
        · have := ok_range h4 a2; omega
      have ef : f = f' := by omega
      subst ef
      have et : t = t' := by
        rcases Int.lt_trichotomy t t' with hlt | he | hlt
        · exfalso
          have := (has_cons f t r t).1 ((h t).2 ((has_cons f t' r' t).2 (.inl ⟨by omega, hlt⟩)))
          rcases this with k | k
          · omega
          · have := ok_range h4 k; omega
        · exact he
        · exfalso
          have := (has_cons f t' r' t').1 ((h t').1 ((has_cons f t r t').2 (.inl ⟨by omega, hlt⟩)))
          rcases this with k | k
          · omega
          · have := ok_range g4 k; omega
      subst et
      rw [ih h4 g4 (fun x => ?_)]
      have hx := h x
      rw [has_cons, has_cons] at hx
      constructor
      · intro k
        have kr := ok_range h4 k
        rcases hx.1 (.inr k) with k2 | k2
        · omega
        · exact k2
      · intro k
        have kr := ok_range g4 k
        rcases hx.2 (.inr k) with k2 | k2
        · omega
        · exact k2
theorem ok_append {n : Int} : ∀ {p : Int} {l : List (Int × Int)} {f t : Int}, ok n p (l ++ [(f, t)]) ↔ ok n p l ∧ (∀ s ∈ l, s.2 < f) ∧ p < f ∧ f < t ∧ t ≤ n := by
  intro p l
  induction l generalizing p with
  | nil => intro f t; simp [ok]
  | cons s r ih =>
    obtain ⟨g, u⟩ := s
    intro f t
    simp only [List.cons_append, ok, ih, List.mem_cons, forall_eq_or_imp]
    constructor
    · rintro ⟨h1, h2, h3, h4, h5, h6, h7, h8⟩
      exact ⟨⟨h1, h2, h3, h4⟩, ⟨h6, h5⟩, by omega, h7, h8⟩
    · rintro ⟨⟨h1, h2, h3, h4⟩, ⟨h5, h6⟩, h7, h8, h9⟩
      exact ⟨h1, h2, h3, h4, h6, h5, h8, h9⟩
/-- how many numbers a list holds -/
def size (l : List (Int × Int)) : Int := (l.map fun s => s.2 - s.1).sum
/-- how many of the first k numbers a set holds -/
def cnt (P : Int → Prop) [DecidablePred P] : Nat → Nat
  | 0 => 0
  | k + 1 => cnt P k + if P (k : Int) then 1 else 0
theorem cnt_congr {P Q : Int → Prop} [DecidablePred P] [DecidablePred Q] : ∀ {k : Nat}, (∀ x : Nat, x < k → (P x ↔ Q x)) → cnt P k = cnt Q k
  | 0, _ => rfl
  | k + 1, h => by
    unfold cnt
    rw [cnt_congr (fun x hx => h x (by omega))]
    have := h k (by omega)
    by_cases hp : P (k : Int)
    · rw [if_pos hp, if_pos (this.1 hp)]
    · rw [if_neg hp, if_neg (fun hq => hp (this.2 hq))]
theorem cnt_or {P Q : Int → Prop} [DecidablePred P] [DecidablePred Q] : ∀ k : Nat, cnt (fun x => P x ∨ Q x) k + cnt (fun x => P x ∧ Q x) k = cnt P k + cnt Q k
  | 0 => rfl
  | k + 1 => by
    have := cnt_or (P := P) (Q := Q) k
    unfold cnt
    by_cases hp : P (k : Int) <;> by_cases hq : Q (k : Int) <;> simp [hp, hq] <;> omega
theorem cnt_none {P : Int → Prop} [DecidablePred P] : ∀ {k : Nat}, (∀ x : Nat, x < k → ¬ P x) → cnt P k = 0
  | 0, _ => rfl
  | k + 1, h => by
    unfold cnt
    rw [cnt_none (fun x hx => h x (by omega)), if_neg (h k (by omega))]
theorem cnt_span (f t : Int) (h0 : 0 ≤ f) (h1 : f ≤ t) : ∀ k : Nat, (cnt (fun x => f ≤ x ∧ x < t) k : Int) = if (k : Int) ≤ f then 0 else if (k : Int) ≤ t then k - f else t - f
  | 0 => by simp [cnt, h0]
  | k + 1 => by
    have ih := cnt_span f t h0 h1 k
    unfold cnt
    push_cast
    rw [ih]
    by_cases ha : f ≤ (k : Int) ∧ (k : Int) < t
    · rw [if_pos ha]; split <;> split <;> (try split) <;> (try split) <;> omega
    · rw [if_neg ha]; split <;> split <;> (try split) <;> (try split) <;> omega
theorem size_cnt {n : Nat} : ∀ {p : Int} {l : List (Int × Int)}, -1 ≤ p → ok (n : Int) p l → size l = (cnt (has l) n : Int) := by
  intro p l
  induction l generalizing p with
  | nil => intro _ _; rw [cnt_none (fun x _ => has_nil x)]; rfl
  | cons s r ih =>
    obtain ⟨f, t⟩ := s
    rintro hp ⟨h1, h2, h3, h4⟩
    have e := ih (by omega) h4
    have hs : size ((f, t) :: r) = (t - f) + size r := by simp [size]
    have h5 := cnt_or (P := fun x => f ≤ x ∧ x < t) (Q := has r) n
    have h6 : cnt (fun x => (f ≤ x ∧ x < t) ∧ has r x) n = 0 := cnt_none (fun x _ hx => by
      have := ok_range h4 hx.2; omega)
    have h7 : cnt (has ((f, t) :: r)) n = cnt (fun x => (f ≤ x ∧ x < t) ∨ has r x) n := cnt_congr (fun x _ => has_cons f t r x)
    have h8 := cnt_span f t (by omega) (by omega) n
    have h9 : (cnt (fun x => f ≤ x ∧ x < t) n : Int) = t - f := by
      rw [h8]; split
      · omega
      · split <;> omega
    rw [hs, e, h7]
    omega
/-- a further number, in order: as the last span's continuation, or as a span of its own -/
def grow (l : List (Int × Int)) (x : Int) : List (Int × Int) :=
  match l.getLast? with
  | some (f, t) => if t = x then l.dropLast ++ [(f, x + 1)] else l ++ [(x, x + 1)]
  | none => [(x, x + 1)]
/-- the list of a set's first k numbers -/
def ofs (P : Int → Prop) [DecidablePred P] : Nat → List (Int × Int)
  | 0 => []
  | k + 1 => if P (k : Int) then grow (ofs P k) k else ofs P k
theorem ok_le {n m : Int} : ∀ {p : Int} {l : List (Int × Int)}, ok n p l → n ≤ m → ok m p l := by
  intro p l
  induction l generalizing p with
  | nil => intro _ _; trivial
  | cons s r ih =>
    obtain ⟨f, t⟩ := s
    rintro ⟨h1, h2, h3, h4⟩ h
    exact ⟨h1, h2, by omega, ih h4 h⟩
theorem ok_to {n : Int} : ∀ {p : Int} {l : List (Int × Int)} {s : Int × Int}, ok n p l → s ∈ l → p < s.1 ∧ s.1 < s.2 ∧ s.2 ≤ n := by
  intro p l
  induction l generalizing p with
  | nil => intro s _ h; simp at h
  | cons s r ih =>
    obtain ⟨f, t⟩ := s
    rintro u ⟨h1, h2, h3, h4⟩ h
    rcases List.mem_cons.1 h with rfl | h
    · exact ⟨h1, h2, h3⟩
    · have := ih h4 h
      exact ⟨by omega, this.2⟩
theorem grow_ok {k : Nat} {l : List (Int × Int)} (h : ok (k : Int) (-1) l) : ok ((k + 1 : Nat) : Int) (-1) (grow l k) ∧ ∀ x, has (grow l k) x ↔ has l x ∨ x = k := by
  unfold grow
  cases hl : l.getLast? with
  | none =>
    have : l = [] := by simpa using hl
    subst this
    refine ⟨⟨by omega, by omega, by push_cast; omega, trivial⟩, fun x => ?_⟩
    rw [has_cons]
    have := has_nil x
    constructor
    · rintro (hx | hx)
      · exact .inr (by omega)
      · exact absurd hx this
    · rintro (hx | hx)
      · exact absurd hx this
      · exact .inl (by omega)
  | some s =>
    obtain ⟨f, t⟩ := s
    have hd : l = l.dropLast ++ [(f, t)] := by
      obtain ⟨ys, hy⟩ := List.getLast?_eq_some_iff.1 hl
      rw [hy, List.dropLast_concat]
    have hk := h
    rw [hd] at hk
    obtain ⟨k1, k2, k3, k4, k5⟩ := ok_append.1 hk
    by_cases ht : t = (k : Int)
    · simp only [if_pos ht]
      refine ⟨ok_append.2 ⟨ok_le k1 (by push_cast; omega), k2, k3, by omega, by push_cast; omega⟩, fun x => ?_⟩
      rw [has_append, has_cons]
      have e : has l x ↔ has l.dropLast x ∨ ((f ≤ x ∧ x < t) ∨ has [] x) := by
        conv => lhs; rw [hd]
        rw [has_append, has_cons]
      rw [e]
      have := has_nil x
      constructor
      · rintro (hx | hx | hx)
        · exact .inl (.inl hx)
        · rcases (by omega : x < t ∨ x = k) with h1 | h1
          · exact .inl (.inr (.inl ⟨hx.1, h1⟩))
          · exact .inr h1
        · exact absurd hx this
      · rintro ((hx | hx | hx) | hx)
        · exact .inl hx
        · exact .inr (.inl (by omega))
        · exact absurd hx this
        · exact .inr (.inl (by omega))
    · simp only [if_neg ht]
      refine ⟨ok_append.2 ⟨ok_le h (by push_cast; omega), fun s hs => ?_, by omega, by omega, by push_cast; omega⟩, fun x => ?_⟩
      · rw [hd] at hs
        rcases List.mem_append.1 hs with hs | hs
        · have := k2 s hs; omega
        · simp at hs; subst hs; simp; omega
      · rw [has_append, has_cons]
        have := has_nil x
        constructor
        · rintro (hx | hx | hx)
          · exact .inl hx
          · exact .inr (by omega)
          · exact absurd hx this
        · rintro (hx | hx)
          · exact .inl hx
          · exact .inr (.inl (by omega))
theorem ofs_ok (P : Int → Prop) [DecidablePred P] : ∀ k : Nat, ok (k : Int) (-1) (ofs P k) ∧ ∀ x, has (ofs P k) x ↔ 0 ≤ x ∧ x < k ∧ P x
  | 0 => ⟨trivial, fun x => ⟨fun h => absurd h (has_nil x), fun h => by have h1 := h.1; have h2 := h.2.1; simp at h2; omega⟩⟩
  | k + 1 => by
    obtain ⟨h1, h2⟩ := ofs_ok P k
    unfold ofs
    by_cases hp : P (k : Int)
    · rw [if_pos hp]
      obtain ⟨g1, g2⟩ := grow_ok h1
      refine ⟨g1, fun x => ?_⟩
      rw [g2, h2]
      constructor
      · rintro (⟨a, b, c⟩ | rfl)
        · exact ⟨a, by push_cast; omega, c⟩
        · exact ⟨by omega, by push_cast; omega, hp⟩
      · rintro ⟨a, b, c⟩
        push_cast at b
        rcases (by omega : x < k ∨ x = k) with e | e
        · exact .inl ⟨a, e, c⟩
        · exact .inr e
    · rw [if_neg hp]
      refine ⟨ok_le h1 (by push_cast; omega), fun x => ?_⟩
      rw [h2]
      constructor
      · rintro ⟨a, b, c⟩; exact ⟨a, by push_cast; omega, c⟩
      · rintro ⟨a, b, c⟩
        push_cast at b
        rcases (by omega : x < k ∨ x = k) with e | e
        · exact ⟨a, e, c⟩
        · subst e; exact absurd c hp
/-- a list does not change between two of its boundaries -/
theorem has_const {l : List (Int × Int)} {x y : Int} (hb : ∀ s ∈ l, ¬ (x < s.1 ∧ s.1 < y) ∧ ¬ (x < s.2 ∧ s.2 < y)) (z : Int) (h1 : x ≤ z) (h2 : z < y) : has l z ↔ has l x := by
  constructor
  · rintro ⟨s, hs, h⟩
    have := hb s hs
    exact ⟨s, hs, by omega, by omega⟩
  · rintro ⟨s, hs, h⟩
    have := hb s hs
    exact ⟨s, hs, by omega, by omega⟩
/-- an interval behind all spans: the last span's continuation where it touches, else a span of its own -/
def put (l : List (Int × Int)) (x y : Int) : List (Int × Int) :=
  match l.getLast? with
  | some (f, t) => if t = x then l.dropLast ++ [(f, y)] else l ++ [(x, y)]
  | none => [(x, y)]
theorem put_ok {n p x y : Int} {l : List (Int × Int)} (h : ok n p l) (hx : ∀ s ∈ l, s.2 ≤ x) (hp : p < x) (hxy : x < y) (hy : y ≤ n) : ok n p (put l x y) ∧ (∀ z, has (put l x y) z ↔ has l z ∨ (x ≤ z ∧ z < y)) ∧ ∀ s ∈ put l x y, s.2 ≤ y := by
  unfold put
  cases hl : l.getLast? with
  | none =>
    have : l = [] := by simpa using hl
    subst this
    refine ⟨⟨hp, hxy, hy, trivial⟩, fun z => ?_, fun s hs => by simp at hs; subst hs; simp⟩
    rw [has_cons]
    have := has_nil z
    constructor
    · rintro (h1 | h1)
      · exact .inr h1
      · exact absurd h1 this
    · rintro (h1 | h1)
      · exact absurd h1 this
      · exact .inl h1
  | some s =>
    obtain ⟨f, t⟩ := s
    obtain ⟨ys, hys⟩ := List.getLast?_eq_some_iff.1 hl
    have hd : l.dropLast = ys := by rw [hys, List.dropLast_concat]
    have hk := h
    rw [hys] at hk
    obtain ⟨k1, k2, k3, k4, k5⟩ := ok_append.1 hk
    have ht := hx (f, t) (by rw [hys]; simp)
    simp only at ht
    have e : ∀ z, has l z ↔ has ys z ∨ ((f ≤ z ∧ z < t) ∨ has [] z) := fun z => by rw [hys, has_append, has_cons]
    by_cases htx : t = x
    · simp only [if_pos htx, hd]
      refine ⟨ok_append.2 ⟨k1, k2, k3, by omega, hy⟩, fun z => ?_, fun s hs => ?_⟩
      · rw [has_append, has_cons, e]
        have := has_nil z
        constructor
        · rintro (h1 | h1 | h1)
          · exact .inl (.inl h1)
          · rcases (by omega : z < t ∨ x ≤ z) with h2 | h2
            · exact .inl (.inr (.inl ⟨h1.1, h2⟩))
            · exact .inr ⟨h2, h1.2⟩
          · exact absurd h1 this
        · rintro ((h1 | h1 | h1) | h1)
          · exact .inl h1
          · exact .inr (.inl (by omega))
          · exact absurd h1 this
          · exact .inr (.inl (by omega))
      · rcases List.mem_append.1 hs with hs | hs
        · have := hx s (by rw [hys]; simp [hs]); omega
        · simp at hs; subst hs; simp
    · simp only [if_neg htx]
      refine ⟨ok_append.2 ⟨h, fun s hs => ?_, hp, hxy, hy⟩, fun z => ?_, fun s hs => ?_⟩
      · rw [hys] at hs
        rcases List.mem_append.1 hs with hs | hs
        · have := k2 s hs; omega
        · simp at hs; subst hs; simp; omega
      · rw [has_append, has_cons]
        have := has_nil z
        constructor
        · rintro (h1 | h1 | h1)
          · exact .inl h1
          · exact .inr h1
          · exact absurd h1 this
        · rintro (h1 | h1)
          · exact .inl h1
          · exact .inr (.inl h1)
      · rcases List.mem_append.1 hs with hs | hs
        · have := hx s hs; omega
        · simp at hs; subst hs; simp
end Go.Proofs.Ytbejjindkcjecaa.T6

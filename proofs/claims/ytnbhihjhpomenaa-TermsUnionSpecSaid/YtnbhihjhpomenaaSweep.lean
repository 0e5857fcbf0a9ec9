/- The boundaries of lists of spans; how a sweep over the boundaries of two sets makes a third. No program. -/
import Derived.Test.YtnbhihjhpomenaaPure
namespace Go.Proofs.Ytnbhihjhpomenaa.T
/-- beginnings and ends in order -/
def ends (l : List (Int × Int)) : List Int := l.flatMap fun s => [s.1, s.2]
theorem ends_nil : ends [] = [] := rfl
theorem ends_cons (f t : Int) (r : List (Int × Int)) : ends ((f, t) :: r) = f :: t :: ends r := rfl
theorem ends_append (l m : List (Int × Int)) : ends (l ++ m) = ends l ++ ends m := by simp [ends]
theorem ends_length (l : List (Int × Int)) : (ends l).length = 2 * l.length := by
  induction l with
  | nil => rfl
  | cons s r ih => obtain ⟨f, t⟩ := s; rw [ends_cons]; simp only [List.length_cons]; omega
/-- how many boundaries there are up to x -/
def upto (K : List Int) (x : Int) : Nat := K.countP (· < x + 1)
/-- is that number odd? -/
def par (K : List Int) (x : Int) : Bool := decide (upto K x % 2 = 1)
theorem upto_nil (x : Int) : upto [] x = 0 := rfl
theorem upto_cons (y : Int) (K : List Int) (x : Int) : upto (y :: K) x = upto K x + if y ≤ x then 1 else 0 := by
  unfold upto
  rw [List.countP_cons]
  by_cases h : y ≤ x
  · rw [if_pos h, if_pos (by simp; omega)]
  · rw [if_neg h, if_neg (by simp; omega)]
theorem upto_append (K M : List Int) (x : Int) : upto (K ++ M) x = upto K x + upto M x := by simp [upto]
theorem upto_none (K : List Int) (x : Int) (h : ∀ y ∈ K, x < y) : upto K x = 0 := by
  unfold upto
  rw [List.countP_eq_zero]
  intro y hy
  have := h y hy
  simp; omega
theorem upto_all (K : List Int) (x : Int) (h : ∀ y ∈ K, y ≤ x) : upto K x = K.length := by
  unfold upto
  rw [List.countP_eq_length]
  intro y hy
  have := h y hy
  simp; omega
theorem ends_range {n : Int} : ∀ {p : Int} {l : List (Int × Int)}, ok n p l → ∀ y ∈ ends l, p < y ∧ y ≤ n := by
  intro p l
  induction l generalizing p with
  | nil => intro _ y hy; simp [ends_nil] at hy
  | cons s r ih =>
    obtain ⟨f, t⟩ := s
    rintro ⟨h1, h2, h3, h4⟩ y hy
    rw [ends_cons] at hy
    simp only [List.mem_cons] at hy
    rcases hy with rfl | rfl | hy
    · omega
    · omega
    · have := ih h4 y hy; omega
theorem ends_sorted {n : Int} : ∀ {p : Int} {l : List (Int × Int)}, ok n p l → (ends l).Pairwise (· < ·) := by
  intro p l
  induction l generalizing p with
  | nil => intro _; simp [ends_nil]
  | cons s r ih =>
    obtain ⟨f, t⟩ := s
    rintro ⟨h1, h2, h3, h4⟩
    rw [ends_cons]
    refine List.pairwise_cons.2 ⟨fun y hy => ?_, List.pairwise_cons.2 ⟨fun y hy => (ends_range h4 y hy).1, ih h4⟩⟩
    simp only [List.mem_cons] at hy
    rcases hy with rfl | hy
    · exact h2
    · have := ends_range h4 y hy; omega
theorem par_ends {n : Int} : ∀ {p : Int} {l : List (Int × Int)}, ok n p l → ∀ x, par (ends l) x = decide (has l x) := by
  intro p l
  induction l generalizing p with
  | nil =>
    intro _ x
    have := has_nil x
    simp [par, ends_nil, upto_nil, this]
  | cons s r ih =>
    obtain ⟨f, t⟩ := s
    rintro ⟨h1, h2, h3, h4⟩ x
    have e := ih h4 x
    unfold par at e ⊢
    rw [ends_cons, upto_cons, upto_cons]
    have hc := has_cons f t r x
    rcases (by omega : x < t ∨ t ≤ x) with hx | hx
    · have h0 : upto (ends r) x = 0 := upto_none _ _ (fun y hy => by have := ends_range h4 y hy; omega)
      have hn : ¬ has r x := fun h => by have := ok_range h4 h; omega
      rw [h0, if_neg (by omega : ¬ t ≤ x)]
      by_cases hf : f ≤ x
      · rw [if_pos hf]
        have : has ((f, t) :: r) x := hc.2 (.inl ⟨hf, hx⟩)
        simp [this]
      · rw [if_neg hf]
        have : ¬ has ((f, t) :: r) x := fun h => by
          rcases hc.1 h with h | h
          · omega
          · exact hn h
        simp [this]
    · rw [if_pos hx, if_pos (by omega : f ≤ x)]
      have h5 : (upto (ends r) x + 1 + 1) % 2 = upto (ends r) x % 2 := by omega
      rw [h5, e]
      have h6 : has ((f, t) :: r) x ↔ has r x := by
        rw [hc]
        constructor
        · rintro (h | h)
          · omega
          · exact h
        · exact .inr
      simp [h6]
/-- boundaries in pairs -/
def pairs : List Int → List (Int × Int)
  | f :: t :: r => (f, t) :: pairs r
  | _ => []
theorem ends_pairs : ∀ (m : Nat) (K : List Int), K.length = 2 * m → ends (pairs K) = K ∧ (pairs K).length = m
  | 0, K, h => by
    obtain rfl : K = [] := List.eq_nil_of_length_eq_zero (by omega)
    exact ⟨rfl, rfl⟩
  | m + 1, K, h => by
    match K, h with
    | f :: t :: r, h =>
      have := ends_pairs m r (by simp only [List.length_cons] at h; omega)
      simp only [pairs, ends_cons, List.length_cons, this.1, this.2, and_self]
    | [x], h => simp at h; omega
    | [], h => simp at h
theorem ok_of_ends {n : Int} : ∀ {p : Int} {l : List (Int × Int)}, (ends l).Pairwise (· < ·) → (∀ y ∈ ends l, p < y ∧ y ≤ n) → ok n p l := by
  intro p l
  induction l generalizing p with
  | nil => intro _ _; trivial
  | cons s r ih =>
    obtain ⟨f, t⟩ := s
    intro hs hr
    rw [ends_cons] at hs hr
    obtain ⟨h1, h2⟩ := List.pairwise_cons.1 hs
    obtain ⟨h3, h4⟩ := List.pairwise_cons.1 h2
    exact ⟨(hr f (by simp)).1, h1 t (by simp), (hr t (by simp)).2, ih h4 (fun y hy => ⟨h3 y hy, (hr y (by simp [hy])).2⟩)⟩
instance okDec (n : Int) : ∀ (p : Int) (l : List (Int × Int)), Decidable (ok n p l)
  | _, [] => isTrue trivial
  | p, (f, t) :: r =>
    have := okDec n t r
    inferInstanceAs (Decidable (p < f ∧ f < t ∧ t ≤ n ∧ ok n t r))
theorem ok_take {n : Int} : ∀ {p : Int} {l : List (Int × Int)} (k : Nat), ok n p l → ok n p (l.take k) := by
  intro p l
  induction l generalizing p with
  | nil => intro k _; rw [List.take_nil]; trivial
  | cons s r ih =>
    obtain ⟨f, t⟩ := s
    rintro k ⟨h1, h2, h3, h4⟩
    cases k with
    | zero => trivial
    | succ k => exact ⟨h1, h2, h3, ih k h4⟩
theorem size_bound {n : Int} : ∀ {p : Int} {l : List (Int × Int)}, p ≤ n → ok n p l → 0 ≤ size l ∧ size l ≤ n - p := by
  intro p l
  induction l generalizing p with
  | nil => intro h _; simp [size]; omega
  | cons s r ih =>
    obtain ⟨f, t⟩ := s
    rintro _ ⟨h1, h2, h3, h4⟩
    have := ih h3 h4
    have hs : size ((f, t) :: r) = (t - f) + size r := by simp [size]
    omega
theorem size_snoc (l : List (Int × Int)) (f t : Int) : size (l ++ [(f, t)]) = size l + (t - f) := by simp [size]
/-- one round: the boundary is kept where the state changes -/
def turn (Q : Int → Bool) (K : List Int) (x : Int) : List Int := if Q x = decide (K.length % 2 = 1) then K else K ++ [x]
/-- what holds of the kept boundaries behind k boundaries of the sorted list L -/
structure Swept (Q : Int → Bool) (L : List Int) (k : Nat) (K : List Int) : Prop where
  mem : ∀ y ∈ K, y ∈ L.take k
  inc : K.Pairwise (· < ·)
  val : ∀ x, (∀ y ∈ L.drop k, x < y) → par K x = Q x
  old : ∀ x ∈ L.take k, par K x = Q x
  len : K.length ≤ k
theorem sorted_le {L : List Int} (hs : L.Pairwise (· ≤ ·)) {k : Nat} {x : Int} (hk : L[k]? = some x) : (∀ y ∈ L.take k, y ≤ x) ∧ (∀ y ∈ L.drop k, x ≤ y) := by
  have hlt : k < L.length := (List.getElem?_eq_some_iff.1 hk).1
  have hx : L[k] = x := (List.getElem?_eq_some_iff.1 hk).2
  have e : L = L.take k ++ (x :: L.drop (k + 1)) := by
    conv => lhs; rw [← List.take_append_drop k L, List.drop_eq_getElem_cons hlt, hx]
  have ed : L.drop k = x :: L.drop (k + 1) := by rw [List.drop_eq_getElem_cons hlt, hx]
  have hs2 := hs
  rw [e] at hs2
  obtain ⟨h1, h2, h3⟩ := List.pairwise_append.1 hs2
  refine ⟨fun y hy => h3 y hy x (by simp), fun y hy => ?_⟩
  rw [ed] at hy
  rcases List.mem_cons.1 hy with rfl | hy
  · exact Int.le_refl _
  · exact (List.pairwise_cons.1 h2).1 y hy
theorem par_last {K : List Int} {x : Int} (h : ∀ y ∈ K, y ≤ x) : par K x = decide (K.length % 2 = 1) := by unfold par; rw [upto_all K x h]
theorem swept_zero (Q : Int → Bool) (L : List Int) (h : ∀ x, (∀ y ∈ L, x < y) → Q x = false) : Swept Q L 0 [] :=
  ⟨by simp, by simp, fun x hx => by rw [h x (by simpa using hx)]; rfl, by simp, by simp⟩
theorem Swept.next {Q : Int → Bool} {L : List Int} {k : Nat} {K : List Int} (h : Swept Q L k K) (hs : L.Pairwise (· ≤ ·)) {x : Int} (hk : L[k]? = some x)
    (hQ : ∀ u v, u ≤ v → (∀ y ∈ L, y ≤ u ∨ v < y) → Q u = Q v) : Swept Q L (k + 1) (turn Q K x) := by
  obtain ⟨h1, h2⟩ := sorted_le hs hk
  have hlt : k < L.length := (List.getElem?_eq_some_iff.1 hk).1
  have ed : L.drop k = x :: L.drop (k + 1) := by rw [List.drop_eq_getElem_cons hlt, (List.getElem?_eq_some_iff.1 hk).2]
  have et : L.take (k + 1) = L.take k ++ [x] := by rw [List.take_add_one, hk]; rfl
  have hK : ∀ y ∈ K, y ≤ x := fun y hy => h1 y (h.mem y hy)
  have hp := par_last hK
  -- the new list: what it is at x and below
  have key : (∀ y ∈ turn Q K x, y ≤ x) ∧ (turn Q K x).Pairwise (· < ·) ∧ (∀ y ∈ turn Q K x, y ∈ L.take (k + 1)) ∧ par (turn Q K x) x = Q x ∧ (∀ z, z < x → par (turn Q K x) z = par K z) ∧ (turn Q K x).length ≤ k + 1 := by
    unfold turn
    by_cases hq : Q x = decide (K.length % 2 = 1)
    · rw [if_pos hq]
      exact ⟨hK, h.inc, fun y hy => by rw [et]; simp [h.mem y hy], by rw [hp, hq], fun _ _ => rfl, by have := h.len; omega⟩
    · rw [if_neg hq]
      have hlt2 : ∀ y ∈ K, y < x := by
        intro y hy
        have hle := hK y hy
        rcases (by omega : y < x ∨ y = x) with h5 | h5
        · exact h5
        · subst h5
          exact absurd (by rw [← hp]; exact (h.old _ (h.mem _ hy)).symm) hq
      refine ⟨fun y hy => ?_, ?_, fun y hy => ?_, ?_, fun z hz => ?_, by have := h.len; simp; omega⟩
      · rcases List.mem_append.1 hy with hy | hy
        · exact hK y hy
        · simp at hy; omega
      · exact List.pairwise_append.2 ⟨h.inc, by simp, fun a ha b hb => by simp at hb; subst hb; exact hlt2 a ha⟩
      · rw [et]
        rcases List.mem_append.1 hy with hy | hy
        · simp [h.mem y hy]
        · simp at hy; simp [hy]
      · rw [par_last (fun y hy => by
          rcases List.mem_append.1 hy with hy | hy
          · exact hK y hy
          · simp at hy; omega)]
        rw [List.length_append, List.length_singleton]
        cases hQx : Q x with
        | true => rw [hQx] at hq; simp at hq; simp; omega
        | false => rw [hQx] at hq; simp at hq; simp; omega
      · unfold par
        rw [upto_append, upto_none [x] z (by simp; omega)]
        rfl
  obtain ⟨k1, k2, k3, k4, k5, k6⟩ := key
  refine ⟨k3, k2, fun z hz => ?_, fun z hz => ?_, k6⟩
  · rcases (by omega : z < x ∨ x ≤ z) with hzx | hzx
    · rw [k5 z hzx]
      refine h.val z (fun y hy => ?_)
      have := h2 y hy; omega
    · have e1 : par (turn Q K x) z = par (turn Q K x) x := by
        rw [par_last k1, par_last (fun y hy => by have := k1 y hy; omega)]
      rw [e1, k4]
      refine hQ x z hzx (fun y hy => ?_)
      rw [← List.take_append_drop (k + 1) L] at hy
      rcases List.mem_append.1 hy with hy | hy
      · rw [et] at hy
        rcases List.mem_append.1 hy with hy | hy
        · exact .inl (h1 y hy)
        · simp at hy; exact .inl (by omega)
      · exact .inr (hz y hy)
  · rw [et] at hz
    rcases List.mem_append.1 hz with hz | hz
    · have hle := h1 z hz
      rcases (by omega : z < x ∨ z = x) with h5 | h5
      · rw [k5 z h5]; exact h.old z hz
      · rw [h5]; exact k4
    · simp at hz; rw [hz]; exact k4
/-- the end: the kept boundaries are those of a valid list that holds what Q says -/
theorem Swept.done {Q : Int → Bool} {L : List Int} {K : List Int} {n : Int} (h : Swept Q L L.length K) (hr : ∀ y ∈ L, -1 < y ∧ y ≤ n) (hQ : ∀ x, (∀ y ∈ L, y ≤ x) → Q x = false) :
    ∃ m, K.length = 2 * m ∧ ok n (-1) (pairs K) ∧ ∀ x, decide (has (pairs K) x) = Q x := by
  have hm : ∀ y ∈ K, y ∈ L := fun y hy => List.mem_of_mem_take (h.mem y hy)
  have hv : ∀ x, par K x = Q x := fun x => h.val x (by simp)
  obtain ⟨t, ht⟩ : ∃ t, ∀ y ∈ L, y ≤ t := ⟨n, fun y hy => (hr y hy).2⟩
  have hev : decide (K.length % 2 = 1) = false := by
    rw [← par_last (fun y hy => ht y (hm y hy)), hv, hQ t ht]
  have hlen : K.length = 2 * (K.length / 2) := by
    have : ¬ K.length % 2 = 1 := by simpa using hev
    omega
  obtain ⟨e1, e2⟩ := ends_pairs _ K hlen
  have hok : ok n (-1) (pairs K) := ok_of_ends (by rw [e1]; exact h.inc) (by rw [e1]; exact fun y hy => hr y (hm y hy))
  exact ⟨_, hlen, hok, fun x => by rw [← par_ends hok x, e1]; exact hv x⟩
/-- both sets' boundaries in one sorted list: the facts that the sweep wants -/
theorem upto_const {K : List Int} {u v : Int} (huv : u ≤ v) (h : ∀ y ∈ K, y ≤ u ∨ v < y) : upto K u = upto K v := by
  unfold upto
  refine List.countP_congr (fun y hy => ?_)
  have := h y hy
  simp; omega
theorem par_const {K : List Int} {u v : Int} (huv : u ≤ v) (h : ∀ y ∈ K, y ≤ u ∨ v < y) : par K u = par K v := by unfold par; rw [upto_const huv h]
theorem par_none {K : List Int} {x : Int} (h : ∀ y ∈ K, x < y) : par K x = false := by unfold par; rw [upto_none K x h]; rfl
theorem par_end {n p : Int} {l : List (Int × Int)} (_ : ok n p l) {x : Int} (hx : ∀ y ∈ ends l, y ≤ x) : par (ends l) x = false := by
  unfold par; rw [upto_all _ _ hx, ends_length]; simp
/-- what the sweep over a and b makes -/
theorem sweep_start {P : Bool → Bool → Bool} (hP : P false false = false) {A B L : List Int} (hL : ∀ y, y ∈ L ↔ y ∈ A ∨ y ∈ B) : Swept (fun x => P (par A x) (par B x)) L 0 [] :=
  swept_zero _ _ (fun x hx => by
    show P (par A x) (par B x) = false
    rw [par_none (fun y hy => hx y ((hL y).2 (.inl hy))), par_none (fun y hy => hx y ((hL y).2 (.inr hy))), hP])
theorem sweep_const {P : Bool → Bool → Bool} {A B L : List Int} (hL : ∀ y, y ∈ L ↔ y ∈ A ∨ y ∈ B) : ∀ u v, u ≤ v → (∀ y ∈ L, y ≤ u ∨ v < y) → (fun x => P (par A x) (par B x)) u = (fun x => P (par A x) (par B x)) v :=
  fun u v huv h => by
    show P (par A u) (par B u) = P (par A v) (par B v)
    rw [par_const huv (fun y hy => h y ((hL y).2 (.inl hy))), par_const huv (fun y hy => h y ((hL y).2 (.inr hy)))]
theorem sweep_done {P : Bool → Bool → Bool} (hP : P false false = false) {n : Int} {a b : List (Int × Int)} {L K : List Int} (ha : ok n (-1) a) (hb : ok n (-1) b) (hL : ∀ y, y ∈ L ↔ y ∈ ends a ∨ y ∈ ends b)
    (h : Swept (fun x => P (par (ends a) x) (par (ends b) x)) L L.length K) : ∃ m, K.length = 2 * m ∧ ok n (-1) (pairs K) ∧ ∀ x, decide (has (pairs K) x) = P (decide (has a x)) (decide (has b x)) := by
  obtain ⟨m, h1, h2, h3⟩ := h.done (n := n) (fun y hy => by
    rcases (hL y).1 hy with h | h
    · exact ends_range ha y h
    · exact ends_range hb y h) (fun x hx => by
    show P (par (ends a) x) (par (ends b) x) = false
    rw [par_end ha (fun y hy => hx y ((hL y).2 (.inl hy))), par_end hb (fun y hy => hx y ((hL y).2 (.inr hy))), hP])
  refine ⟨m, h1, h2, fun x => ?_⟩
  rw [h3 x, ← par_ends ha x, ← par_ends hb x]
end Go.Proofs.Ytnbhihjhpomenaa.T

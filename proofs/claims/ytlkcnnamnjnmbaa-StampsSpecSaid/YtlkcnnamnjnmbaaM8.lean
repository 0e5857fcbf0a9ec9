/- Stamps in plain Lean: the order, lists, merging. -/
namespace S8
abbrev St := Int × Int × Int
def lt (a b : St) : Prop := a.1 < b.1 ∨ (a.1 = b.1 ∧ (a.2.1 < b.2.1 ∨ (a.2.1 = b.2.1 ∧ a.2.2 < b.2.2)))
instance (a b : St) : Decidable (lt a b) := by unfold lt; infer_instance
def cp (a b : St) : Int := if lt a b then -1 else if a = b then 0 else 1
theorem ext {a b : St} (h1 : a.1 = b.1) (h2 : a.2.1 = b.2.1) (h3 : a.2.2 = b.2.2) : a = b := by
  obtain ⟨a1, a2, a3⟩ := a; obtain ⟨b1, b2, b3⟩ := b; simp_all
theorem eq_iff {a b : St} : a = b ↔ a.1 = b.1 ∧ a.2.1 = b.2.1 ∧ a.2.2 = b.2.2 := ⟨fun h => by subst h; exact ⟨rfl, rfl, rfl⟩, fun h => ext h.1 h.2.1 h.2.2⟩
theorem lt_irrefl (a : St) : ¬ lt a a := by unfold lt; omega
theorem lt_trans {a b c : St} (h1 : lt a b) (h2 : lt b c) : lt a c := by unfold lt at *; omega
theorem lt_tri (a b : St) : lt a b ∨ a = b ∨ lt b a := by rw [eq_iff]; unfold lt; omega
theorem lt_asymm {a b : St} (h1 : lt a b) : ¬ lt b a := fun h2 => lt_irrefl a (lt_trans h1 h2)
theorem lt_ne {a b : St} (h1 : lt a b) : a ≠ b := fun h => by subst h; exact lt_irrefl _ h1
theorem cp_lt {a b : St} (h : lt a b) : cp a b = -1 := if_pos h
theorem cp_eq {a : St} : cp a a = 0 := by unfold cp; rw [if_neg (lt_irrefl a), if_pos rfl]
theorem cp_gt {a b : St} (h : lt b a) : cp a b = 1 := by unfold cp; rw [if_neg (lt_asymm h), if_neg (fun e => lt_ne h e.symm)]
theorem cp_neg (a b : St) : cp b a = - cp a b := by
  rcases lt_tri a b with h | h | h
  · rw [cp_lt h, cp_gt h]; rfl
  · subst h; rw [cp_eq]; rfl
  · rw [cp_lt h, cp_gt h]
theorem cp_range (a b : St) : cp a b = -1 ∨ cp a b = 0 ∨ cp a b = 1 := by
  rcases lt_tri a b with h | h | h
  · exact .inl (cp_lt h)
  · subst h; exact .inr (.inl cp_eq)
  · exact .inr (.inr (cp_gt h))
theorem cp_neg_iff {a b : St} : cp a b < 0 ↔ lt a b := by
  rcases lt_tri a b with h | h | h
  · rw [cp_lt h]; simp [h]
  · subst h; rw [cp_eq]; simp [lt_irrefl]
  · rw [cp_gt h]; simp [lt_asymm h]
theorem cp_pos_iff {a b : St} : 0 < cp a b ↔ lt b a := by
  rcases lt_tri a b with h | h | h
  · rw [cp_lt h]; simp [lt_asymm h]
  · subst h; rw [cp_eq]; simp [lt_irrefl]
  · rw [cp_gt h]; simp [h]
theorem cp_zero_iff {a b : St} : cp a b = 0 ↔ a = b := by
  rcases lt_tri a b with h | h | h
  · rw [cp_lt h]; simp [lt_ne h]
  · subst h; rw [cp_eq]; simp
  · rw [cp_gt h]; simp; exact fun e => lt_ne h e.symm
theorem cp_trans {a b c : St} (h1 : cp a b ≤ 0) (h2 : cp b c ≤ 0) : cp a c ≤ 0 := by
  have e1 : ¬ lt b a := fun h => by rw [← cp_pos_iff] at h; omega
  have e2 : ¬ lt c b := fun h => by rw [← cp_pos_iff] at h; omega
  have e3 : ¬ lt c a := by unfold lt at *; omega
  rw [← cp_pos_iff] at e3; omega
/-- the number of two numbers -/
def cn (x y : Int) : Int := if x < y then -1 else if x > y then 1 else 0
theorem cp_by (a b : St) : cp a b = if cn a.1 b.1 ≠ 0 then cn a.1 b.1 else if cn a.2.1 b.2.1 ≠ 0 then cn a.2.1 b.2.1 else cn a.2.2 b.2.2 := by
  unfold cn
  rcases Int.lt_trichotomy a.1 b.1 with h | h | h
  · rw [cp_lt (.inl h)]; simp [h]
  · rcases Int.lt_trichotomy a.2.1 b.2.1 with h2 | h2 | h2
    · rw [cp_lt (.inr ⟨h, .inl h2⟩)]; simp [h, h2]
    · rcases Int.lt_trichotomy a.2.2 b.2.2 with h3 | h3 | h3
      · rw [cp_lt (.inr ⟨h, .inr ⟨h2, h3⟩⟩)]; simp [h, h2, h3]
      · rw [cp_zero_iff.2 (ext h h2 h3)]; simp [h, h2, h3]
      · rw [cp_gt (.inr ⟨h.symm, .inr ⟨h2.symm, h3⟩⟩)]; simp [h, h2, h3, show ¬ a.2.2 < b.2.2 by omega]
    · rw [cp_gt (.inr ⟨h.symm, .inl h2⟩)]; simp [h, h2, show ¬ a.2.1 < b.2.1 by omega]
  · rw [cp_gt (.inl h)]; simp [h, show ¬ a.1 < b.1 by omega]
def ok (s : St) : Prop := 1 ≤ s.1 ∧ s.1 ≤ 1048576 ∧ 0 ≤ s.2.1 ∧ s.2.1 ≤ 6 ∧ 1 ≤ s.2.2 ∧ s.2.2 ≤ 1048576
instance (s : St) : Decidable (ok s) := by unfold ok; infer_instance
def chk (s : St) : Int := if ok s then 0 else 80
def lst (l : List St) : Prop := (∀ s ∈ l, ok s) ∧ l.Pairwise lt
instance (l : List St) : Decidable (lst l) := by unfold lst; infer_instance
def knw (s : St) : Int := if ok s then 8 * s.1 + s.2.1 else 0
/-- of a time of knowledge -/
def sof (n : Int) : St := (n.tdiv 8, n.tmod 8, 1)
def oft (n : Int) : Int := if ok (sof n) then n.tdiv 8 else 0
def ofc (n : Int) : Int := if ok (sof n) then n.tmod 8 else 0
def ofe (n : Int) : Int := if ok (sof n) then 0 else 80
theorem sof_neg {n : Int} (h : n < 0) : ¬ ok (sof n) := by
  unfold ok sof; simp only
  intro h1
  have h2 : (-n).tdiv 8 = -(n.tdiv 8) := Int.neg_tdiv ..
  rw [Int.tdiv_eq_ediv_of_nonneg (by omega)] at h2
  omega
theorem sof_known {s : St} (h : ok s) : ok (sof (8 * s.1 + s.2.1)) ∧ (8 * s.1 + s.2.1).tdiv 8 = s.1 ∧ (8 * s.1 + s.2.1).tmod 8 = s.2.1 := by
  unfold ok at h
  have h1 : (8 * s.1 + s.2.1).tdiv 8 = s.1 := by rw [Int.tdiv_eq_ediv_of_nonneg (by omega)]; omega
  have h2 : (8 * s.1 + s.2.1).tmod 8 = s.2.1 := by rw [Int.tmod_eq_emod_of_nonneg (by omega)]; omega
  refine ⟨?_, h1, h2⟩
  unfold ok sof; simp only
  omega
/-- the next stamp -/
def nin (s : St) (n : Int) : Prop := 0 ≤ s.2.1 ∧ s.2.1 ≤ 6 ∧ 0 ≤ s.1 ∧ s.1 ≤ 1048576 ∧ 0 ≤ n ∧ n ≤ 1048576 ∧ 0 ≤ s.2.2 ∧ s.2.2 ≤ 1048576
instance (s : St) (n : Int) : Decidable (nin s n) := by unfold nin; infer_instance
def nlim (s : St) (n : Int) : Prop := max s.1 n = 1048576 ∨ s.2.2 = 1048576
instance (s : St) (n : Int) : Decidable (nlim s n) := by unfold nlim; infer_instance
def nxt (s : St) (n : Int) : St := if nin s n then (if nlim s n then (0, 0, 0) else (max s.1 n + 1, s.2.1, s.2.2 + 1)) else (0, 0, 0)
def nxe (s : St) (n : Int) : Int := if nin s n then (if nlim s n then 2 else 0) else 80
/-- merging -/
def ins (x : St) (f : List St → List St) : List St → List St
  | [] => x :: f []
  | y :: b => if lt y x then y :: ins x f b else if x = y then x :: f b else x :: f (y :: b)
def mrg : List St → List St → List St
  | [], b => b
  | x :: a, b => ins x (mrg a) b
theorem mrg_nil_l (b : List St) : mrg [] b = b := rfl
theorem mrg_nil_r : ∀ a : List St, mrg a [] = a
  | [] => rfl
  | x :: a => by show x :: mrg a [] = _; rw [mrg_nil_r a]
theorem mrg_cons (x y : St) (a b : List St) : mrg (x :: a) (y :: b) = if lt y x then y :: mrg (x :: a) b else if x = y then x :: mrg a b else x :: mrg a (y :: b) := rfl
theorem mrg_lt {x y : St} {a b : List St} (h : lt y x) : mrg (x :: a) (y :: b) = y :: mrg (x :: a) b := by rw [mrg_cons, if_pos h]
theorem mrg_eq {x : St} {a b : List St} : mrg (x :: a) (x :: b) = x :: mrg a b := by rw [mrg_cons, if_neg (lt_irrefl x), if_pos rfl]
theorem mrg_gt {x y : St} {a b : List St} (h : lt x y) : mrg (x :: a) (y :: b) = x :: mrg a (y :: b) := by rw [mrg_cons, if_neg (lt_asymm h), if_neg (lt_ne h)]
theorem mem_mrg (s : St) : ∀ a b : List St, s ∈ mrg a b ↔ s ∈ a ∨ s ∈ b
  | [], b => by simp [mrg_nil_l]
  | x :: a, [] => by simp [mrg_nil_r]
  | x :: a, y :: b => by
    have h1 := mem_mrg s (x :: a) b
    have h2 := mem_mrg s a b
    have h3 := mem_mrg s a (y :: b)
    rcases lt_tri x y with h | h | h
    · rw [mrg_gt h]; simp only [List.mem_cons] at *; rw [h3]; grind
    · subst h; rw [mrg_eq]; simp only [List.mem_cons] at *; rw [h2]; grind
    · rw [mrg_lt h]; simp only [List.mem_cons] at *; rw [h1]; grind
theorem mrg_sorted : ∀ a b : List St, a.Pairwise lt → b.Pairwise lt → (mrg a b).Pairwise lt
  | [], b, _, h => by rw [mrg_nil_l]; exact h
  | x :: a, [], h, _ => by rw [mrg_nil_r]; exact h
  | x :: a, y :: b, ha, hb => by
    obtain ⟨ha1, ha2⟩ := List.pairwise_cons.1 ha
    obtain ⟨hb1, hb2⟩ := List.pairwise_cons.1 hb
    have h1 := mrg_sorted (x :: a) b ha hb2
    have h2 := mrg_sorted a b ha2 hb2
    have h3 := mrg_sorted a (y :: b) ha2 hb
    rcases lt_tri x y with h | h | h
    · rw [mrg_gt h, List.pairwise_cons]
      refine ⟨fun s hs => ?_, h3⟩
      rcases (mem_mrg s _ _).1 hs with hs | hs
      · exact ha1 s hs
      · rcases List.mem_cons.1 hs with hs | hs
        · subst hs; exact h
        · exact lt_trans h (hb1 s hs)
    · subst h; rw [mrg_eq, List.pairwise_cons]
      refine ⟨fun s hs => ?_, h2⟩
      rcases (mem_mrg s _ _).1 hs with hs | hs
      · exact ha1 s hs
      · exact hb1 s hs
    · rw [mrg_lt h, List.pairwise_cons]
      refine ⟨fun s hs => ?_, h1⟩
      rcases (mem_mrg s _ _).1 hs with hs | hs
      · rcases List.mem_cons.1 hs with hs | hs
        · subst hs; exact h
        · exact lt_trans h (ha1 s hs)
      · exact hb1 s hs
theorem lst_mrg {a b : List St} (ha : lst a) (hb : lst b) : lst (mrg a b) :=
  ⟨fun s hs => ((mem_mrg s a b).1 hs).elim (ha.1 s) (hb.1 s), mrg_sorted a b ha.2 hb.2⟩
theorem uniq : ∀ {a b : List St}, a.Pairwise lt → b.Pairwise lt → (∀ s, s ∈ a ↔ s ∈ b) → a = b
  | [], [], _, _, _ => rfl
  | [], y :: b, _, _, h => by simpa using h y
  | x :: a, [], _, _, h => by simpa using h x
  | x :: a, y :: b, ha, hb, h => by
    obtain ⟨ha1, ha2⟩ := List.pairwise_cons.1 ha
    obtain ⟨hb1, hb2⟩ := List.pairwise_cons.1 hb
    have hx : x = y := by
      rcases lt_tri x y with hl | hl | hl
      · rcases List.mem_cons.1 ((h x).1 (List.mem_cons_self ..)) with e | e
        · exact e
        · exact absurd (hb1 x e) (lt_asymm hl)
      · exact hl
      · rcases List.mem_cons.1 ((h y).2 (List.mem_cons_self ..)) with e | e
        · exact e.symm
        · exact absurd (ha1 y e) (lt_asymm hl)
    subst hx
    rw [uniq ha2 hb2 (fun s => ⟨fun hs => ?_, fun hs => ?_⟩)]
    · rcases List.mem_cons.1 ((h s).1 (List.mem_cons_of_mem _ hs)) with e | e
      · subst e; exact absurd (ha1 _ hs) (lt_irrefl _)
      · exact e
    · rcases List.mem_cons.1 ((h s).2 (List.mem_cons_of_mem _ hs)) with e | e
      · subst e; exact absurd (hb1 _ hs) (lt_irrefl _)
      · exact e
theorem mrg_comm {a b : List St} (ha : lst a) (hb : lst b) : mrg a b = mrg b a :=
  uniq (mrg_sorted a b ha.2 hb.2) (mrg_sorted b a hb.2 ha.2) (fun s => by rw [mem_mrg, mem_mrg, or_comm])
theorem mrg_assoc {a b c : List St} (ha : lst a) (hb : lst b) (hc : lst c) : mrg (mrg a b) c = mrg a (mrg b c) :=
  uniq (mrg_sorted _ c (mrg_sorted a b ha.2 hb.2) hc.2) (mrg_sorted a _ ha.2 (mrg_sorted b c hb.2 hc.2)) (fun s => by simp only [mem_mrg, or_assoc])
theorem mrg_self {a : List St} (ha : lst a) : mrg a a = a := uniq (mrg_sorted a a ha.2 ha.2) ha.2 (fun s => by rw [mem_mrg, or_self])
theorem mrg_length : ∀ a b : List St, (mrg a b).length ≤ a.length + b.length
  | [], b => by simp [mrg_nil_l]
  | x :: a, [] => by simp [mrg_nil_r]
  | x :: a, y :: b => by
    have h1 := mrg_length (x :: a) b
    have h2 := mrg_length a b
    have h3 := mrg_length a (y :: b)
    rcases lt_tri x y with h | h | h
    · rw [mrg_gt h]; simp only [List.length_cons] at *; omega
    · subst h; rw [mrg_eq]; simp only [List.length_cons] at *; omega
    · rw [mrg_lt h]; simp only [List.length_cons] at *; omega
def mg (a b : List St) : List St := if lst a ∧ lst b then mrg a b else []
def mge (a b : List St) : Int := if lst a ∧ lst b then 0 else 80
/-- the first n stamps are a valid list -/
theorem lst_snoc {l : List St} {n : Nat} {s : St} (h : l[n]? = some s) : lst (l.take (n + 1)) ↔ lst (l.take n) ∧ ok s ∧ (0 < n → ∀ p, l[n - 1]? = some p → lt p s) := by
  have e : l.take (n + 1) = l.take n ++ [s] := by rw [List.take_add_one, h]; rfl
  unfold lst
  rw [e, List.pairwise_append]
  constructor
  · rintro ⟨h1, h2, _, h3⟩
    refine ⟨⟨fun s hs => h1 s (List.mem_append_left _ hs), h2⟩, h1 s (by simp), fun hn p hp => ?_⟩
    exact h3 p (List.mem_iff_getElem?.2 ⟨n - 1, by rw [List.getElem?_take]; rw [if_pos (by omega)]; exact hp⟩) s (by simp)
  · rintro ⟨⟨h1, h2⟩, h3, h4⟩
    refine ⟨fun u hu => ?_, h2, by simp, fun p hp u hu => ?_⟩
    · rcases List.mem_append.1 hu with hu | hu
      · exact h1 u hu
      · obtain rfl : u = s := by simpa using hu
        exact h3
    · obtain rfl : u = s := by simpa using hu
      obtain ⟨i, hi⟩ := List.mem_iff_getElem?.1 hp
      have hin : i < n := by
        rw [List.getElem?_take] at hi; split at hi
        · assumption
        · cases hi
      have hq : ∃ q, l[n - 1]? = some q := by
        have := (List.getElem?_eq_some_iff.1 h).1
        exact ⟨l[n - 1], List.getElem?_eq_getElem (by omega)⟩
      obtain ⟨q, hq⟩ := hq
      have hqs := h4 (by omega) q hq
      rw [List.getElem?_take, if_pos hin] at hi
      by_cases hin2 : i = n - 1
      · subst hin2; rw [hi] at hq; cases hq; exact hqs
      · have hpq : lt p q := by
          have hl1 := (List.getElem?_eq_some_iff.1 hi)
          have hl2 := (List.getElem?_eq_some_iff.1 hq)
          have g1 := hl1.1; have g2 := hl2.1
          have := List.pairwise_iff_getElem.1 h2 i (n - 1) (by simp; omega) (by simp; omega) (by omega)
          simp only [List.getElem_take] at this
          rw [hl1.2, hl2.2] at this
          exact this
        exact lt_trans hpq hqs
theorem lst_nil : lst [] := ⟨by simp, .nil⟩
theorem lst_take {l : List St} (h : lst l) (n : Nat) : lst (l.take n) := ⟨fun s hs => h.1 s (List.mem_of_mem_take hs), h.2.sublist (List.take_sublist n l)⟩
/-- stamps in the order of times of knowledge -/
theorem known_lt {a b : St} (ha : ok a) (hb : ok b) (h : 8 * a.1 + a.2.1 ≠ 8 * b.1 + b.2.1) : 8 * a.1 + a.2.1 < 8 * b.1 + b.2.1 ↔ lt a b := by
  unfold ok at *; unfold lt; omega
theorem known_eq {a b : St} (ha : ok a) (hb : ok b) (h : 8 * a.1 + a.2.1 = 8 * b.1 + b.2.1) : a.1 = b.1 ∧ a.2.1 = b.2.1 := by unfold ok at *; omega
theorem nxt_ok {s : St} {n : Int} (h : nxe s n = 0) : nxt s n = (max s.1 n + 1, s.2.1, s.2.2 + 1) ∧ ok (nxt s n) ∧ lt s (nxt s n) ∧ nin s n := by
  unfold nxe at h
  by_cases h1 : nin s n
  · rw [if_pos h1] at h
    by_cases h2 : nlim s n
    · rw [if_pos h2] at h; omega
    · have e : nxt s n = (max s.1 n + 1, s.2.1, s.2.2 + 1) := by unfold nxt; rw [if_pos h1, if_neg h2]
      rw [e]
      refine ⟨rfl, ?_, ?_, h1⟩
      · unfold ok; unfold nin at h1; unfold nlim at h2; simp only; omega
      · unfold lt; simp only; omega
  · rw [if_neg h1] at h; omega
theorem nxt_err {s : St} {n : Int} (h : nxe s n ≠ 0) : nxt s n = (0, 0, 0) := by
  unfold nxe at h; unfold nxt
  by_cases h1 : nin s n
  · rw [if_pos h1] at h ⊢
    by_cases h2 : nlim s n
    · rw [if_pos h2]
    · rw [if_neg h2] at h; omega
  · rw [if_neg h1]
end S8

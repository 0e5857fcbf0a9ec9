import Derived.Test.YtbejjindkcjecaaT6
/- Facts with two times: which fact counts, values, points, what differs, changes as lists of spans; what later facts do not change. No program. -/
namespace Go.Proofs.Ytbejjindkcjecaa.F7
/-- a fact: its key (kind, subject, object), value, terms, time of knowledge, number -/
structure Fact where
  kind : Int
  subj : Int
  obj : Int
  val : Int
  frm : Int
  to : Int
  known : Int
  no : Int
deriving DecidableEq
abbrev Key := Int × Int × Int
def Fact.key (f : Fact) : Key := (f.kind, f.subj, f.obj)
def bef (a b : Fact) : Prop := a.known < b.known ∨ (a.known = b.known ∧ a.no < b.no)
instance (a b : Fact) : Decidable (bef a b) := inferInstanceAs (Decidable (_ ∨ _))
theorem bef_irrefl (a : Fact) : ¬ bef a a := by unfold bef; omega
theorem bef_trans {a b c : Fact} (h : bef a b) (k : bef b c) : bef a c := by unfold bef at *; omega
theorem not_bef_trans {a b c : Fact} (h : ¬ bef a b) (k : ¬ bef b c) : ¬ bef a c := by unfold bef at *; omega
/-- the fact is of the key, covers the term, is known at the time -/
def hit (k : Key) (t q : Int) (f : Fact) : Prop := f.key = k ∧ f.frm ≤ t ∧ t < f.to ∧ f.known ≤ q
instance (k : Key) (t q : Int) (f : Fact) : Decidable (hit k t q f) := inferInstanceAs (Decidable (_ ∧ _ ∧ _ ∧ _))
/-- one fact more: it takes the place of the best one unless it comes before it -/
def upd (b : Option Fact) (f : Fact) : Option Fact :=
  match b with
  | none => some f
  | some g => if bef f g then some g else some f
/-- the fact that counts -/
def best (k : Key) (t q : Int) (l : List Fact) : Option Fact := l.foldl (fun b f => if hit k t q f then upd b f else b) none
theorem best_nil (k : Key) (t q : Int) : best k t q [] = none := rfl
theorem best_snoc (k : Key) (t q : Int) (l : List Fact) (f : Fact) : best k t q (l ++ [f]) = if hit k t q f then upd (best k t q l) f else best k t q l := by
  unfold best; rw [List.foldl_append]; rfl
/-- the value, if there is one -/
def val (k : Key) (t q : Int) (l : List Fact) : Int × Bool :=
  match best k t q l with
  | none => (0, false)
  | some f => if f.val < 0 then (0, false) else (f.val, true)
theorem best_filter (k : Key) (t q : Int) (l : List Fact) (p : Fact → Bool) (h : ∀ f ∈ l, hit k t q f → p f = true) : best k t q (l.filter p) = best k t q l := by
  have e : ∀ b : Option Fact, (l.filter p).foldl (fun b f => if hit k t q f then upd b f else b) b = l.foldl (fun b f => if hit k t q f then upd b f else b) b := by
    induction l with
    | nil => intro b; rfl
    | cons f r ih =>
      intro b
      have ihr := ih (fun g hg => h g (List.mem_cons_of_mem _ hg))
      rw [List.filter_cons]
      by_cases hp : p f = true
      · rw [if_pos hp, List.foldl_cons, List.foldl_cons, ihr]
      · rw [if_neg hp, List.foldl_cons, ihr]
        rw [if_neg (fun hh => hp (h f (List.mem_cons_self ..) hh))]
  exact e none
/-- facts that are not hit do not matter -/
theorem best_append_miss (k : Key) (t q : Int) (l m : List Fact) (h : ∀ f ∈ m, ¬ hit k t q f) : best k t q (l ++ m) = best k t q l := by
  have e : best k t q (l ++ m) = best k t q ((l ++ m).filter fun f => decide (hit k t q f)) := (best_filter k t q _ _ (fun f _ hf => by simpa using hf)).symm
  have e2 : best k t q l = best k t q (l.filter fun f => decide (hit k t q f)) := (best_filter k t q _ _ (fun f _ hf => by simpa using hf)).symm
  rw [e, e2, List.filter_append]
  rw [show m.filter (fun f => decide (hit k t q f)) = [] from List.filter_eq_nil_iff.2 (fun f hf => by simpa using h f hf), List.append_nil]
theorem snocRec {α : Type} {P : List α → Prop} (h0 : P []) (h1 : ∀ l a, P l → P (l ++ [a])) (l : List α) : P l := by
  have key : ∀ n (l : List α), l.length = n → P l := by
    intro n
    induction n with
    | zero => intro l hl; obtain rfl := List.eq_nil_of_length_eq_zero hl; exact h0
    | succ n ih =>
      intro l hl
      rcases List.eq_nil_or_concat l with h | ⟨m, a, h⟩
      · subst h; simp at hl
      · subst h
        simp at hl
        have := h1 m a (ih m (by omega))
        simpa using this
  exact key _ l rfl
theorem upd_some (b : Option Fact) (f : Fact) : ∃ g, upd b f = some g := by
  cases b with
  | none => exact ⟨f, rfl⟩
  | some g => unfold upd; by_cases h : bef f g <;> simp [h]
theorem best_none {k : Key} {t q : Int} {l : List Fact} : best k t q l = none ↔ ∀ f ∈ l, ¬ hit k t q f := by
  refine snocRec (P := fun l => best k t q l = none ↔ ∀ f ∈ l, ¬ hit k t q f) ?_ ?_ l
  · simp [best_nil]
  · intro l f ih
    rw [best_snoc]
    by_cases h : hit k t q f
    · rw [if_pos h]
      obtain ⟨g, hg⟩ := upd_some (best k t q l) f
      rw [hg]
      constructor
      · intro e; cases e
      · intro e; exact absurd h (e f (by simp))
    · rw [if_neg h, ih]
      constructor
      · intro e g hg
        rcases List.mem_append.1 hg with hg | hg
        · exact e g hg
        · simp at hg; subst hg; exact h
      · intro e g hg; exact e g (by simp [hg])
/-- the fact at place i is the last one of those that are hit -/
def last (k : Key) (t q : Int) (l : List Fact) (i : Nat) (f : Fact) : Prop :=
  l[i]? = some f ∧ hit k t q f ∧ ∀ j g, l[j]? = some g → hit k t q g → ¬ bef f g ∧ (i < j → bef g f)
theorem best_last {k : Key} {t q : Int} {l : List Fact} {f : Fact} : best k t q l = some f → ∃ i, last k t q l i f := by
  revert f
  refine snocRec (P := fun l => ∀ {f}, best k t q l = some f → ∃ i, last k t q l i f) ?_ ?_ l
  · intro f h; cases h
  · intro l f ih g hg
    rw [best_snoc] at hg
    by_cases h : hit k t q f
    · rw [if_pos h] at hg
      cases hb : best k t q l with
      | none =>
        rw [hb] at hg
        have hm := best_none.1 hb
        obtain rfl : f = g := by simpa [upd] using hg
        refine ⟨l.length, by simp, h, fun j u hj hu => ?_⟩
        rw [List.getElem?_append] at hj
        split at hj
        · exact absurd hu (hm u (List.mem_of_getElem? hj))
        · rename_i hjl
          have hjl2 : j = l.length := by
            have := (List.getElem?_eq_some_iff.1 hj).1
            simp at this; omega
          subst hjl2
          simp at hj; subst hj
          exact ⟨bef_irrefl _, fun hlt => by omega⟩
      | some b =>
        rw [hb] at hg
        obtain ⟨i, h1, h2, h3⟩ := ih hb
        have hil : i < l.length := (List.getElem?_eq_some_iff.1 h1).1
        by_cases hfb : bef f b
        · obtain rfl : b = g := by simpa [upd, hfb] using hg
          refine ⟨i, by rw [List.getElem?_append_left hil]; exact h1, h2, fun j u hj hu => ?_⟩
          rw [List.getElem?_append] at hj
          split at hj
          · exact h3 j u hj hu
          · have : u = f := by
              have hjl := (List.getElem?_eq_some_iff.1 hj)
              obtain ⟨hl1, hl2⟩ := hjl
              simp at hl1
              have : j - l.length = 0 := by omega
              simp [this] at hl2
              exact hl2.symm
            subst this
            exact ⟨fun e => bef_irrefl _ (bef_trans e hfb), fun _ => hfb⟩
        · obtain rfl : f = g := by simpa [upd, hfb] using hg
          refine ⟨l.length, by simp, h, fun j u hj hu => ?_⟩
          rw [List.getElem?_append] at hj
          split at hj
          · rename_i hjl
            exact ⟨fun e => (h3 j u hj hu).1 (by
              by_cases hx : bef b u
              · exact hx
              · exact absurd e (not_bef_trans hfb hx)), fun hlt => by omega⟩
          · have hlt : j = l.length := by
              have := (List.getElem?_eq_some_iff.1 hj).1
              simp at this; omega
            subst hlt
            simp at hj; subst hj
            exact ⟨bef_irrefl _, fun hlt => by omega⟩
    · rw [if_neg h] at hg
      obtain ⟨i, h1, h2, h3⟩ := ih hg
      have hil : i < l.length := (List.getElem?_eq_some_iff.1 h1).1
      refine ⟨i, by rw [List.getElem?_append_left hil]; exact h1, h2, fun j u hj hu => ?_⟩
      rw [List.getElem?_append] at hj
      split at hj
      · exact h3 j u hj hu
      · have : u = f := by
          obtain ⟨hl1, hl2⟩ := List.getElem?_eq_some_iff.1 hj
          simp at hl1
          have : j - l.length = 0 := by omega
          simp [this] at hl2
          exact hl2.symm
        subst this
        exact absurd hu h
/-- there is one last place only -/
theorem last_uniq {k : Key} {t q : Int} {l : List Fact} {i j : Nat} {f g : Fact} (h : last k t q l i f) (h' : last k t q l j g) : i = j := by
  obtain ⟨a1, a2, a3⟩ := h
  obtain ⟨b1, b2, b3⟩ := h'
  rcases Nat.lt_trichotomy i j with e | e | e
  · have := (a3 j g b1 b2).2 e
    exact absurd this (b3 i f a1 a2).1
  · exact e
  · have := (b3 i f a1 a2).2 e
    exact absurd this (a3 j g b1 b2).1
/-- what counts is what stands at the last place -/
theorem best_of_last {k : Key} {t q : Int} {l : List Fact} {i : Nat} {f : Fact} (h : last k t q l i f) : best k t q l = some f := by
  cases hb : best k t q l with
  | none => exact absurd h.2.1 (best_none.1 hb f (List.mem_of_getElem? h.1))
  | some g =>
    obtain ⟨j, hj⟩ := best_last hb
    have := last_uniq h hj
    subst this
    have h1 := h.1; have h2 := hj.1
    rw [h1] at h2
    exact h2.symm
theorem val_nil (k : Key) (t q : Int) : val k t q [] = (0, false) := rfl
theorem val_false {k : Key} {t q : Int} {l : List Fact} (h : (val k t q l).2 = false) : (val k t q l).1 = 0 := by
  revert h
  unfold val
  cases best k t q l with
  | none => intro _; rfl
  | some f =>
    by_cases hv : f.val < 0
    · simp [hv]
    · simp [hv]
theorem val_congr {k : Key} {t q q' : Int} {l m : List Fact} (h : best k t q l = best k t q' m) : val k t q l = val k t q' m := by unfold val; rw [h]
/-- what is known up to a time -/
def upto (q : Int) (l : List Fact) : List Fact := l.filter fun f => decide (f.known ≤ q)
theorem best_upto (k : Key) (t : Int) {q q' : Int} (hq : q ≤ q') (l : List Fact) : best k t q' (upto q l) = best k t q l := by
  have e1 : best k t q' (upto q l) = best k t q (upto q l) := by
    unfold best
    have : ∀ b : Option Fact, (upto q l).foldl (fun b f => if hit k t q' f then upd b f else b) b = (upto q l).foldl (fun b f => if hit k t q f then upd b f else b) b := by
      have hk : ∀ f ∈ upto q l, f.known ≤ q := fun f hf => by simpa using (List.mem_filter.1 hf).2
      generalize upto q l = u at hk
      induction u with
      | nil => intro b; rfl
      | cons f r ih =>
        intro b
        have hf := hk f (by simp)
        have e : hit k t q' f ↔ hit k t q f := by unfold hit; constructor <;> (rintro ⟨h1, h2, h3, h4⟩; exact ⟨h1, h2, h3, by omega⟩)
        rw [List.foldl_cons, List.foldl_cons, ih (fun g hg => hk g (by simp [hg]))]
        by_cases h : hit k t q f
        · rw [if_pos h, if_pos (e.2 h)]
        · rw [if_neg h, if_neg (fun x => h (e.1 x))]
    exact this none
  rw [e1]
  exact best_filter k t q l _ (fun f _ hf => by have := hf.2.2.2; simpa using this)
theorem val_upto (k : Key) (t : Int) {q q' : Int} (hq : q ≤ q') (l : List Fact) : val k t q' (upto q l) = val k t q l := by
  unfold val; rw [best_upto k t hq l]
/-- facts that become known later do not change what was known -/
theorem val_past (k : Key) (t : Int) {q : Int} (l m : List Fact) (h : ∀ f ∈ m, q < f.known) : val k t q (l ++ m) = val k t q l := by
  unfold val
  rw [best_append_miss k t q l m (fun f hf hh => by have := h f hf; have := hh.2.2.2; omega)]
theorem upto_past {q : Int} (l m : List Fact) (h : ∀ f ∈ m, q < f.known) : upto q (l ++ m) = upto q l := by
  unfold upto
  rw [List.filter_append, show m.filter (fun f => decide (f.known ≤ q)) = [] from List.filter_eq_nil_iff.2 (fun f hf => by have := h f hf; simp; omega), List.append_nil]
/-- the points: the terms that are asked for and have a value -/
def points (k : Key) (a b q : Int) (l : List Fact) : List (Int × Int) :=
  (List.range 1024).filterMap fun (t : Nat) => if a ≤ (t : Int) ∧ (t : Int) < b ∧ (val k t q l).2 = true then some ((t : Int), (val k t q l).1) else none
theorem filterMap_same {α β : Type} {l : List α} {f g : α → Option β} (h : ∀ x ∈ l, f x = g x) : l.filterMap f = l.filterMap g := by
  induction l with
  | nil => rfl
  | cons x r ih =>
    rw [List.filterMap_cons, List.filterMap_cons, h x (by simp), ih (fun y hy => h y (by simp [hy]))]
theorem points_congr {k : Key} {a b q q' : Int} {l m : List Fact} (h : ∀ t : Nat, t < 1024 → a ≤ (t : Int) → (t : Int) < b → val k t q l = val k t q' m) : points k a b q l = points k a b q' m := by
  unfold points
  refine filterMap_same (fun t ht => ?_)
  have ht' := List.mem_range.1 ht
  by_cases hab : a ≤ (t : Int) ∧ (t : Int) < b
  · rw [h t ht' hab.1 hab.2]
  · rw [if_neg (fun e => hab ⟨e.1, e.2.1⟩), if_neg (fun e => hab ⟨e.1, e.2.1⟩)]
theorem mem_points {k : Key} {a b q : Int} {l : List Fact} {x v : Int} : (x, v) ∈ points k a b q l ↔ 0 ≤ x ∧ x < 1024 ∧ a ≤ x ∧ x < b ∧ val k x q l = (v, true) := by
  unfold points
  rw [List.mem_filterMap]
  constructor
  · rintro ⟨t, ht, h⟩
    have ht' := List.mem_range.1 ht
    by_cases hc : a ≤ (t : Int) ∧ (t : Int) < b ∧ (val k t q l).2 = true
    · rw [if_pos hc] at h
      simp only [Option.some.injEq, Prod.mk.injEq] at h
      obtain ⟨rfl, rfl⟩ := h
      exact ⟨by omega, by omega, hc.1, hc.2.1, by rw [← hc.2.2]⟩
    · rw [if_neg hc] at h; cases h
  · rintro ⟨h0, h1, h2, h3, h4⟩
    refine ⟨x.toNat, List.mem_range.2 (by omega), ?_⟩
    rw [show ((x.toNat : Nat) : Int) = x from by omega, if_pos ⟨h2, h3, by rw [h4]⟩, h4]
/-- points are alike exactly if the values are -/
theorem points_eq {k : Key} {a b q q' : Int} {l m : List Fact} : points k a b q l = points k a b q' m ↔ ∀ x : Int, 0 ≤ x → x < 1024 → a ≤ x → x < b → val k x q l = val k x q' m := by
  constructor
  · intro h x h0 h1 h2 h3
    have e : ∀ v, val k x q l = (v, true) ↔ val k x q' m = (v, true) := fun v => by
      have a1 := (mem_points (k := k) (a := a) (b := b) (q := q) (l := l) (x := x) (v := v))
      have a2 := (mem_points (k := k) (a := a) (b := b) (q := q') (l := m) (x := x) (v := v))
      rw [h] at a1
      have a3 := a1.symm.trans a2
      constructor
      · intro e; exact (a3.1 ⟨h0, h1, h2, h3, e⟩).2.2.2.2
      · intro e; exact (a3.2 ⟨h0, h1, h2, h3, e⟩).2.2.2.2
    cases hp : (val k x q l).2 with
    | true =>
      have e1 : val k x q l = ((val k x q l).1, true) := by rw [← hp]
      rw [e1]
      exact ((e _).1 e1).symm
    | false =>
      have hz := val_false hp
      cases hp' : (val k x q' m).2 with
      | true =>
        have e1 : val k x q' m = ((val k x q' m).1, true) := by rw [← hp']
        have := (e _).2 e1
        rw [this] at hp; cases hp
      | false =>
        have hz' := val_false hp'
        exact Prod.ext (by rw [hz, hz']) (by rw [hp, hp'])
  · intro h
    exact points_congr (fun t ht h1 h2 => h t (by omega) (by omega) h1 h2)
/-- the key differs in the term -/
def dif (k : Key) (q q' : Int) (l : List Fact) (x : Int) : Prop := val k x q l ≠ val k x q' l
instance (k : Key) (q q' : Int) (l : List Fact) (x : Int) : Decidable (dif k q q' l x) := inferInstanceAs (Decidable (_ ≠ _))
/-- the terms in which it differs, as spans -/
def difs (k : Key) (q q' : Int) (l : List Fact) : List (Int × Int) := T6.ofs (dif k q q' l) 1024
theorem difs_ok (k : Key) (q q' : Int) (l : List Fact) : T6.ok 1024 (-1) (difs k q q' l) := (T6.ofs_ok _ 1024).1
theorem difs_has (k : Key) (q q' : Int) (l : List Fact) (x : Int) : T6.has (difs k q q' l) x ↔ 0 ≤ x ∧ x < 1024 ∧ dif k q q' l x := (T6.ofs_ok (dif k q q' l) 1024).2 x
/-- a key without facts differs nowhere -/
theorem difs_none {k : Key} {q q' : Int} {l : List Fact} (h : ∀ f ∈ l, f.key ≠ k) : difs k q q' l = [] := by
  refine T6.uniq (n := 1024) (p := -1) (difs_ok _ _ _ _) trivial (fun x => ?_)
  rw [difs_has]
  constructor
  · rintro ⟨_, _, hd⟩
    have e : ∀ q, best k x q l = none := fun q => best_none.2 (fun f hf hh => h f hf hh.1)
    exact absurd (by unfold val; rw [e, e]) hd
  · intro hn; exact absurd hn (T6.has_nil x)
/-- a read is alike exactly if none of its terms is in the spans -/
theorem alike_iff {k : Key} {a b q q' : Int} {l : List Fact} : points k a b q l = points k a b q' l ↔ ¬ ∃ s ∈ difs k q q' l, max a s.1 < min b s.2 := by
  rw [points_eq]
  constructor
  · rintro h ⟨s, hs, hm⟩
    have hx : T6.has (difs k q q' l) (max a s.1) := ⟨s, hs, by omega, by omega⟩
    obtain ⟨h0, h1, h2⟩ := (difs_has k q q' l _).1 hx
    exact h2 (h _ h0 h1 (by omega) (by omega))
  · intro h x h0 h1 h2 h3
    by_cases hd : dif k q q' l x
    · exfalso
      obtain ⟨s, hs, h4, h5⟩ := (difs_has k q q' l x).2 ⟨h0, h1, hd⟩
      exact h ⟨s, hs, by omega⟩
    · unfold dif at hd
      exact Classical.byContradiction hd
theorem difs_past {k : Key} {q q' : Int} {l m : List Fact} (h : ∀ f ∈ m, q < f.known) (h' : ∀ f ∈ m, q' < f.known) : difs k q q' (l ++ m) = difs k q q' l := by
  refine T6.uniq (difs_ok _ _ _ _) (difs_ok _ _ _ _) (fun x => ?_)
  rw [difs_has, difs_has]
  unfold dif
  rw [val_past k x l m h, val_past k x l m h']
/-- the order of keys -/
def kl (a b : Key) : Prop := a.1 < b.1 ∨ (a.1 = b.1 ∧ (a.2.1 < b.2.1 ∨ (a.2.1 = b.2.1 ∧ a.2.2 < b.2.2)))
instance (a b : Key) : Decidable (kl a b) := inferInstanceAs (Decidable (_ ∨ _))
theorem kl_irrefl (a : Key) : ¬ kl a a := by unfold kl; omega
theorem kl_trans {a b c : Key} (h : kl a b) (k : kl b c) : kl a c := by unfold kl at *; omega
theorem kl_total (a b : Key) : kl a b ∨ a = b ∨ kl b a := by
  obtain ⟨a1, a2, a3⟩ := a
  obtain ⟨b1, b2, b3⟩ := b
  unfold kl
  simp only [Prod.mk.injEq]
  omega
/-- two rows in strict order that hold the same are equal -/
theorem sorted_uniq {α : Type} {R : α → α → Prop} (hi : ∀ a, ¬ R a a) (ht : ∀ {a b c}, R a b → R b c → R a c) : ∀ {l m : List α}, l.Pairwise R → m.Pairwise R → (∀ x, x ∈ l ↔ x ∈ m) → l = m := by
  intro l
  induction l with
  | nil =>
    intro m _ _ h
    cases m with
    | nil => rfl
    | cons y ys => exact absurd ((h y).2 (by simp)) (by simp)
  | cons x xs ih =>
    intro m hl hm h
    cases m with
    | nil => exact absurd ((h x).1 (by simp)) (by simp)
    | cons y ys =>
      obtain ⟨h1, h2⟩ := List.pairwise_cons.1 hl
      obtain ⟨k1, k2⟩ := List.pairwise_cons.1 hm
      have exy : x = y := by
        rcases List.mem_cons.1 ((h x).1 (by simp)) with e | e
        · exact e
        · rcases List.mem_cons.1 ((h y).2 (by simp)) with e2 | e2
          · exact e2.symm
          · exact absurd (ht (k1 x e) (h1 y e2)) (hi y)
      subst exy
      rw [ih h2 k2 (fun z => ?_)]
      constructor
      · intro hz
        rcases List.mem_cons.1 ((h z).1 (by simp [hz])) with e | e
        · subst e; exact absurd (h1 z hz) (hi z)
        · exact e
      · intro hz
        rcases List.mem_cons.1 ((h z).2 (by simp [hz])) with e | e
        · subst e; exact absurd (k1 z hz) (hi z)
        · exact e
/-- a key is put into a row in order -/
def ins (k : Key) : List Key → List Key
  | [] => [k]
  | x :: r => if kl x k then x :: ins k r else if x = k then x :: r else k :: x :: r
theorem mem_ins (k : Key) : ∀ (l : List Key) (x : Key), x ∈ ins k l ↔ x = k ∨ x ∈ l
  | [], x => by simp [ins]
  | y :: r, x => by
    unfold ins
    by_cases h : kl y k
    · rw [if_pos h, List.mem_cons, mem_ins k r x, List.mem_cons]
      constructor
      · rintro (h | h | h)
        · exact .inr (.inl h)
        · exact .inl h
        · exact .inr (.inr h)
      · rintro (h | h | h)
        · exact .inr (.inl h)
        · exact .inl h
        · exact .inr (.inr h)
    · rw [if_neg h]
      by_cases e : y = k
      · rw [if_pos e, List.mem_cons]
        constructor
        · rintro (h | h)
          · exact .inr (.inl h)
          · exact .inr (.inr h)
        · rintro (h | h | h)
          · exact .inl (h.trans e.symm)
          · exact .inl h
          · exact .inr h
      · rw [if_neg e]; simp
theorem ins_sorted (k : Key) : ∀ {l : List Key}, l.Pairwise kl → (ins k l).Pairwise kl
  | [], _ => by simp [ins]
  | y :: r, hl => by
    obtain ⟨h1, h2⟩ := List.pairwise_cons.1 hl
    unfold ins
    by_cases h : kl y k
    · rw [if_pos h]
      refine List.pairwise_cons.2 ⟨fun z hz => ?_, ins_sorted k h2⟩
      rcases (mem_ins k r z).1 hz with e | e
      · rw [e]; exact h
      · exact h1 z e
    · rw [if_neg h]
      by_cases e : y = k
      · rw [if_pos e]; exact hl
      · rw [if_neg e]
        have hk : kl k y := by
          rcases kl_total k y with h3 | h3 | h3
          · exact h3
          · exact absurd h3.symm e
          · exact absurd h3 h
        refine List.pairwise_cons.2 ⟨fun z hz => ?_, hl⟩
        rcases List.mem_cons.1 hz with e2 | e2
        · rw [e2]; exact hk
        · exact kl_trans hk (h1 z e2)
/-- the keys of facts in order, each once -/
def keys (l : List Fact) : List Key := l.foldl (fun r f => ins f.key r) []
theorem keys_snoc (l : List Fact) (f : Fact) : keys (l ++ [f]) = ins f.key (keys l) := by unfold keys; rw [List.foldl_append]; rfl
theorem keys_sorted (l : List Fact) : (keys l).Pairwise kl := snocRec (P := fun l => (keys l).Pairwise kl) (by simp [keys]) (fun l f ih => by rw [keys_snoc]; exact ins_sorted _ ih) l
theorem mem_keys (l : List Fact) (k : Key) : k ∈ keys l ↔ ∃ f ∈ l, f.key = k := by
  refine snocRec (P := fun l => k ∈ keys l ↔ ∃ f ∈ l, f.key = k) (by simp [keys]) (fun l f ih => ?_) l
  rw [keys_snoc, mem_ins, ih]
  constructor
  · rintro (h | ⟨g, hg, h⟩)
    · exact ⟨f, by simp, h.symm⟩
    · exact ⟨g, by simp [hg], h⟩
  · rintro ⟨g, hg, h⟩
    rcases List.mem_append.1 hg with hg | hg
    · exact .inr ⟨g, hg, h⟩
    · simp at hg; subst hg; exact .inl h.symm
/-- what has changed between two times: the keys that differ somewhere, in order, with their spans -/
def changes (q q' : Int) (l : List Fact) : List (Key × List (Int × Int)) := (keys l).filterMap fun k => if difs k q q' l = [] then none else some (k, difs k q q' l)
theorem mem_changes {q q' : Int} {l : List Fact} {k : Key} {s : List (Int × Int)} : (k, s) ∈ changes q q' l ↔ s = difs k q q' l ∧ s ≠ [] := by
  unfold changes
  rw [List.mem_filterMap]
  constructor
  · rintro ⟨k', hk, h⟩
    by_cases e : difs k' q q' l = []
    · rw [if_pos e] at h; cases h
    · rw [if_neg e] at h
      simp only [Option.some.injEq, Prod.mk.injEq] at h
      obtain ⟨rfl, rfl⟩ := h
      exact ⟨rfl, e⟩
  · rintro ⟨rfl, h⟩
    refine ⟨k, (mem_keys l k).2 (Classical.byContradiction fun hn => h (difs_none fun f hf e => hn ⟨f, hf, e⟩)), ?_⟩
    rw [if_neg h]
theorem changes_sorted (q q' : Int) (l : List Fact) : (changes q q' l).Pairwise (fun a b => kl a.1 b.1) := by
  unfold changes
  rw [List.pairwise_filterMap]
  refine (keys_sorted l).imp ?_
  intro a b hab x hx y hy
  by_cases e : difs a q q' l = []
  · rw [if_pos e] at hx; cases hx
  · by_cases e' : difs b q q' l = []
    · rw [if_pos e'] at hy; cases hy
    · rw [if_neg e] at hx; rw [if_neg e'] at hy
      simp only [Option.some.injEq] at hx hy
      subst hx; subst hy
      exact hab
/-- any row of keys in order that holds at least the keys of the facts makes the same changes -/
theorem changes_of {q q' : Int} {l : List Fact} {ks : List Key} (hs : ks.Pairwise kl) (hk : ∀ f ∈ l, f.key ∈ ks) : ks.filterMap (fun k => if difs k q q' l = [] then none else some (k, difs k q q' l)) = changes q q' l := by
  refine sorted_uniq (R := fun a b : Key × List (Int × Int) => kl a.1 b.1) (fun a => kl_irrefl _) (fun h k => kl_trans h k) ?_ (changes_sorted q q' l) (fun x => ?_)
  · rw [List.pairwise_filterMap]
    refine hs.imp ?_
    intro a b hab x hx y hy
    by_cases e : difs a q q' l = []
    · rw [if_pos e] at hx; cases hx
    · by_cases e' : difs b q q' l = []
      · rw [if_pos e'] at hy; cases hy
      · rw [if_neg e] at hx; rw [if_neg e'] at hy
        simp only [Option.some.injEq] at hx hy
        subst hx; subst hy
        exact hab
  · obtain ⟨k, s⟩ := x
    rw [mem_changes, List.mem_filterMap]
    constructor
    · rintro ⟨k', _, h⟩
      by_cases e : difs k' q q' l = []
      · rw [if_pos e] at h; cases h
      · rw [if_neg e] at h
        simp only [Option.some.injEq, Prod.mk.injEq] at h
        obtain ⟨rfl, rfl⟩ := h
        exact ⟨rfl, e⟩
    · rintro ⟨rfl, h⟩
      obtain ⟨f, hf, e⟩ : ∃ f ∈ l, f.key = k := Classical.byContradiction fun hn => h (difs_none fun f hf e => hn ⟨f, hf, e⟩)
      exact ⟨k, by rw [← e]; exact hk f hf, by rw [if_neg h]⟩
/-- facts that become known later change nothing of what has changed up to then -/
theorem changes_past {q q' : Int} {l m : List Fact} (h : ∀ f ∈ m, q < f.known) (h' : ∀ f ∈ m, q' < f.known) : changes q q' (l ++ m) = changes q q' l := by
  have e := changes_of (q := q) (q' := q') (l := l) (keys_sorted (l ++ m)) (fun f hf => (mem_keys _ _).2 ⟨f, by simp [hf], rfl⟩)
  rw [← e]
  unfold changes
  refine filterMap_same (fun k _ => ?_)
  rw [difs_past h h']
end Go.Proofs.Ytbejjindkcjecaa.F7

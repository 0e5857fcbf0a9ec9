/- Stable sorting of facts: what a later fact takes the place of is not changed by sorting; the values in a term. No program. -/
import Derived.Test.YtbejjindkcjecaaG
import Derived.Sort.LotA
import Derived.Shelf.SlSortCmp.InsertionK
namespace Go.Proofs.Ytbejjindkcjecaa
open Go.RowKit Go
set_option linter.unusedVariables false
set_option linter.unusedSimpArgs false
instance : Inhabited FA := ⟨init⟩
/-- a fact more, if it is one of those asked for -/
def stp (p : FA → Bool) (b : Option FA) (f : FA) : Option FA := if p f then F7.upd b f else b
/-- two lists in which the same facts count, whichever are asked for -/
def Eqv (l l' : List FA) : Prop := ∀ p b, l.foldl (stp p) b = l'.foldl (stp p) b
theorem Eqv.refl (l : List FA) : Eqv l l := fun _ _ => rfl
theorem Eqv.trans {a b c : List FA} (h : Eqv a b) (k : Eqv b c) : Eqv a c := fun p x => (h p x).trans (k p x)
theorem Eqv.app {a b c d : List FA} (h : Eqv a b) (k : Eqv c d) : Eqv (a ++ c) (b ++ d) := fun p x => by rw [List.foldl_append, List.foldl_append, h p x, k p]
theorem swap_eqv {x y : FA} (h : F7.bef y x) : Eqv [x, y] [y, x] := by
  intro p b
  simp only [List.foldl_cons, List.foldl_nil, stp]
  by_cases hx : p x = true <;> by_cases hy : p y = true
  · simp only [hx, hy, if_true]
    have hxy : ¬ F7.bef x y := fun e => F7.bef_irrefl _ (F7.bef_trans e h)
    cases b with
    | none => simp only [F7.upd, if_pos h, if_neg hxy]
    | some g =>
      by_cases h1 : F7.bef x g
      · have h2 := F7.bef_trans h h1
        simp only [F7.upd, if_pos h1, if_pos h2]
      · by_cases h2 : F7.bef y g
        · simp only [F7.upd, if_neg h1, if_pos h2, if_pos h]
        · simp only [F7.upd, if_neg h1, if_neg h2, if_pos h, if_neg hxy]
  · simp [hx, hy]
  · simp [hx, hy]
  · simp [hx, hy]
theorem set_swap {α : Type} : ∀ (l : List α) (j : Nat) (x y : α), l[j]? = some x → l[j + 1]? = some y → (l.set (j + 1) x).set j y = l.take j ++ ([y, x] ++ l.drop (j + 2)) ∧ l = l.take j ++ ([x, y] ++ l.drop (j + 2))
  | [], j, x, y, h, _ => by simp at h
  | [a], j, x, y, _, h => by simp at h
  | a :: b :: r, 0, x, y, h1, h2 => by
    simp at h1 h2; subst h1; subst h2
    simp
  | a :: b :: r, j + 1, x, y, h1, h2 => by
    obtain ⟨e1, e2⟩ := set_swap (b :: r) j x y (by simpa using h1) (by simpa using h2)
    refine ⟨?_, ?_⟩
    · rw [List.set_cons_succ, List.set_cons_succ, e1]; simp
    · conv => lhs; rw [e2]
      simp
theorem swp_list (d : Array FA) (j : Nat) (h : j + 1 < d.size) (hb : F7.bef d[j + 1]! d[j]!) : Eqv d.toList (Go.Sort.swp d (j + 1) j).toList := by
  have g1 : d.toList[j]? = some d[j]! := by rw [Array.getElem?_toList, getElem!_pos d j (by omega), Array.getElem?_eq_getElem (by omega)]
  have g2 : d.toList[j + 1]? = some d[j + 1]! := by rw [Array.getElem?_toList, getElem!_pos d (j + 1) h, Array.getElem?_eq_getElem h]
  obtain ⟨e1, e2⟩ := set_swap d.toList j _ _ g1 g2
  have e3 : (Go.Sort.swp d (j + 1) j).toList = (d.toList.set (j + 1) d[j]!).set j d[j + 1]! := by
    unfold Go.Sort.swp
    rw [Array.toList_setIfInBounds, Array.toList_setIfInBounds]
  rw [e3, e1]
  conv => enter [1]; rw [e2]
  exact (Eqv.refl _).app ((swap_eqv hb).app (Eqv.refl _))
theorem lt_ord {a b : FA} : Go.Proofs.ltOf ord a b = true ↔ F7.bef a b := by unfold Go.Proofs.ltOf; rw [decide_eq_true_iff]; exact ord_lt
theorem lt_ord' {a b : FA} : Go.Proofs.ltOf ord a b = false ↔ ¬ F7.bef a b := by rw [← lt_ord]; simp
theorem ord_swo : Go.Sort.SWO (Go.Proofs.ltOf ord) where
  irrefl x := by rw [lt_ord']; exact F7.bef_irrefl x
  trans x y z h1 h2 := by rw [lt_ord] at *; exact F7.bef_trans h1 h2
  ntrans x y z h1 h2 := by rw [lt_ord'] at *; exact F7.not_bef_trans h1 h2
theorem inner_eqv (a : Nat) : ∀ (j : Nat) (d : Array FA), j < d.size → Eqv d.toList (Go.Sort.insInner (Go.Proofs.ltOf ord) a j d).toList
  | 0, d, _ => Eqv.refl _
  | j + 1, d, h => by
    unfold Go.Sort.insInner
    split
    · rename_i hc
      rw [Bool.and_eq_true] at hc
      exact (swp_list d j h (lt_ord.1 hc.2)).trans (inner_eqv a j _ (by rw [Go.Sort.size_swp]; omega))
    · exact Eqv.refl _
theorem inner_size (a : Nat) : ∀ (j : Nat) (d : Array FA), (Go.Sort.insInner (Go.Proofs.ltOf ord) a j d).size = d.size
  | 0, d => rfl
  | j + 1, d => by
    unfold Go.Sort.insInner
    split
    · rw [inner_size a j, Go.Sort.size_swp]
    · rfl
theorem outer_eqv (a b : Nat) : ∀ (m i : Nat) (d : Array FA), b - i ≤ m → b ≤ d.size → Eqv d.toList (Go.Sort.insOuter (Go.Proofs.ltOf ord) a b i d).toList ∧ (Go.Sort.insOuter (Go.Proofs.ltOf ord) a b i d).size = d.size
  | 0, i, d, hm, hb => by unfold Go.Sort.insOuter; rw [if_neg (by omega)]; exact ⟨Eqv.refl _, rfl⟩
  | m + 1, i, d, hm, hb => by
    unfold Go.Sort.insOuter
    split
    · rename_i hlt
      obtain ⟨h1, h2⟩ := outer_eqv a b m (i + 1) (Go.Sort.insInner (Go.Proofs.ltOf ord) a i d) (by omega) (by rw [inner_size]; exact hb)
      exact ⟨(inner_eqv a i d (by omega)).trans h1, by rw [h2, inner_size]⟩
    · exact ⟨Eqv.refl _, rfl⟩
theorem ins_eqv (d : Array FA) (a b : Nat) (hb : b ≤ d.size) : Eqv d.toList (Go.Sort.insertionSort (Go.Proofs.ltOf ord) d a b).toList ∧ (Go.Sort.insertionSort (Go.Proofs.ltOf ord) d a b).size = d.size := outer_eqv a b _ _ d (Nat.le_refl _) hb
/-- in the order, none before one ahead of it -/
def Srt (l : List FA) : Prop := l.Pairwise fun a b => ¬ F7.bef b a
theorem srt_of_sortedIn {d : Array FA} (h : Go.Sort.SortedIn (Go.Proofs.ltOf ord) 0 d.size d) : Srt d.toList := by
  unfold Srt
  rw [List.pairwise_iff_getElem]
  intro i j hi hj hij
  have hi' : i < d.size := by simpa using hi
  have hj' : j < d.size := by simpa using hj
  have := h i j (Nat.zero_le _) hij hj'
  rw [getElem!_pos d i hi', getElem!_pos d j hj', lt_ord'] at this
  simpa using this
/-- the whole list, sorted by insertion -/
theorem ins_sorted (d : Array FA) : Srt (Go.Sort.insertionSort (Go.Proofs.ltOf ord) d 0 d.size).toList := by
  have h := (Go.Sort.insertionSort_holds (lt := Go.Proofs.ltOf ord) ord_swo d 0 d.size (Nat.zero_le _) (Nat.le_refl _)).2
  have hs := (ins_eqv d 0 d.size (Nat.le_refl _)).2
  apply srt_of_sortedIn
  rw [hs]; exact h
/-- the fact covers the term -/
def cov (t : Int) (f : FA) : Bool := decide (f.frm ≤ t ∧ t < f.to)
/-- the value in a term, -1 for none -/
def vv (t : Int) (l : List FA) : Int := match l.foldl (stp (cov t)) none with | none => -1 | some f => max f.val (-1)
theorem vv_nil (t : Int) : vv t [] = -1 := rfl
theorem vv_eqv {t : Int} {l l' : List FA} (h : Eqv l l') : vv t l = vv t l' := by unfold vv; rw [h]
theorem fold_mem (p : FA → Bool) : ∀ (l : List FA) (b : Option FA) (g : FA), l.foldl (stp p) b = some g → g ∈ l ∨ b = some g
  | [], b, g, h => .inr h
  | f :: r, b, g, h => by
    rw [List.foldl_cons] at h
    rcases fold_mem p r _ g h with h1 | h1
    · exact .inl (List.mem_cons_of_mem _ h1)
    · unfold stp at h1
      by_cases hp : p f = true
      · rw [if_pos hp] at h1
        cases b with
        | none => simp [F7.upd] at h1; subst h1; exact .inl (by simp)
        | some x =>
          by_cases hb : F7.bef f x
          · simp [F7.upd, hb] at h1; subst h1; exact .inr rfl
          · simp [F7.upd, hb] at h1; subst h1; exact .inl (by simp)
      · rw [if_neg hp] at h1; exact .inr h1
/-- in a sorted list each fact takes the place of those ahead of it -/
theorem vv_snoc {t : Int} {l : List FA} {f : FA} (h : Srt (l ++ [f])) : vv t (l ++ [f]) = if f.frm ≤ t ∧ t < f.to then max f.val (-1) else vv t l := by
  unfold vv
  rw [List.foldl_append, List.foldl_cons, List.foldl_nil]
  unfold stp
  by_cases hc : f.frm ≤ t ∧ t < f.to
  · rw [if_pos (show cov t f = true from decide_eq_true hc), if_pos hc]
    have hu : F7.upd (l.foldl (stp (cov t)) none) f = some f := by
      cases hg : l.foldl (stp (cov t)) none with
      | none => rfl
      | some g =>
        rcases fold_mem _ _ _ _ hg with hm | hm
        · have := (List.pairwise_append.1 h).2.2 g hm f (by simp)
          simp only [F7.upd, if_neg this]
        · cases hm
    have hu2 : F7.upd (l.foldl (fun b f => if cov t f = true then F7.upd b f else b) none) f = some f := hu
    rw [hu2]
  · rw [if_neg (show ¬ cov t f = true from fun e => hc (of_decide_eq_true e)), if_neg hc]
/-- what counts among the facts of a key that are known -/
theorem best_fold (k : KE) (t q : Int) (l : List FA) : F7.best k t q l = (sel k q l).foldl (stp (cov t)) none := by
  refine F7.snocRec (P := fun l => F7.best k t q l = (sel k q l).foldl (stp (cov t)) none) rfl ?_ l
  intro l f ih
  rw [F7.best_snoc, sel_snoc, ih]
  by_cases hk : f.key = k ∧ f.known ≤ q
  · rw [if_pos hk, List.foldl_append, List.foldl_cons, List.foldl_nil]
    by_cases hc : f.frm ≤ t ∧ t < f.to
    · rw [if_pos (show F7.hit k t q f from ⟨hk.1, hc.1, hc.2, hk.2⟩)]
      have : stp (cov t) ((sel k q l).foldl (stp (cov t)) none) f = F7.upd ((sel k q l).foldl (stp (cov t)) none) f := if_pos (show cov t f = true from decide_eq_true hc)
      rw [this]
    · rw [if_neg (fun e => hc ⟨e.2.1, e.2.2.1⟩)]
      have : stp (cov t) ((sel k q l).foldl (stp (cov t)) none) f = (sel k q l).foldl (stp (cov t)) none := if_neg (fun e => hc (of_decide_eq_true e))
      rw [this]
  · rw [if_neg hk, List.append_nil, if_neg (fun e => hk ⟨e.1, e.2.2.2⟩)]
/-- the value in a term, by vv -/
theorem val_vv (k : KE) (t q : Int) (l : List FA) : F7.val k t q l = if vv t (sel k q l) < 0 then (0, false) else (vv t (sel k q l), true) := by
  unfold F7.val vv
  rw [best_fold]
  cases (sel k q l).foldl (stp (cov t)) none with
  | none => rfl
  | some f =>
    by_cases h : f.val < 0
    · simp only [if_pos h]; rw [if_pos (by omega)]
    · simp only [if_neg h]; rw [if_neg (by omega), show max f.val (-1) = f.val by omega]
end Go.Proofs.Ytbejjindkcjecaa

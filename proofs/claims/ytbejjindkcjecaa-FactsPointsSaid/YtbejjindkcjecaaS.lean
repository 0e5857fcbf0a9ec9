/- What differs between two times, by the facts of the keys that are touched; rows of changes. -/
import Derived.Test.YtbejjindkcjecaaR
namespace Go.Proofs.Ytbejjindkcjecaa
open Go.RowKit Go
set_option linter.unusedVariables false
set_option linter.unusedSimpArgs false
theorem sel_ofKey (k : KE) (q : Int) (l : List FA) : sel k q (ofKey k l) = sel k q l := by
  unfold sel ofKey
  rw [List.filter_filter]
  refine List.filter_congr fun f _ => ?_
  by_cases h : f.key = k <;> simp [h]
theorem vv_ge (t : Int) (l : List FA) : -1 ≤ vv t l := by
  unfold vv
  cases l.foldl (stp (cov t)) none with
  | none => simp
  | some f => simp only; omega
theorem val_ne {k : KE} {q q' x : Int} {l : List FA} : F7.val k x q l ≠ F7.val k x q' l ↔ vv x (sel k q l) ≠ vv x (sel k q' l) := by
  rw [val_vv, val_vv]
  have h1 := vv_ge x (sel k q l)
  have h2 := vv_ge x (sel k q' l)
  generalize vv x (sel k q l) = a at *
  generalize vv x (sel k q' l) = b at *
  by_cases ha : a < 0 <;> by_cases hb : b < 0
  · rw [if_pos ha, if_pos hb]; simp; omega
  · rw [if_pos ha, if_neg hb]; simp; omega
  · rw [if_neg ha, if_pos hb]; simp; omega
  · rw [if_neg ha, if_neg hb]; simp
/-- the spans of the definition -/
theorem difs_ofs (k : KE) (q q' : Int) (l : List FA) : T6.ofs (fun x => vv x (sel k q (ofKey k l)) ≠ vv x (sel k q' (ofKey k l))) 1024 = F7.difs k q q' l := by
  refine T6.uniq (T6.ofs_ok _ 1024).1 (F7.difs_ok k q q' l) (fun x => ?_)
  rw [(T6.ofs_ok _ 1024).2 x, F7.difs_has]
  rw [sel_ofKey, sel_ofKey]
  unfold F7.dif
  rw [val_ne]
  rfl
/-- a key that is not touched differs nowhere -/
theorem sel_same {k : KE} {q q' : Int} {l : List FA} (h : Tch q q' l k = false) : sel k q l = sel k q' l := by
  unfold sel
  refine List.filter_congr fun f hf => ?_
  have h1 : ¬ ((decide (f.key = k) && dif1 q q' f) = true) := fun e => by
    have : Tch q q' l k = true := List.any_eq_true.2 ⟨f, hf, e⟩
    rw [h] at this; cases this
  by_cases hk : f.key = k
  · have h2 : ¬ dif1 q q' f = true := fun e => h1 (by simp [hk, e])
    unfold dif1 at h2
    have h3 : decide (f.known ≤ q) = decide (f.known ≤ q') := by simpa using h2
    by_cases a : f.known ≤ q <;> by_cases b : f.known ≤ q' <;> simp [a, b, hk] at h3 ⊢
  · simp [hk]
theorem difs_same {k : KE} {q q' : Int} {l : List FA} (h : Tch q q' l k = false) : F7.difs k q q' l = [] := by
  refine T6.uniq (n := 1024) (p := -1) (F7.difs_ok k q q' l) trivial (fun x => ?_)
  rw [F7.difs_has]
  constructor
  · rintro ⟨_, _, hd⟩
    unfold F7.dif at hd
    rw [val_ne, sel_same h] at hd
    exact absurd rfl hd
  · intro hn; exact absurd hn (T6.has_nil x)
/-- any row of keys in order that holds at least the keys that are touched makes the changes -/
theorem changes_of' {q q' : Int} {l : List FA} {ks : List KE} (hs : ks.Pairwise F7.kl) (hk : ∀ k, F7.difs k q q' l ≠ [] → k ∈ ks) : ks.filterMap (fun k => if F7.difs k q q' l = [] then none else some (k, F7.difs k q q' l)) = F7.changes q q' l := by
  refine F7.sorted_uniq (R := fun a b : KE × List (Int × Int) => F7.kl a.1 b.1) (fun a => F7.kl_irrefl _) (fun h k => F7.kl_trans h k) ?_ (F7.changes_sorted q q' l) (fun x => ?_)
  · rw [List.pairwise_filterMap]
    refine hs.imp ?_
    intro a b hab x hx y hy
    by_cases e : F7.difs a q q' l = []
    · rw [if_pos e] at hx; cases hx
    · by_cases e' : F7.difs b q q' l = []
      · rw [if_pos e'] at hy; cases hy
      · rw [if_neg e] at hx; rw [if_neg e'] at hy
        simp only [Option.some.injEq] at hx hy
        subst hx; subst hy
        exact hab
  · obtain ⟨k, s⟩ := x
    rw [F7.mem_changes, List.mem_filterMap]
    constructor
    · rintro ⟨k', _, h⟩
      by_cases e : F7.difs k' q q' l = []
      · rw [if_pos e] at h; cases h
      · rw [if_neg e] at h
        simp only [Option.some.injEq, Prod.mk.injEq] at h
        obtain ⟨rfl, rfl⟩ := h
        exact ⟨rfl, e⟩
    · rintro ⟨rfl, h⟩
      exact ⟨k, hk k h, by rw [if_neg h]⟩
/-- a change's cells: the key, the slice of its spans -/
abbrev CH := KE × (Option Addr × Nat × Nat)
def cc (x : CH) : List Value := [.int .i64 x.1.1, .int .i64 x.1.2.1, .int .i64 x.1.2.2, .slice x.2.1 x.2.2.1 x.2.2.2]
theorem cc_len (x : CH) : (cc x).length = 4 := rfl
theorem cc_one (x : CH) : ∀ u ∈ cc x, u.oneCell' = true := by intro u hu; simp [cc] at hu; rcases hu with h | h | h | h <;> subst h <;> rfl
abbrev CO (w : World) (base : Nat) (v : Value) (l : List CH) : Prop := GO 57 4 cc w base v l
/-- the changes' rows of spans -/
def Sps (w : World) (base : Nat) (l' : List CH) (l : List (KE × List (Int × Int))) : Prop := l'.length = l.length ∧ ∀ (i : Nat) (x : CH) (y : KE × List (Int × Int)), l'[i]? = some x → l[i]? = some y → x.1 = y.1 ∧ SO w base (.slice x.2.1 x.2.2.1 x.2.2.2) y.2
/-- a slice value that holds changes -/
def CS (w : World) (base : Nat) (v : Value) (l : List (KE × List (Int × Int))) : Prop := ∃ l', CO w base v l' ∧ Sps w base l' l
theorem Sps.ups {w w' : World} {base : Nat} {l' : List CH} {l : List (KE × List (Int × Int))} (h : Sps w base l' l) (hb : Below w.heap.size w w') : Sps w' base l' l := ⟨h.1, fun i x y hx hy => ⟨(h.2 i x y hx hy).1, (h.2 i x y hx hy).2.ups hb⟩⟩
theorem CS.ups {w w' : World} {base : Nat} {v : Value} {l : List (KE × List (Int × Int))} (h : CS w base v l) (hb : Below w.heap.size w w') : CS w' base v l := by
  obtain ⟨l', h1, h2⟩ := h
  exact ⟨l', h1.ups hb, h2.ups hb⟩
theorem rows_apart {α β : Type} {enc : α → List Value} {enc' : β → List Value} {e e' k k' : Nat} {w : World} {b b' : Nat} {v v' : Value} {l : List α} {l' : List β} (h : GO e k enc w b v l) (h' : GO e' k' enc' w b' v' l') (hne : e ≠ e') (j : Nat) (hj : v.ownBlock = some j) : v'.ownBlock ≠ some j := by
  intro hj'
  rcases h.2 with ⟨rfl, _⟩ | ⟨g, cap, cur, rfl, _, hg, _⟩
  · simp [Value.ownBlock] at hj
  · rcases h'.2 with ⟨rfl, _⟩ | ⟨g', cap', cur', rfl, _, hg', _⟩
    · simp [Value.ownBlock] at hj'
    · simp [Value.ownBlock] at hj hj'
      subst hj; subst hj'
      rw [hg] at hg'
      simp only [Option.some.injEq, Obj.cells.injEq] at hg'
      exact hne hg'.2.1
/-- a change that has just been laid is appended -/
theorem app_change {w : World} {base : Nat} {v : Value} {l : List (KE × List (Int × Int))} (h : CS w base v l) (k : KE) (p : Option Addr) (n c : Nat) (s : List (Int × Int)) (hs : SO w base (.slice p n c) s) (hn : l.length ≤ 1000000) (hb : base ≤ w.heap.size) :
    ∃ g cap w', (Builtin.append_ #[46, 46] 46 #[v, .slice (some ⟨w.heap.size, 0, none⟩) 1 1]).run Try.prog (w.alloc (.cells #[.int .i64 k.1, .int .i64 k.2.1, .int .i64 k.2.2, .slice p n c] 57)) = .ok (.slice (some ⟨g, 0, none⟩) (l.length + 1) cap) w' ∧
      CS w' base (.slice (some ⟨g, 0, none⟩) (l.length + 1) cap) (l ++ [(k, s)]) ∧ Below base w w' := by
  obtain ⟨l', h1, h2⟩ := h
  obtain ⟨g, cap, w', h3, h4, h5⟩ := app_one (t := 46) Try.underlying46 info57 cc_len (by omega) (by omega) cc_one h1 (k, p, n, c) (by rw [h2.1]; exact hn) hb
  rw [h2.1] at h3 h4
  refine ⟨g, cap, w', h3, ⟨_, h4, by simp [h2.1], fun i x y hx hy => ?_⟩, ((Below.refl base w).alloc hb _).grown h5 (by simp; omega) (fun j hj => (h1.lt j hj).1)⟩
  have keep : ∀ (v0 : Value) (s0 : List (Int × Int)), SO w base v0 s0 → SO w' base v0 s0 := fun v0 s0 h0 => (h0.alloc _).kept h5 (fun j hj e => rows_apart h0 h1 (by omega) j hj e)
  by_cases hi : i < l'.length
  · rw [List.getElem?_append_left hi] at hx
    rw [List.getElem?_append_left (by rw [← h2.1]; exact hi)] at hy
    exact ⟨(h2.2 i x y hx hy).1, keep _ _ (h2.2 i x y hx hy).2⟩
  · rw [List.getElem?_append_right (by omega)] at hx
    rw [List.getElem?_append_right (by rw [← h2.1]; omega)] at hy
    have hi0 : i - l'.length = 0 := by
      have := (List.getElem?_eq_some_iff.1 hx).1
      simp at this; omega
    rw [hi0] at hx
    rw [show i - l.length = 0 by rw [← h2.1]; exact hi0] at hy
    simp at hx hy
    subst hx; subst hy
    exact ⟨rfl, keep _ _ hs⟩
end Go.Proofs.Ytbejjindkcjecaa

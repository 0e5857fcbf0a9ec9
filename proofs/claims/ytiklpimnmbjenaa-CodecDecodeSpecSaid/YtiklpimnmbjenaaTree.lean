/- Contracts of the functions of package codec and lemmas for them: what each call returns and what becomes of memory, for every input within the bounds that each theorem states. -/
import Derived.WalkKit
import Derived.Lib.BitFns
import Derived.Test.YtiklpimnmbjenaaPure
namespace Go.Proofs.Ytiklpimnmbjenaa
open Go.RowKit Go
set_option linter.unusedVariables false
set_option linter.unusedSimpArgs false

/-- A value of package api, as it reads. -/
inductive T where
  | mk (k n : Int) (s : ByteArray) (l : List T)

def T.kids : T → List T | .mk _ _ _ l => l
theorem T.kid_lt {k n : Int} {s : ByteArray} {l : List T} {t : T} (h : t ∈ l) : SizeOf.sizeOf t < SizeOf.sizeOf (T.mk k n s l) := by
  have := List.sizeOf_lt_of_mem h
  simp; omega

def wfI (n : Int) : Prop := -9223372036854775808 ≤ n ∧ n ≤ 9223372036854775807

/-- 'v' reads as 't' in the world 'w', through blocks of which P holds. -/
def AtP (w : World) (P : Nat → Prop) : T → Value → Prop
  | .mk k n s l, v => (wfI k ∧ wfI n) ∧ s.size ≤ maxLen ∧ ∃ (p : Option Addr) (cap : Nat), v = .agg #[.int .i64 k, .int .i64 n, .string s, .slice p l.length cap] ∧ l.length ≤ cap ∧ cap ≤ 9223372036854775807 ∧
      ∃ b off, (l ≠ [] → p = some ⟨b, off, none⟩ ∧ P b) ∧ ∀ i (h : i < l.length), ∃ c0 c1 c2 c3, AtP w P l[i] (.agg #[c0, c1, c2, c3]) ∧
        w.cell? ⟨b, off + i * 4, none⟩ = some c0 ∧ w.cell? ⟨b, off + i * 4 + 1, none⟩ = some c1 ∧ w.cell? ⟨b, off + i * 4 + 2, none⟩ = some c2 ∧ w.cell? ⟨b, off + i * 4 + 3, none⟩ = some c3
  termination_by t => SizeOf.sizeOf t
  decreasing_by exact T.kid_lt (List.getElem_mem _)

theorem AtP.kept {w w' : World} {P Q : Nat → Prop} (hb : ∀ k, P k → Q k ∧ w'.heap[k]? = w.heap[k]?) : ∀ {t : T} {v : Value}, AtP w P t v → AtP w' Q t v := by
  suffices h : ∀ n t v, SizeOf.sizeOf t < n → AtP w P t v → AtP w' Q t v from fun {t v} => h (SizeOf.sizeOf t + 1) t v (by omega)
  intro n
  induction n with
  | zero => intro t v h; omega
  | succ n ih =>
    intro t v hs h
    obtain ⟨k, m, s, l⟩ := t
    rw [AtP] at h ⊢
    obtain ⟨hwf, hz, p, cap, hv, hc, hm, b, off, hp, hk⟩ := h
    refine ⟨hwf, hz, p, cap, hv, hc, hm, b, off, fun h => ⟨(hp h).1, (hb b (hp h).2).1⟩, fun i hi => ?_⟩
    obtain ⟨c0, c1, c2, c3, h0, e0, e1, e2, e3⟩ := hk i hi
    have hne : l ≠ [] := by intro e; subst e; simp at hi
    have hlt := (hb b (hp hne).2).2
    have hcell : ∀ o, w'.cell? ⟨b, o, none⟩ = w.cell? ⟨b, o, none⟩ := fun o => World.cell?_of_block (a := ⟨b, o, none⟩) hlt
    have := T.kid_lt (k := k) (n := m) (s := s) (List.getElem_mem hi)
    exact ⟨c0, c1, c2, c3, ih _ _ (by omega) h0, by rw [hcell]; exact e0, by rw [hcell]; exact e1, by rw [hcell]; exact e2, by rw [hcell]; exact e3⟩

/-- 'v' reads as 't' in the world 'w', through blocks below 'B'. -/
def At (w : World) (B : Nat) (t : T) (v : Value) : Prop := AtP w (· < B) t v

theorem At.below {w w' : World} {B B' : Nat} (hb : Below B' w w') (hB : B ≤ B') {t : T} {v : Value} (h : At w B t v) : At w' B t v :=
  AtP.kept (fun k hk => ⟨hk, hb.block k (Nat.lt_of_lt_of_le hk hB)⟩) h

/-- no field that the kind does not use -/
def cln (k n : Int) (s : ByteArray) (len : Nat) : Bool :=
  if k = 1 then s.toList.isEmpty && len == 0 else if k = 2 then n == 0 && len == 0 else if k = 3 then n == 0 && s.toList.isEmpty else false

mutual
def dp : T → Option Nat
  | .mk k n s l => if cln k n s l.length then if k = 3 then (dps l 0).map (· + 1) else some 0 else none
def dps : List T → Nat → Option Nat
  | [], m => some m
  | t :: r, m => match dp t with
    | none => none
    | some d => dps r (max m d)
end

mutual
def hgt : T → Nat
  | .mk _ _ _ l => hgts l + 1
def hgts : List T → Nat
  | [] => 0
  | t :: r => max (hgt t) (hgts r)
end

theorem dps_cons (t : T) (r : List T) (m : Nat) : dps (t :: r) m = match dp t with | none => none | some d => dps r (max m d) := by rw [dps] <;> rfl
theorem dp_mk (k n : Int) (s : ByteArray) (l : List T) : dp (.mk k n s l) = if cln k n s l.length then if k = 3 then (dps l 0).map (· + 1) else some 0 else none := by rw [dp]
theorem hgt_mk (k n : Int) (s : ByteArray) (l : List T) : hgt (.mk k n s l) = hgts l + 1 := by rw [hgt]
theorem hgts_mem {t : T} {l : List T} (h : t ∈ l) : hgt t ≤ hgts l := by
  induction l with
  | nil => simp at h
  | cons a r ih =>
    rw [hgts]
    rcases List.mem_cons.1 h with rfl | h
    · omega
    · have := ih h; omega

/-- A claim about trees holds if it holds of each tree whose parts it holds of. -/
theorem T.all {P : T → Prop} (step : ∀ k n s l, (∀ t ∈ l, P t) → P (.mk k n s l)) (t : T) : P t := by
  suffices h : ∀ n t, SizeOf.sizeOf t < n → P t from h (SizeOf.sizeOf t + 1) t (by omega)
  intro n
  induction n with
  | zero => intro t h; omega
  | succ n ih =>
    intro t hs
    obtain ⟨k, m, s, l⟩ := t
    exact step k m s l fun t ht => ih t (by have := T.kid_lt (k := k) (n := m) (s := s) ht; omega)

theorem dps_le {l : List T} (hl : ∀ t ∈ l, ∀ d, dp t = some d → d ≤ hgt t) : ∀ m d, dps l m = some d → d ≤ max m (hgts l) := by
  induction l with
  | nil => intro m d h; rw [dps] at h; simp at h; omega
  | cons t r ih =>
    intro m d h
    rw [dps_cons] at h
    rw [hgts]
    cases ht : dp t with
    | none => rw [ht] at h; cases h
    | some x =>
      rw [ht] at h
      have h1 := hl t (by simp) x ht
      have h2 := ih (fun t h => hl t (by simp [h])) _ _ h
      omega
theorem dp_le (t : T) : ∀ d, dp t = some d → d ≤ hgt t := by
  induction t using T.all with
  | step k n s l ih =>
    intro d h
    rw [dp_mk] at h
    rw [hgt_mk]
    split at h
    · split at h
      · cases hd : dps l 0 with
        | none => rw [hd] at h; cases h
        | some x => rw [hd] at h; simp at h; have := dps_le ih 0 x hd; omega
      · simp at h; omega
    · cases h

mutual
/-- the encoding -/
def enc : T → List Int
  | .mk k n s l => k :: (if k = 1 then num (uns n) else if k = 2 then num s.size ++ s.data.toList.map (fun c => (c.toNat : Int)) else num l.length ++ encs l)
def encs : List T → List Int
  | [] => []
  | t :: r => enc t ++ encs r
end
theorem enc_mk (k n : Int) (s : ByteArray) (l : List T) : enc (.mk k n s l) = k :: (if k = 1 then num (uns n) else if k = 2 then num s.size ++ s.data.toList.map (fun c => (c.toNat : Int)) else num l.length ++ encs l) := by rw [enc]
theorem encs_cons (t : T) (r : List T) : encs (t :: r) = enc t ++ encs r := by rw [encs]
theorem encs_ge (l : List T) : l.length ≤ (encs l).length := by
  induction l with
  | nil => simp
  | cons t r ih => obtain ⟨k, n, s, l⟩ := t; rw [encs_cons, enc_mk]; simp; omega
theorem encs_drop {t : T} {l : List T} {i : Nat} (h : l.drop i = t :: l.drop (i + 1)) : encs (l.drop i) = enc t ++ encs (l.drop (i + 1)) := by rw [h, encs_cons]
theorem enc_len_mem {t : T} {l : List T} (h : t ∈ l) : (enc t).length ≤ (encs l).length := by
  induction l with
  | nil => simp at h
  | cons a r ih =>
    rw [encs_cons]
    rcases List.mem_cons.1 h with rfl | h
    · simp
    · have := ih h; simp; omega

/-- what is well-formed: each part is, and has one of the kinds -/
theorem dp_good {k n : Int} {s : ByteArray} {l : List T} (h : (dp (.mk k n s l)).isSome = true) : cln k n s l.length = true ∧ (k = 1 ∨ k = 2 ∨ k = 3) ∧ ∀ t ∈ l, (dp t).isSome = true := by
  rw [dp_mk] at h
  by_cases hc : cln k n s l.length = true
  · rw [if_pos hc] at h
    have hk : k = 1 ∨ k = 2 ∨ k = 3 := by unfold cln at hc; grind
    refine ⟨hc, hk, ?_⟩
    by_cases h3 : k = 3
    · rw [if_pos h3] at h
      have hs : (dps l 0).isSome = true := by simpa using h
      clear h hc
      generalize (0 : Nat) = m at hs
      induction l generalizing m with
      | nil => simp
      | cons t r ih =>
        rw [dps_cons] at hs
        cases ht : dp t with
        | none => rw [ht] at hs; cases hs
        | some d =>
          rw [ht] at hs
          intro x hx
          rcases List.mem_cons.1 hx with rfl | hx
          · simp [ht]
          · exact ih _ hs x hx
    · have : l = [] := by unfold cln at hc; cases l <;> grind
      subst this; simp
  · rw [if_neg hc] at h; cases h

theorem bitLen_num : ∀ u : Nat, u ≠ 0 → u < 18446744073709551616 → (Lib.bitLen u + 6) / 7 = (num u).length := by
  intro u
  induction u using Nat.strongRecOn with
  | ind u ih =>
    intro h0 h
    by_cases hu : u < 128
    · have h : ∀ m : Fin 128, m.val ≠ 0 → (Lib.bitLen m.val + 6) / 7 = 1 := by decide +kernel
      rw [num_lt hu]; exact h ⟨u, hu⟩ h0
    · rw [num_ge hu, Lib.bitLen_shift 7 u (by omega) h]
      have := ih (u / 128) (by omega) (by omega) (by omega)
      simp; omega
theorem size_num (u : Nat) (h : u < 18446744073709551616) : (Lib.bitLen (u ||| 1) + 6) / 7 = (num u).length := by
  by_cases h0 : u = 0
  · subst h0; rw [num_lt (by omega)]; decide +kernel
  · have e : Lib.bitLen (u ||| 1) = Lib.bitLen u := by
      by_cases h1 : u = 1
      · subst h1; rfl
      have hor : (u ||| 1) / 2 = u / 2 := by have := Nat.shiftRight_or_distrib (a := u) (b := 1) (i := 1); simpa [Nat.shiftRight_eq_div_pow] using this
      have hne : u ||| 1 ≠ 0 := by have := Nat.left_le_or (n := u) (m := 1); omega
      have hlt : u ||| 1 < 2 ^ 64 := Nat.or_lt_two_pow h (by omega)
      rw [Lib.bitLen_half _ hne hlt, hor, ← Lib.bitLen_half u h0 h]
    rw [e]; exact bitLen_num u h0 h

end Go.Proofs.Ytiklpimnmbjenaa

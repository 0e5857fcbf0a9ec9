/- Contracts: symMerge where one of the lists is one fact, on lists. -/
import Derived.Test.YtbejjindkcjecaaSy4
namespace Go.Proofs.Ytbejjindkcjecaa
open Go.RowKit Go Go.Shelf Go.Lib Go.Sort Go.Proofs
set_option linter.unusedVariables false
set_option linter.unusedSimpArgs false
theorem list_shf (x : FA) : ∀ (Y A B : List FA) (a : Nat), a = A.length → shf (A ++ (x :: (Y ++ B))).toArray a Y.length = (A ++ (Y ++ x :: B)).toArray
  | [], A, B, a, h => rfl
  | y :: Y, A, B, a, h => by
    rw [List.length_cons, shf]
    have e := list_swp A [] (Y ++ B) x y a (a + 1) h (by simp [h])
    simp only [List.nil_append] at e
    rw [List.cons_append, e]
    have e2 : A ++ y :: x :: (Y ++ B) = (A ++ [y]) ++ (x :: (Y ++ B)) := by simp
    rw [e2, list_shf x Y (A ++ [y]) B (a + 1) (by simp [h])]
    simp
theorem swp_comm (d : Array FA) (i j : Nat) (h : i ≠ j) : swp d i j = swp d j i := by
  unfold swp
  exact Array.setIfInBounds_comm _ _ h
theorem list_shd (y : FA) : ∀ (n : Nat) (X A B : List FA) (a : Nat), X.length = n → a = A.length + X.length → shd (A ++ (X ++ (y :: B))).toArray a n = (A ++ (y :: (X ++ B))).toArray
  | 0, X, A, B, a, h0, h => by rw [List.eq_nil_of_length_eq_zero h0]; rfl
  | n + 1, X, A, B, a, h0, h => by
    rcases List.eq_nil_or_concat X with e | ⟨X', x, e⟩
    · rw [e] at h0; simp at h0
    · subst e
      simp at h0 h
      rw [shd, show a - 1 = (A ++ X').length by simp; omega]
      rw [swp_comm _ _ _ (by simp; omega)]
      have e := list_swp (A ++ X') [] B x y (A ++ X').length a rfl (by simp; omega)
      simp only [List.nil_append] at e
      have e1 : A ++ ((X' ++ [x]) ++ y :: B) = (A ++ X') ++ x :: (y :: B) := by simp
      rw [List.concat_eq_append, e1, e]
      have e2 : (A ++ X') ++ y :: x :: B = A ++ (X' ++ (y :: ([x] ++ B))) := by simp
      rw [e2, list_shd y n X' A ([x] ++ B) (A ++ X').length h0 (by simp)]
      simp
end Go.Proofs.Ytbejjindkcjecaa
namespace Go.Proofs.Ytbejjindkcjecaa
open Go.RowKit Go Go.Shelf Go.Lib Go.Sort Go.Proofs
set_option linter.unusedVariables false
set_option linter.unusedSimpArgs false
theorem get_mid (A L B : List FA) (u : Nat) (h : u < L.length) : (A ++ (L ++ B)).toArray[A.length + u]! = L[u] := by
  rw [getElem!_pos _ _ (by simp; omega)]
  simp [List.getElem_append, h]
theorem srt_bef {L : List FA} (hL : Srt L) {x : FA} {s t : Nat} (hst : s ≤ t) (ht : t < L.length) (h : F7.bef L[t] x) : F7.bef (L[s]'(by omega)) x := by
  by_cases e : s = t
  · subst e; exact h
  · have h1 := (List.pairwise_iff_getElem.1 hL) s t (by omega) ht (by omega)
    exact Classical.byContradiction fun h2 => F7.not_bef_trans h1 h2 h
theorem symLeft_any (blk cap N a m b : Nat) (A L2 B : List FA) (x : FA) (d0 : Array FA) (w0 w : World) (R : RWF w0 blk d0) (hs : d0.size = N) (hN : N = (A ++ (x :: (L2 ++ B))).length) (hN1 : N ≤ 1000000)
    (S : SWF w0 blk (A ++ (x :: (L2 ++ B))) w) (ha : a = A.length) (hm : m = a + 1) (hb : b = m + L2.length) (h2 : Srt L2) :
    Calls Try.prog 81 #[.slice (some ⟨blk, 0, none⟩) N cap, .int .i64 a, .int .i64 m, .int .i64 b, .func (.func 33) #[] #[]] w fun e w' => e = .returned (.tuple #[]) ∧ ∃ l', Mg ([x] ++ L2) l' ∧ SWF w0 blk (A ++ (l' ++ B)) w' := by
  have hsz : (A ++ (x :: (L2 ++ B))).toArray.size = N := by rw [hN]; simp
  have hN' : N = A.length + 1 + L2.length + B.length := by have := hN; simp at this; omega
  have gx : (A ++ (x :: (L2 ++ B))).toArray[a]! = x := by
    rw [ha]; exact get_mid A [x] (L2 ++ B) 0 (by simp)
  have gl : ∀ t, (h1 : m ≤ t) → (h : t < b) → (A ++ (x :: (L2 ++ B))).toArray[t]! = L2[t - m]'(by omega) := fun t h1 h => by
    have := get_mid (A ++ [x]) L2 B (t - m) (by omega)
    rw [show (A ++ [x]).length + (t - m) = t by simp; omega] at this
    simpa using this
  have h := symLeft_k (P := Try.prog) (by kernel_rfl) Try.func81 Try.underlying0 Try.isAgg0 Try.sizeOf0 Try.zeroValue0 Try.underlying3 Try.isAgg3 Try.sizeOf3 Try.zeroValue3 Try.underlying4 Try.isAgg4 Try.sizeOf4 Try.zeroValue4
    Try.underlying22 Try.isAgg22 Try.sizeOf22 Try.zeroValue22 Try.underlying63 Try.isAgg63 Try.sizeOf63 Try.zeroValue63 Try.underlying92 Try.isAgg92 Try.sizeOf92 Try.zeroValue92 8 Try.isAgg28 Try.sizeOf28 fc ord 33 #[] blk 0 cap a m b d0 (A ++ (x :: (L2 ++ B))).toArray w0 w
    enters33 (cmp_facts _ _ _ _) R (by rw [hs, hsz]) S hm (by omega) (by rw [hsz]; omega) (by rw [hsz]; omega) (fun s t h1 hst h3 hc => by
      rw [gx, gl t (by omega) h3] at hc
      rw [gx, gl s h1 (by omega)]
      exact ord_lt.2 (srt_bef h2 (show s - m ≤ t - m by omega) (by omega) (ord_lt.1 hc)))
  rw [hsz] at h
  refine h.mono ?_
  rintro e w' ⟨rfl, i, hmi, hib, hl, hr, hS⟩
  have hcut : L2 = L2.take (i - m) ++ L2.drop (i - m) := (List.take_append_drop _ _).symm
  have hY : ∀ y ∈ L2.take (i - m), F7.bef y x := fun y hy => by
    obtain ⟨u, hu, rfl⟩ := List.getElem_of_mem hy
    rw [List.length_take] at hu
    have := hl (m + u) (by omega) (by omega)
    rw [gx, gl (m + u) (by omega) (by omega)] at this
    simpa using ord_lt.1 this
  have hB : ∀ y ∈ L2.drop (i - m), ¬ F7.bef y x := fun y hy => by
    obtain ⟨u, hu, rfl⟩ := List.getElem_of_mem hy
    rw [List.length_drop] at hu
    have := hr (i + u) (by omega) (by omega)
    rw [gx, gl (i + u) (by omega) (by omega)] at this
    intro hb
    refine this (ord_lt.2 ?_)
    simp only [List.getElem_drop] at hb
    have e : i - m + u = i + u - m := by omega
    simpa [e] using hb
  have hlen : (L2.take (i - m)).length = i - 1 - a := by rw [List.length_take]; omega
  generalize L2.take (i - m) = Y at hcut hY hlen
  generalize L2.drop (i - m) = D at hcut hB
  subst hcut
  refine ⟨rfl, Y ++ ([x] ++ D), mg_left h2 hY hB, ?_⟩
  have e := list_shf x Y A (D ++ B) a ha
  rw [hlen] at e
  have e1 : A ++ (x :: ((Y ++ D) ++ B)) = A ++ (x :: (Y ++ (D ++ B))) := by simp
  rw [e1, e] at hS
  simpa using hS
end Go.Proofs.Ytbejjindkcjecaa
namespace Go.Proofs.Ytbejjindkcjecaa
open Go.RowKit Go Go.Shelf Go.Lib Go.Sort Go.Proofs
set_option linter.unusedVariables false
set_option linter.unusedSimpArgs false
theorem bef_srt {L : List FA} (hL : Srt L) {y : FA} {s t : Nat} (hst : s ≤ t) (ht : t < L.length) (h : F7.bef y (L[s]'(by omega))) : F7.bef y L[t] := by
  by_cases e : s = t
  · subst e; exact h
  · have h1 := (List.pairwise_iff_getElem.1 hL) s t (by omega) ht (by omega)
    exact Classical.byContradiction fun h2 => F7.not_bef_trans h2 h1 h
theorem symRight_any (blk cap N a m b : Nat) (A L1 B : List FA) (y : FA) (d0 : Array FA) (w0 w : World) (R : RWF w0 blk d0) (hs : d0.size = N) (hN : N = (A ++ (L1 ++ (y :: B))).length) (hN1 : N ≤ 1000000)
    (S : SWF w0 blk (A ++ (L1 ++ (y :: B))) w) (ha : a = A.length) (hm : m = a + L1.length) (hb : b = m + 1) (h2 : Srt L1) (h20 : 2 ≤ L1.length) :
    Calls Try.prog 81 #[.slice (some ⟨blk, 0, none⟩) N cap, .int .i64 a, .int .i64 m, .int .i64 b, .func (.func 33) #[] #[]] w fun e w' => e = .returned (.tuple #[]) ∧ ∃ l', Mg (L1 ++ [y]) l' ∧ SWF w0 blk (A ++ (l' ++ B)) w' := by
  have hsz : (A ++ (L1 ++ (y :: B))).toArray.size = N := by rw [hN]; simp
  have hN' : N = A.length + L1.length + 1 + B.length := by have := hN; simp at this; omega
  have gy : (A ++ (L1 ++ (y :: B))).toArray[m]! = y := by
    have := get_mid (A ++ L1) [y] B 0 (by simp)
    rw [show (A ++ L1).length + 0 = m by simp; omega] at this
    simpa using this
  have gl : ∀ t, (h1 : a ≤ t) → (h : t < m) → (A ++ (L1 ++ (y :: B))).toArray[t]! = L1[t - a]'(by omega) := fun t h1 h => by
    have := get_mid A L1 (y :: B) (t - a) (by omega)
    rw [show A.length + (t - a) = t by omega] at this
    simpa using this
  have h := symRight_k (P := Try.prog) (by kernel_rfl) Try.func81 Try.underlying0 Try.isAgg0 Try.sizeOf0 Try.zeroValue0 Try.underlying3 Try.isAgg3 Try.sizeOf3 Try.zeroValue3 Try.underlying4 Try.isAgg4 Try.sizeOf4 Try.zeroValue4
    Try.underlying22 Try.isAgg22 Try.sizeOf22 Try.zeroValue22 Try.underlying63 Try.isAgg63 Try.sizeOf63 Try.zeroValue63 Try.underlying92 Try.isAgg92 Try.sizeOf92 Try.zeroValue92 8 Try.isAgg28 Try.sizeOf28 fc ord 33 #[] blk 0 cap a m b d0 (A ++ (L1 ++ (y :: B))).toArray w0 w
    enters33 (cmp_facts _ _ _ _) R (by rw [hs, hsz]) S (by omega) hb (by rw [hsz]; omega) (by rw [hsz]; omega) (fun s t h1 hst h3 hc => by
      rw [gy, gl s h1 (by omega)] at hc
      rw [gy, gl t (by omega) h3]
      exact ord_lt.2 (bef_srt h2 (show s - a ≤ t - a by omega) (by omega) (ord_lt.1 hc)))
  rw [hsz] at h
  refine h.mono ?_
  rintro e w' ⟨rfl, i, hai, him, hl, hr, hS⟩
  have hcut : L1 = L1.take (i - a) ++ L1.drop (i - a) := (List.take_append_drop _ _).symm
  have hA : ∀ z ∈ L1.take (i - a), ¬ F7.bef y z := fun z hz => by
    obtain ⟨u, hu, rfl⟩ := List.getElem_of_mem hz
    rw [List.length_take] at hu
    have := hl (a + u) (by omega) (by omega)
    rw [gy, gl (a + u) (by omega) (by omega)] at this
    intro hb
    have hc := ord_lt.2 hb
    simp at hc this
    omega
  have hX : ∀ z ∈ L1.drop (i - a), F7.bef y z := fun z hz => by
    obtain ⟨u, hu, rfl⟩ := List.getElem_of_mem hz
    rw [List.length_drop] at hu
    have := hr (i + u) (by omega) (by omega)
    rw [gy, gl (i + u) (by omega) (by omega)] at this
    have e : i - a + u = i + u - a := by omega
    simpa [e] using ord_lt.1 this
  have hlen : (L1.drop (i - a)).length = m - i := by rw [List.length_drop]; omega
  have hlen2 : (L1.take (i - a)).length = i - a := by rw [List.length_take]; omega
  generalize L1.take (i - a) = C at hcut hA hlen2
  generalize L1.drop (i - a) = X at hcut hX hlen
  subst hcut
  refine ⟨rfl, C ++ ([y] ++ X), mg_right h2 hA hX, ?_⟩
  have e := list_shd y (m - i) X (A ++ C) B m hlen (by simp; omega)
  have e1 : A ++ ((C ++ X) ++ (y :: B)) = (A ++ C) ++ (X ++ (y :: B)) := by simp
  rw [e1, e] at hS
  simpa using hS
end Go.Proofs.Ytbejjindkcjecaa

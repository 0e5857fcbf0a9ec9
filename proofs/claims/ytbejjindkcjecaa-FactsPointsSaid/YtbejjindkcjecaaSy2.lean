/- Contract: rotate of the stable sort. -/
import Derived.Test.YtbejjindkcjecaaSy1
namespace Go.Proofs.Ytbejjindkcjecaa
open Go.RowKit Go Go.Shelf Go.Lib Go.Sort Go.Proofs
set_option linter.unusedVariables false
set_option linter.unusedSimpArgs false
theorem list_swp (A M B : List FA) (x y : FA) (i j : Nat) (hi : i = A.length) (hj : j = A.length + 1 + M.length) : swp (A ++ x :: (M ++ y :: B)).toArray i j = (A ++ y :: (M ++ x :: B)).toArray := by
  subst hi; subst hj
  have g1 : (A ++ x :: (M ++ y :: B)).toArray[A.length]! = x := by
    rw [getElem!_pos _ _ (by simp)]; simp
  have g2 : (A ++ x :: (M ++ y :: B)).toArray[A.length + 1 + M.length]! = y := by
    rw [getElem!_pos _ _ (by simp; omega)]
    simp [List.getElem_append, List.getElem_cons, show ¬ (A.length + 1 + M.length < A.length) by omega, show A.length + 1 + M.length - A.length = M.length + 1 by omega]
  unfold swp
  rw [g1, g2]
  apply Array.ext'
  simp [List.set_append, show ¬ (A.length + 1 + M.length < A.length) by omega, show A.length + 1 + M.length - A.length = M.length + 1 by omega]
theorem list_swpM (a b : Nat) : ∀ (m i : Nat) (A X C Y B : List FA), A.length = a + i → A.length + X.length + C.length = b + i → X.length = m → Y.length = m → swpM (A ++ (X ++ (C ++ (Y ++ B)))).toArray a b i m = (A ++ (Y ++ (C ++ (X ++ B)))).toArray
  | 0, i, A, X, C, Y, B, h1, h2, h3, h4 => by
    rw [List.eq_nil_of_length_eq_zero h3, List.eq_nil_of_length_eq_zero h4]; rfl
  | m + 1, i, A, x :: X, C, y :: Y, B, h1, h2, h3, h4 => by
    simp at h3 h4 h2
    rw [swpM]
    have e : A ++ (x :: X ++ (C ++ (y :: Y ++ B))) = A ++ x :: ((X ++ C) ++ y :: (Y ++ B)) := by simp
    rw [e, list_swp A (X ++ C) (Y ++ B) x y (a + i) (b + i) h1.symm (by simp; omega)]
    have e2 : A ++ y :: ((X ++ C) ++ x :: (Y ++ B)) = (A ++ [y]) ++ (X ++ ((C ++ [x]) ++ (Y ++ B))) := by simp
    rw [e2, list_swpM a b m (i + 1) (A ++ [y]) X (C ++ [x]) Y B (by simp; omega) (by simp; omega) h3 h4]
    simp
abbrev SWF (w0 : World) (blk : Nat) (l : List FA) (W : World) : Prop := SWK fc 8 w0 blk 0 l.toArray W
abbrev RWF (w0 : World) (blk : Nat) (d0 : Array FA) : Prop := RowK fc 8 w0 blk 0 d0
theorem swapRange_any (blk cap N a b n : Nat) (A X C Y B : List FA) (d0 : Array FA) (w0 w : World) (R : RWF w0 blk d0) (hs : d0.size = N) (hN : N = (A ++ (X ++ (C ++ (Y ++ B)))).length) (hN1 : N ≤ 1000000)
    (S : SWF w0 blk (A ++ (X ++ (C ++ (Y ++ B)))) w) (ha : a = A.length) (hb : b = A.length + X.length + C.length) (hn : n = X.length) (hn2 : n = Y.length) :
    Calls Try.prog 89 #[.slice (some ⟨blk, 0, none⟩) N cap, .int .i64 a, .int .i64 b, .int .i64 n, .func (.func 33) #[] #[]] w fun e w' => e = .returned (.tuple #[]) ∧ SWF w0 blk (A ++ (Y ++ (C ++ (X ++ B)))) w' := by
  have h := swapRange_k (P := Try.prog) (by kernel_rfl) Try.func89 Try.underlying0 Try.isAgg0 Try.sizeOf0 Try.zeroValue0 Try.underlying3 Try.isAgg3 Try.sizeOf3 Try.zeroValue3 Try.underlying4 Try.isAgg4 Try.sizeOf4 Try.zeroValue4
    Try.underlying22 Try.isAgg22 Try.sizeOf22 Try.zeroValue22 Try.underlying63 Try.isAgg63 Try.sizeOf63 Try.zeroValue63 8 Try.isAgg28 Try.sizeOf28 fc 33 #[] blk 0 cap a b n d0 (A ++ (X ++ (C ++ (Y ++ B)))).toArray w0 w R
    (by rw [hs, hN]; simp) S (by omega) (by simp at hN ⊢; omega) (by simp at hN ⊢; omega)
  have e : (A ++ (X ++ (C ++ (Y ++ B)))).toArray.size = N := by rw [hN]; simp
  rw [e, list_swpM a b n 0 A X C Y B (by omega) (by omega) hn.symm hn2.symm] at h
  exact h
set_option maxRecDepth 100000 in
set_option maxHeartbeats 4000000 in
theorem rotate_any (blk cap N a m b : Nat) (A X Y B : List FA) (d0 : Array FA) (w0 w : World) (R : RWF w0 blk d0) (hs : d0.size = N) (hN : N = (A ++ (X ++ (Y ++ B))).length) (hN1 : N ≤ 1000000)
    (S : SWF w0 blk (A ++ (X ++ (Y ++ B))) w) (ha : a = A.length) (hm : m = A.length + X.length) (hb : b = A.length + X.length + Y.length) (hx : 0 < X.length) (hy : 0 < Y.length) :
    Calls Try.prog 87 #[.slice (some ⟨blk, 0, none⟩) N cap, .int .i64 a, .int .i64 m, .int .i64 b, .func (.func 33) #[] #[]] w fun e w' => e = .returned (.tuple #[]) ∧ SWF w0 blk (A ++ (Y ++ (X ++ B))) w' := by
  obtain ⟨T, hT⟩ : ∃ T, T = A ++ (Y ++ (X ++ B)) := ⟨_, rfl⟩
  rw [← hT]
  have HT := hid hT
  have HS := hid S
  have hNl : N = A.length + X.length + Y.length + B.length := by rw [hN]; simp; omega
  have SR := hid (fun (w : World) (a b n : Nat) (A X C Y B : List FA) (h1 : N = (A ++ (X ++ (C ++ (Y ++ B)))).length) (S : SWF w0 blk (A ++ (X ++ (C ++ (Y ++ B)))) w) (h2 : a = A.length) (h3 : b = A.length + X.length + C.length) (h4 : n = X.length) (h5 : n = Y.length) => swapRange_any blk cap N a b n A X C Y B d0 w0 w R hs h1 hN1 S h2 h3 h4 h5)
  clear S hT R hs
  obtain ⟨i0, hi0⟩ : ∃ i, i = X.length := ⟨_, rfl⟩
  obtain ⟨j0, hj0⟩ : ∃ j, j = Y.length := ⟨_, rfl⟩
  have e1 : (m : Int) - (a : Int) = (i0 : Int) := by omega
  have e2 : (b : Int) - (m : Int) = (j0 : Int) := by omega
  have w1 : IntKind.i64.wrap ((m : Int) - (a : Int)) = (i0 : Int) := by rw [IntKind.wrap_i64]; omega
  have w2 : IntKind.i64.wrap ((b : Int) - (m : Int)) = (j0 : Int) := by rw [IntKind.wrap_i64]; omega
  have HINV := hid (show ∃ PR X' Y' PO, PR ++ (Y' ++ (X' ++ PO)) = T ∧ SWF w0 blk (PR ++ (X' ++ (Y' ++ PO))) w ∧ PR.length + i0 = m ∧ X'.length = i0 ∧ Y'.length = j0 ∧ N = (PR ++ (X' ++ (Y' ++ PO))).length from ⟨A, X, Y, B, HT.out.symm, HS.out, by omega, hi0.symm, hj0.symm, by rw [hN]⟩)
  have hi1 : 0 < i0 := by omega
  have hj1 : 0 < j0 := by omega
  have hmn : m ≤ N := by omega
  have hbn : b ≤ N := by omega
  clear HT HS hN hNl ha hb hi0 hj0 hx hy hm
  go_enter Try.func87, Try.ntmps87
  go_wp2
  go_loopg [10, 11] (i0 + j0) (fun kx s8 s9 wr => ∃ (i j : Nat), s8 = .int .i64 i ∧ s9 = .int .i64 j ∧ 0 < i ∧ 0 < j ∧ i + j ≤ kx ∧
    Hid (∃ PR X' Y' PO, PR ++ (Y' ++ (X' ++ PO)) = T ∧ SWF w0 blk (PR ++ (X' ++ (Y' ++ PO))) wr ∧ PR.length + i = m ∧ X'.length = i ∧ Y'.length = j ∧ N = (PR ++ (X' ++ (Y' ++ PO))).length))
  case atStart => exact ⟨i0, j0, by first | go_num | (rw [← e1]; done) | (rw [← e1]; go_num), by first | go_num | (rw [← e2]; done) | (rw [← e2]; go_num), hi1, hj1, Nat.le_refl _, HINV⟩
  case round =>
    clear HINV
    obtain ⟨i, j, rfl, rfl, hi, hj, hkx, hv⟩ := hrel
    by_cases hgt : j < i
    · have z1 : ¬ ((i : Int) = (j : Int)) := by omega
      have z2 : (j : Int) < (i : Int) := by omega
      have HC := hid (show Calls Try.prog 89 #[.slice (some ⟨blk, 0, none⟩) N cap, .int .i64 ((m - i : Nat) : Int), .int .i64 m, .int .i64 j, .func (.func 33) #[] #[]] wr fun e w' => e = .returned (.tuple #[]) ∧ Hid (∃ PR X' Y' PO, PR ++ (Y' ++ (X' ++ PO)) = T ∧ SWF w0 blk (PR ++ (X' ++ (Y' ++ PO))) w' ∧ PR.length + (i - j) = m ∧ X'.length = i - j ∧ Y'.length = j ∧ N = (PR ++ (X' ++ (Y' ++ PO))).length) from by
        obtain ⟨PR, X', Y', PO, q1, q2, q3, q4, q5, q6⟩ := hv.out
        have hX : X' = X'.take j ++ X'.drop j := (List.take_append_drop j X').symm
        have hl1 : (X'.take j).length = j := by rw [List.length_take]; omega
        have hl2 : (X'.drop j).length = i - j := by rw [List.length_drop]; omega
        generalize X'.take j = X1 at hX hl1
        generalize X'.drop j = X2 at hX hl2
        subst hX
        have q6' : N = PR.length + (X1.length + X2.length) + Y'.length + PO.length := by rw [q6]; simp; omega
        refine (SR.out wr (m - i) m j PR X1 X2 Y' PO (by rw [q6]; simp) (by simpa using q2) (by omega) (by omega) hl1.symm q5.symm).mono ?_
        rintro e w' ⟨rfl, h⟩
        exact ⟨rfl, hid ⟨PR ++ Y', X2, X1, PO, by rw [← q1]; simp, by simpa using h, by simp; omega, hl2, hl1, by rw [q6']; simp; omega⟩⟩)
      have hmi : i ≤ m := by obtain ⟨PR, X', Y', PO, q1, q2, q3, q4, q5, q6⟩ := hv.out; omega
      have z3 : (m : Int) - (i : Int) = ((m - i : Nat) : Int) := by omega
      have z4 : IntKind.i64.wrap ((m : Int) - (i : Int)) = ((m - i : Nat) : Int) := by rw [IntKind.wrap_i64]; omega
      have z5 : IntKind.i64.wrap ((i : Int) - (j : Int)) = ((i - j : Nat) : Int) := by rw [IntKind.wrap_i64]; omega
      clear hv
      go_wp2_with fail
      refine HC.out.mono ?_
      rintro e wn ⟨rfl, hv⟩
      clear HC
      go_wp2
      go_roundg (i - j + j)
      case measure => omega
      case rel => exact ⟨i - j, j, by first | rfl | go_num | (rw [← z5]; done), rfl, by omega, hj, Nat.le_refl _, hv⟩
    by_cases hlt : i < j
    · have z1 : ¬ ((i : Int) = (j : Int)) := by omega
      have z2 : ¬ ((j : Int) < (i : Int)) := by omega
      have HC := hid (show Calls Try.prog 89 #[.slice (some ⟨blk, 0, none⟩) N cap, .int .i64 ((m - i : Nat) : Int), .int .i64 ((m + j - i : Nat) : Int), .int .i64 i, .func (.func 33) #[] #[]] wr fun e w' => e = .returned (.tuple #[]) ∧ Hid (∃ PR X' Y' PO, PR ++ (Y' ++ (X' ++ PO)) = T ∧ SWF w0 blk (PR ++ (X' ++ (Y' ++ PO))) w' ∧ PR.length + i = m ∧ X'.length = i ∧ Y'.length = j - i ∧ N = (PR ++ (X' ++ (Y' ++ PO))).length) from by
        obtain ⟨PR, X', Y', PO, q1, q2, q3, q4, q5, q6⟩ := hv.out
        have hY : Y' = Y'.take (j - i) ++ Y'.drop (j - i) := (List.take_append_drop (j - i) Y').symm
        have hl1 : (Y'.take (j - i)).length = j - i := by rw [List.length_take]; omega
        have hl2 : (Y'.drop (j - i)).length = i := by rw [List.length_drop]; omega
        generalize Y'.take (j - i) = Y1 at hY hl1
        generalize Y'.drop (j - i) = Y2 at hY hl2
        subst hY
        have q6' : N = PR.length + X'.length + (Y1.length + Y2.length) + PO.length := by rw [q6]; simp; omega
        refine (SR.out wr (m - i) (m + j - i) i PR X' Y1 Y2 PO (by rw [q6]; simp) (by simpa using q2) (by omega) (by omega) q4.symm hl2.symm).mono ?_
        rintro e w' ⟨rfl, h⟩
        exact ⟨rfl, hid ⟨PR, Y2, Y1, X' ++ PO, by rw [← q1]; simp, by simpa using h, by omega, hl2, hl1, by rw [q6']; simp; omega⟩⟩)
      have hmi : i ≤ m ∧ m + j ≤ N := by obtain ⟨PR, X', Y', PO, q1, q2, q3, q4, q5, q6⟩ := hv.out; simp at q6; omega
      have z3 : (m : Int) - (i : Int) = ((m - i : Nat) : Int) := by omega
      have z4 : IntKind.i64.wrap ((m : Int) - (i : Int)) = ((m - i : Nat) : Int) := by rw [IntKind.wrap_i64]; omega
      have z5 : IntKind.i64.wrap ((j : Int) - (i : Int)) = ((j - i : Nat) : Int) := by rw [IntKind.wrap_i64]; omega
      have z6 : IntKind.i64.wrap ((m : Int) + (j : Int)) = (m : Int) + (j : Int) := by rw [IntKind.wrap_i64]; omega
      have z7 : IntKind.i64.wrap ((m : Int) + (j : Int) - (i : Int)) = ((m + j - i : Nat) : Int) := by rw [IntKind.wrap_i64]; omega
      have z8 : (m : Int) + (j : Int) - (i : Int) = ((m + j - i : Nat) : Int) := by omega
      clear hv
      go_wp2_with fail
      refine HC.out.mono ?_
      rintro e wn ⟨rfl, hv⟩
      clear HC
      go_wp2
      go_roundg (i + (j - i))
      case measure => omega
      case rel => exact ⟨i, j - i, rfl, by first | rfl | go_num | (rw [← z5]; done), hi, by omega, Nat.le_refl _, hv⟩
    obtain rfl : i = j := by omega
    have HC := hid (show Calls Try.prog 89 #[.slice (some ⟨blk, 0, none⟩) N cap, .int .i64 ((m - i : Nat) : Int), .int .i64 m, .int .i64 i, .func (.func 33) #[] #[]] wr fun e w' => e = .returned (.tuple #[]) ∧ SWF w0 blk T w' from by
      obtain ⟨PR, X', Y', PO, q1, q2, q3, q4, q5, q6⟩ := hv.out
      refine (SR.out wr (m - i) m i PR X' [] Y' PO (by rw [q6]; simp) (by simpa using q2) (by omega) (by simp; omega) q4.symm q5.symm).mono ?_
      rintro e w' ⟨rfl, h⟩
      exact ⟨rfl, by rw [← q1]; simpa using h⟩)
    have hmi : i ≤ m := by obtain ⟨PR, X', Y', PO, q1, q2, q3, q4, q5, q6⟩ := hv.out; omega
    have z3 : (m : Int) - (i : Int) = ((m - i : Nat) : Int) := by omega
    have z4 : IntKind.i64.wrap ((m : Int) - (i : Int)) = ((m - i : Nat) : Int) := by rw [IntKind.wrap_i64]; omega
    clear hv
    go_wp2_with fail
    refine HC.out.mono ?_
    rintro e wn ⟨rfl, hv⟩
    clear HC
    go_wp2
    go_end0
    exact ⟨rfl, hv⟩
end Go.Proofs.Ytbejjindkcjecaa

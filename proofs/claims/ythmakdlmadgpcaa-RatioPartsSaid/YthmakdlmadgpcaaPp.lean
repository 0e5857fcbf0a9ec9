/- Means of parts of a list. -/
import Derived.Test.YthmakdlmadgpcaaBp
namespace Go.Proofs.Ythmakdlmadgpcaa
set_option linter.unusedVariables false
set_option linter.unusedSimpArgs false
theorem both_vd' {an ad bn bd : Int} (ha : Vd an ad) (hb : Vd bn bd) (x : Int × Int × Int) : both an ad bn bd x = x := by
  unfold both; rw [if_pos (chk_ok.2 ha), if_pos (chk_ok.2 hb)]
theorem ws_congr {ys zs : List Int} {L : List Nat} (h : ∀ j ∈ L, ys.getD j 0 = zs.getD j 0) : ws ys L = ws zs L := by
  unfold ws; congr 1; exact List.map_congr_left h
theorem ps_congr {xs us ys zs : List Int} {L : List Nat} (h1 : ∀ j ∈ L, xs.getD j 0 = us.getD j 0) (h : ∀ j ∈ L, ys.getD j 0 = zs.getD j 0) : ps xs ys L = ps us zs L := by
  unfold ps; congr 1; exact List.map_congr_left (fun j hj => by rw [h1 j hj, h j hj])
theorem ws_shift (ys : List Int) (k : Nat) (L : List Nat) : ws ys (L.map (k + ·)) = ws (ys.drop k) L := by
  unfold ws
  rw [List.map_map]
  congr 1
  refine List.map_congr_left (fun j _ => ?_)
  simp [List.getD_eq_getElem?_getD, List.getElem?_drop]
theorem ps_shift (xs ys : List Int) (k : Nat) (L : List Nat) : ps xs ys (L.map (k + ·)) = ps (xs.drop k) (ys.drop k) L := by
  unfold ps
  rw [List.map_map]
  congr 1
  refine List.map_congr_left (fun j _ => ?_)
  simp [List.getD_eq_getElem?_getD, List.getElem?_drop]
theorem ws_append (ys : List Int) (L M : List Nat) : ws ys (L ++ M) = ws ys L + ws ys M := by simp [ws]
theorem ps_append (xs ys : List Int) (L M : List Nat) : ps xs ys (L ++ M) = ps xs ys L + ps xs ys M := by simp [ps]
theorem ws_split (ys : List Int) (k n : Nat) (h : k ≤ n) : ws ys (List.range n) = ws (ys.take k) (List.range k) + ws (ys.drop k) (List.range (n - k)) := by
  have e : n = k + (n - k) := by omega
  conv => lhs; rw [e, List.range_add, ws_append, ws_shift]
  congr 1
  refine ws_congr (fun j hj => ?_)
  have := List.mem_range.1 hj
  rw [List.getD_eq_getElem?_getD, List.getD_eq_getElem?_getD, List.getElem?_take, if_pos this]
theorem ps_split (xs ys : List Int) (k n : Nat) (h : k ≤ n) : ps xs ys (List.range n) = ps (xs.take k) (ys.take k) (List.range k) + ps (xs.drop k) (ys.drop k) (List.range (n - k)) := by
  have e : n = k + (n - k) := by omega
  conv => lhs; rw [e, List.range_add, ps_append, ps_shift]
  congr 1
  refine ps_congr (fun j hj => ?_) (fun j hj => ?_)
  · have := List.mem_range.1 hj
    rw [List.getD_eq_getElem?_getD, List.getD_eq_getElem?_getD, List.getElem?_take, if_pos this]
  · have := List.mem_range.1 hj
    rw [List.getD_eq_getElem?_getD, List.getD_eq_getElem?_getD, List.getElem?_take, if_pos this]
theorem ps_none {xs zs : List Int} (h : Sm xs zs) (L : List Nat) (h0 : ws zs L = 0) : ps xs zs L = 0 := by
  have hz := (ws_zero h L).1 h0
  clear h0
  induction L with
  | nil => simp [ps]
  | cons x L ih =>
    have e : ps xs zs (x :: L) = xs.getD x 0 * zs.getD x 0 + ps xs zs L := by simp [ps]
    rw [e, hz x (by simp), ih (fun j hj => hz j (by simp [hj]))]
    simp
/-- a mean times its weight is the sum of the products -/
theorem mean_one {xs zs : List Int} (h : Sm xs zs) (hl : xs.length = zs.length) (hn : xs.length ≤ 200) :
    ∃ p q, mn xs zs = (p, q, 0) ∧ Vd p q ∧ p * ws zs (List.range xs.length) = ps xs zs (List.range xs.length) * q := by
  obtain ⟨p, q, m1, _, hv, h0, h1⟩ := means 1 h hl hn (by omega)
  refine ⟨p, q, m1, hv, ?_⟩
  by_cases hS : ws zs (List.range xs.length) = 0
  · have := ps_none h _ hS
    rw [this, hS]; simp
  · exact h1 hS
theorem mean_pr {p q S P : Int} (hv : Vd p q) (e : p * S = P * q) (h1 : -1073741824 ≤ P) (h2 : P ≤ 1073741824) : pr p q S 1 = (P, 1, 0) := by
  unfold pr
  refine nw_of (by have := hv.q1; omega) (vd_int P h1 h2) ?_
  rw [e]; grind
theorem sm_ints {a b : Int} (h1 : -1073741824 ≤ a + b) (h2 : a + b ≤ 1073741824) : sm a 1 b 1 = (a + b, 1, 0) := by
  unfold sm
  exact nw_of (by omega) (vd_int _ h1 h2) (by grind)
theorem Sm.take {xs zs : List Int} (h : Sm xs zs) (k m : Nat) : Sm (xs.take k) (zs.take m) := ⟨fun x hx => h.1 x (List.mem_of_mem_take hx), fun z hz => h.2 z (List.mem_of_mem_take hz)⟩
theorem Sm.drop {xs zs : List Int} (h : Sm xs zs) (k m : Nat) : Sm (xs.drop k) (zs.drop m) := ⟨fun x hx => h.1 x (List.mem_of_mem_drop hx), fun z hz => h.2 z (List.mem_of_mem_drop hz)⟩
/-- what the law's calls answer -/
theorem parts {xs zs : List Int} (h : Sm xs zs) (hl : xs.length = zs.length) (hn : xs.length ≤ 40) (k : Nat) (hk : k ≤ xs.length) (one two : Int)
    (h1 : one = ws (zs.take k) (List.range k)) (h2 : two = ws (zs.drop k) (List.range (xs.length - k))) :
    ∃ A1 A2 a1 a2 b1 b2 P1 P2 : Int, mn xs zs = (A1, A2, 0) ∧ mn (xs.take k) (zs.take k) = (a1, a2, 0) ∧ mn (xs.drop k) (zs.drop k) = (b1, b2, 0) ∧
      both a1 a2 one 1 (pr a1 a2 one 1) = (P1, 1, 0) ∧ both b1 b2 two 1 (pr b1 b2 two 1) = (P2, 1, 0) ∧ both P1 1 P2 1 (sm P1 1 P2 1) = (P1 + P2, 1, 0) ∧ both A1 A2 (one + two) 1 (pr A1 A2 (one + two) 1) = (P1 + P2, 1, 0) ∧
      (I64 A1 ∧ I64 A2 ∧ I64 a1 ∧ I64 a2) ∧ (I64 b1 ∧ I64 b2 ∧ I64 P1 ∧ I64 P2) := by
  have vi : ∀ {p q : Int}, Vd p q → I64 p ∧ I64 q := fun hv => ⟨⟨by have := hv.p1; omega, by have := hv.p2; omega⟩, ⟨by have := hv.q1; omega, by have := hv.q2; omega⟩⟩
  have lt1 : (xs.take k).length = k := by simp; omega
  have lt2 : (zs.take k).length = k := by simp; omega
  have ld1 : (xs.drop k).length = xs.length - k := by simp
  have ld2 : (zs.drop k).length = xs.length - k := by simp; omega
  obtain ⟨A1, A2, mA, vA, eA⟩ := mean_one h hl (by omega)
  obtain ⟨a1, a2, ma, va, ea⟩ := mean_one (h.take k k) (by rw [lt1, lt2]) (by omega)
  obtain ⟨b1, b2, mb, vb, eb⟩ := mean_one (h.drop k k) (by rw [ld1, ld2]) (by omega)
  rw [lt1] at ea
  rw [ld1] at eb
  have s1 := ws_split zs k xs.length hk
  have s2 := ps_split xs zs k xs.length hk
  have bw1 := ws_sm (h.take k k) (List.range k)
  have bw2 := ws_sm (h.drop k k) (List.range (xs.length - k))
  have bp1 := ps_sm (h.take k k) (List.range k)
  have bp2 := ps_sm (h.drop k k) (List.range (xs.length - k))
  rw [List.length_range] at bw1 bw2 bp1 bp2
  rw [← h1] at ea s1 bw1
  rw [← h2] at eb s1 bw2
  rw [s1, s2] at eA
  generalize ps (xs.take k) (zs.take k) (List.range k) = P1 at *
  generalize ps (xs.drop k) (zs.drop k) (List.range (xs.length - k)) = P2 at *
  have o1 := vd_int one (by omega) (by omega)
  have o2 := vd_int two (by omega) (by omega)
  have o3 := vd_int (one + two) (by omega) (by omega)
  have q1 := vd_int P1 (by omega) (by omega)
  have q2 := vd_int P2 (by omega) (by omega)
  refine ⟨A1, A2, a1, a2, b1, b2, P1, P2, mA, ma, mb, ?_, ?_, ?_, ?_, ⟨(vi vA).1, (vi vA).2, (vi va).1, (vi va).2⟩, (vi vb).1, (vi vb).2, (vi q1).1, (vi q2).1⟩
  · rw [both_vd' va o1, mean_pr va ea (by omega) (by omega)]
  · rw [both_vd' vb o2, mean_pr vb eb (by omega) (by omega)]
  · rw [both_vd' q1 q2, sm_ints (by omega) (by omega)]
  · rw [both_vd' vA o3, mean_pr vA eA (by omega) (by omega)]
end Go.Proofs.Ythmakdlmadgpcaa

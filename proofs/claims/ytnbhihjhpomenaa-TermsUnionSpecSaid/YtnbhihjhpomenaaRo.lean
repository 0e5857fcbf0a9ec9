/- Contract of the reference: Of. -/
import Derived.Test.YtnbhihjhpomenaaRa
import Derived.OneCell
namespace Go.Proofs.Ytnbhihjhpomenaa
open Go.RowKit Go Go.Great
set_option linter.unusedVariables false
set_option linter.unusedSimpArgs false
/-- the numbers of a set given by truth values -/
def ofb (P : Nat → Bool) (k : Nat) : Sp := T.ofs (fun x => P x.toNat = true) k
theorem ofb_zero (P : Nat → Bool) : ofb P 0 = [] := rfl
theorem ofb_no {P : Nat → Bool} {k : Nat} (h : P k = false) : ofb P (k + 1) = ofb P k := by
  unfold ofb; rw [T.ofs, if_neg (by simp [h])]
theorem ofb_yes {P : Nat → Bool} {k : Nat} (h : P k = true) : ofb P (k + 1) = T.grow (ofb P k) k := by
  unfold ofb; rw [T.ofs, if_pos (by simp [h])]
theorem ofb_ok (P : Nat → Bool) (k : Nat) : T.ok (k : Int) (-1) (ofb P k) := (T.ofs_ok _ k).1
theorem ofb_len (P : Nat → Bool) (k : Nat) : (ofb P k).length ≤ k + 1 := by
  have := ok_length (by omega) (ofb_ok P k); omega
/-- an own row of spans that is empty or ends in a span -/
theorem OS.last {w : World} {base : Nat} {v : Value} {l : Sp} {f t : Int} (h : OS w base v (l ++ [(f, t)])) :
    ∃ g cap, v = .slice (some ⟨g, 0, none⟩) (l.length + 1) cap ∧ base ≤ g ∧ g < w.heap.size ∧ l.length + 1 ≤ cap ∧ cap ≤ maxLen ∧
      w.cell? ⟨g, l.length * 2, none⟩ = some (.int .i64 f) ∧ w.cell? ⟨g, l.length * 2 + 1, none⟩ = some (.int .i64 t) ∧ w.frozen? ⟨g, l.length * 2 + 1, none⟩ = false ∧
      ∀ x, OS (w.setCell ⟨g, l.length * 2 + 1, none⟩ (.int .i64 x)) base (.slice (some ⟨g, 0, none⟩) (l.length + 1) cap) (l ++ [(f, x)]) := by
  have hl : (l ++ [(f, t)]).length = l.length + 1 := by simp
  rcases h.2 with ⟨_, hn⟩ | ⟨g, cap, cur, rfl, hb, hg, hn, hm, hs, ht⟩
  · rw [hl] at hn; omega
  · rw [hl] at hn ht ⊢
    have hsc : ∀ x, sc (l ++ [(f, x)]) = sc l ++ [.int .i64 f, .int .i64 x] := fun x => by unfold sc; rw [T.ends_append, List.map_append]; rfl
    have hsl : (sc l).length = 2 * l.length := sc_length l
    have c0 := World.ownsRow.cells h rfl (l.length * 2) (.int .i64 f) (by rw [hsc, List.getElem?_append_right (by omega), show l.length * 2 - (sc l).length = 0 from by omega]; rfl)
    have c1 := World.ownsRow.cells h rfl (l.length * 2 + 1) (.int .i64 t) (by rw [hsc, List.getElem?_append_right (by omega), show l.length * 2 + 1 - (sc l).length = 1 from by omega]; rfl)
    rw [add_plain, Nat.zero_add] at c0 c1
    have hlt : g < w.heap.size := (Array.getElem?_eq_some_iff.1 hg).1
    refine ⟨g, cap, rfl, hb, hlt, hn, hm, c0, c1, by simp [World.frozen?, hg], fun x => ⟨?_, .inr ⟨g, cap, cur.setIfInBounds (l.length * 2 + 1) (.int .i64 x), ?_, hb, ?_, ?_, hm, ?_, ?_⟩⟩⟩
    · rw [hsc]; simp; omega
    · rw [List.length_append]; rfl
    · rw [Go.Sort.setCell_eq]
      simp only [Go.Sort.mapBlock]
      rw [Array.getElem?_modify, if_pos rfl, hg]
      rfl
    · rw [List.length_append]; exact hn
    · simp [hs]
    · rw [List.length_append, List.length_singleton]
      have e : (cur.setIfInBounds (l.length * 2 + 1) (Value.int .i64 x)).toList = cur.toList.set (l.length * 2 + 1) (.int .i64 x) := by simp
      rw [e, List.take_set, ht, hsc, hsc, List.set_append_right _ _ (by omega), show l.length * 2 + 1 - (sc l).length = 1 from by omega]
      rfl
theorem grow_nil (x : Int) : T.grow [] x = [(x, x + 1)] := rfl
theorem grow_on (l : Sp) (f x : Int) : T.grow (l ++ [(f, x)]) x = l ++ [(f, x + 1)] := by
  unfold T.grow; rw [List.getLast?_append, List.getLast?_singleton]; simp
theorem grow_off (l : Sp) (f t x : Int) (h : t ≠ x) : T.grow (l ++ [(f, t)]) x = (l ++ [(f, t)]) ++ [(x, x + 1)] := by
  unfold T.grow; rw [List.getLast?_append, List.getLast?_singleton]; simp [h]
theorem os_empty (w : World) (base : Nat) (hb : base ≤ w.heap.size) : OS (w.alloc (.cells #[] 35)) base (.slice (some ⟨w.heap.size, 0, none⟩) 0 0) [] :=
  ⟨rfl, .inr ⟨_, 0, #[], rfl, hb, heap_alloc_new w _, by simp, by simp, rfl, rfl⟩⟩
theorem OS.form {w : World} {base : Nat} {v : Value} {l : Sp} (h : OS w base v l) : ∃ p c, v = .slice p l.length c := h.ss.form
theorem last_of (l : Sp) : l = [] ∨ ∃ l' f t, l = l' ++ [(f, t)] := by
  rcases List.eq_nil_or_concat l with h | ⟨l', ⟨f, t⟩, h⟩
  · exact .inl h
  · exact .inr ⟨l', f, t, by simpa using h⟩
set_option maxRecDepth 100000 in
set_option maxHeartbeats 8000000 in
theorem Of_any (P : Nat → Bool) (w : World) : Calls Try.prog 36 #[.agg (row P 1024).toArray] w fun e w' => ∃ u, e = .returned u ∧ SS w' u (ofb P 1024) ∧ Below w.heap.size w w' := by
  obtain ⟨B, hB⟩ : ∃ B, B = w.heap.size + 1 := ⟨_, rfl⟩
  obtain ⟨w1, hw1⟩ : ∃ w1, w1 = w.alloc (.cells (row P 1024).toArray 47) := ⟨_, rfl⟩
  have hc0 : Cells w1 ⟨w.heap.size, 0, none⟩ (row P 1024) := by rw [hw1]; exact cells_new w _ 47
  have hb1 : Below w.heap.size w w1 := by rw [hw1]; exact below_al _ _
  have hs1 : w1.heap.size = B := by rw [hw1, hB]; simp
  have HC0 := hid hc0; have HB1 := hid hb1; have HS1 := hid hs1; have HW1 := hid hw1; have HBW := hid hB
  clear hc0 hb1 hs1 hw1 hB
  go_enter Try.func36, Try.ntmps36
  go_wp2_with fail
  rw [← HW1.out, ← HBW.out]
  have ho := os_empty w1 B (by rw [HS1.out]; exact Nat.le_refl _)
  rw [HS1.out] at ho
  have hb2 : Below B w1 (w1.alloc (.cells #[] 35)) := (Below.refl _ _).alloc (by rw [HS1.out]; exact Nat.le_refl _) _
  have HOS := hid ho; have HB2 := hid hb2
  clear ho hb2
  go_loopw [3, 4] (fun s i wr => ∃ k : Nat, k ≤ 1024 ∧ i = .int .i64 k ∧ OS wr B s (ofb P k) ∧ Below B w1 wr) (fun _ i _ => 1024 - (intOf i).toNat)
  case atStart => exact ⟨0, by omega, rfl, HOS.out, HB2.out⟩
  case round =>
    obtain ⟨k, hk, rfl, hos, hb⟩ := hrel
    clear HOS HB2
    have hbs : B ≤ wr.heap.size := by have := hb.size; rw [HS1.out] at this; exact this
    by_cases hlt : k < 1024
    · have hcell : wr.cell? ⟨w.heap.size, k, none⟩ = some (.bool (P k)) := by
        have h1 := HC0.out.at0 (row_get P 1024 k hlt)
        rw [show (decide (k < 1024) && P k) = P k from by simp [hlt]] at h1
        exact (hb.cell (p := ⟨w.heap.size, k, none⟩) (by show w.heap.size < B; rw [HBW.out]; omega)).trans h1
      rcases tf (P k) with hp | hp
      · rw [hp] at hcell
        have hyes := ofb_yes hp
        have hln := ofb_len P k
        rcases last_of (ofb P k) with hl | ⟨l', f, t, hl⟩
        · rw [hl] at hos hyes
          obtain ⟨p, c, rfl⟩ := hos.form
          obtain ⟨g, cap, w5, happ, ho5, hg5⟩ := apps_new hos (k : Int) ((k : Int) + 1) (by simp) hbs
          rw [show ([] : Sp).length = 0 from rfl] at happ ho5
          rw [grow_nil] at hyes
          have ho6 : OS w5 B (.slice (some ⟨g, 0, none⟩) (0 + 1) cap) (ofb P (k + 1)) := by rw [hyes]; exact ho5
          have hb6 : Below B w1 w5 := ((hb.alloc hbs _).grown hg5 (by simp; omega) (fun j hj => (World.ownsRow.lt hos j hj).1))
          have HAPP := hid happ; have HO6 := hid ho6; have HB6 := hid hb6
          clear hp hyes hln hl hos hb happ ho5 ho6 hg5 hb6
          go_wp2_with (at_builtin; refine wpList_append_run rfl (.tmp 36) (.tmp 41) 22 22 ?_ _ _ _ ?_ ?_ HAPP.out ?_; exact rfl; exact rfl; exact rfl)
          go_roundw
          case rel => exact ⟨k + 1, by omega, by go_num, HO6.out, HB6.out⟩
          case measure => simp [intOf]; omega
        · rw [hl] at hos hyes hln
          obtain ⟨g, cap, rfl, hBg, hgl, hcl, hcm, e0, e1, ef, hset⟩ := hos.last
          obtain ⟨m, hm⟩ : ∃ m, m = l'.length := ⟨_, rfl⟩
          rw [← hm] at hcl e0 e1 ef hset hos ⊢
          have hm2 : m ≤ 1025 := by rw [hm]; simp at hln; omega
          have hne : w.heap.size ≠ g := by have := HBW.out; omega
          by_cases ht : t = (k : Int)
          · subst ht
            rw [grow_on] at hyes
            have ho6 := hset ((k : Int) + 1)
            rw [← hyes] at ho6
            have HO6 := hid ho6
            have HB6 := hid (hb.setCell (p := ⟨g, m * 2 + 1, none⟩) hBg (.int .i64 ((k : Int) + 1)))
            unfold maxLen at hcm
            clear hp hyes hln hl hos hb ho6 hset hm
            go_wp2
            go_roundw
            case rel => exact ⟨k + 1, by omega, by go_num, HO6.out, HB6.out⟩
            case measure => simp [intOf]; omega
          · rw [grow_off _ _ _ _ ht] at hyes
            have hl1 : (l' ++ [(f, t)]).length = m + 1 := by rw [hm]; simp
            obtain ⟨g2, cap2, w5, happ, ho5, hg5⟩ := apps_new hos (k : Int) ((k : Int) + 1) (by rw [hl1]; omega) hbs
            rw [hl1] at happ ho5
            rw [← hyes] at ho5
            have hb6 : Below B w1 w5 := ((hb.alloc hbs _).grown hg5 (by simp; omega) (fun j hj => (World.ownsRow.lt hos j hj).1))
            have htk : (t == (k : Int)) = false := by simp [ht]
            have HAPP := hid happ; have HO6 := hid ho5; have HB6 := hid hb6
            unfold maxLen at hcm
            clear hp hyes hln hl hos hb happ ho5 hg5 hb6 hset hm hl1 ht
            go_wp2_with (at_builtin; refine wpList_append_run rfl (.tmp 36) (.tmp 41) 22 22 ?_ _ _ _ ?_ ?_ HAPP.out ?_; exact rfl; exact rfl; exact rfl)
            go_roundw
            case rel => exact ⟨k + 1, by omega, by go_num, HO6.out, HB6.out⟩
            case measure => simp [intOf]; omega
      · rw [hp] at hcell
        have ho6 := hos
        rw [← ofb_no hp] at ho6
        have HO6 := hid ho6; have HB6 := hid hb
        clear hp hos hb ho6
        go_wp2
        go_roundw
        case rel => exact ⟨k + 1, by omega, by go_num, HO6.out, HB6.out⟩
        case measure => simp [intOf]; omega
    · have hk2 : k = 1024 := by omega
      rw [hk2] at hos
      have HO := hid hos; have HBB := hid hb
      clear hos hb
      go_wp2
      go_ret
      exact ⟨_, rfl, HO.out.ss, HB1.out.trans (HBB.out.mono (by rw [HBW.out]; omega))⟩
end Go.Proofs.Ytnbhihjhpomenaa

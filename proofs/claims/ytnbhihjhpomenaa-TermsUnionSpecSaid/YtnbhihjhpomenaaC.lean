/- Contracts: slices.Grow of nothing, slices.Concat of two rows of numbers, sorted, within. -/
import Derived.Test.YtnbhihjhpomenaaB
import Derived.Test.YtnbhihjhpomenaaShelf
import Derived.Sort.Row
namespace Go.Proofs.Ytnbhihjhpomenaa
open Go.RowKit Go
set_option linter.unusedVariables false
set_option linter.unusedSimpArgs false
theorem info3 : (Try.prog.info? 3).map (fun i => (i.zero, i.size, i.bytes)) = some (some (.int .i64 0), 1, 8) := by kernel_rfl
theorem grow_zeros (w : World) (n : Nat) (h0 : 0 < n) (hn : n ≤ 1000000) : ∃ cap w', (Builtin.append_ #[42, 3] 42 #[.slice none 0 0, .int .i64 n]).run Try.prog w = .ok (.slice (some ⟨w.heap.size, 0, none⟩) n cap) w' ∧
    n ≤ cap ∧ cap ≤ maxLen ∧ ON w' w.heap.size (.slice (some ⟨w.heap.size, 0, none⟩) 0 cap) [] ∧ Below w.heap.size w w' := by
  obtain ⟨i, hi, hf⟩ := Option.map_eq_some_iff.1 info3
  simp only [Prod.mk.injEq] at hf
  obtain ⟨hz, hs, hb⟩ := hf
  have hr := Lib.run_append_grow_zeros (P := Try.prog) w 42 3 42 3 i (.int .i64 0) .i64 .i64 Try.underlying42 Try.underlying3 hi hz none 0 0 [] (by simp [Builtin.firstCells]) n h0 (by omega) (by omega) (by omega) (by rw [hb]; omega) (growslice_fits (by omega) (by rw [hb]; omega))
  rw [Nat.zero_add] at hr
  have hcm : grownCap w n 0 3 ≤ maxLen := grownCap_le_maxLen w n 0 3 (by unfold maxLen; omega)
  have hge := grownCap_ge w n 0 3
  refine ⟨grownCap w n 0 3, _, hr, hge, hcm, ?_, ((Below.refl _ w).drew).alloc (Nat.le_refl _) _⟩
  refine ⟨by simp, .inr ⟨w.heap.size, _, _, rfl, Nat.le_refl _, heap_alloc_new w.drew _, Nat.zero_le _, hcm, ?_, by simp⟩⟩
  simp [size_zeroCells, Value.cells]
  omega
theorem grow_any (w : World) (n : Nat) (hn : n ≤ 1000000) : Calls Try.prog 41 #[.slice none 0 0, .int .i64 n] w fun e w' => ∃ v, e = .returned v ∧ ON w' w.heap.size v [] ∧ Below w.heap.size w w' := by
  by_cases h0 : 0 < n
  · obtain ⟨cap, w', hr, h1, h2, h3, h4⟩ := grow_zeros w n h0 hn
    have H3 := hid h3; have H4 := hid h4; have H2 := hid h2; have HR := hid hr
    unfold maxLen at h2
    clear h3 h4 hr
    go_enter Try.func41, Try.ntmps41
    go_wp2_with (at_builtin; refine wpList_append_run rfl (.tmp 20) (.tmp 21) 42 3 ?h0 _ _ _ ?h1 ?h2 HR.out ?_; exact rfl; exact rfl; exact rfl)
    go_ret
    exact ⟨_, rfl, H3.out, H4.out⟩
  · obtain rfl : n = 0 := by omega
    go_enter Try.func41, Try.ntmps41
    go_wp2
    go_ret
    exact ⟨_, rfl, on_nil _ _, Below.refl _ _⟩
def pre (l1 l2 : List Int) : Nat → List Int
  | 0 => []
  | 1 => l1
  | _ => l1 ++ l2
def part (l1 l2 : List Int) : Nat → List Int
  | 0 => l1
  | _ => l2
theorem pre_next (l1 l2 : List Int) (k : Nat) (h : k < 2) : pre l1 l2 k ++ part l1 l2 k = pre l1 l2 (k + 1) := by
  rcases (by omega : k = 0 ∨ k = 1) with rfl | rfl <;> simp [pre, part]
theorem pre_le (l1 l2 : List Int) (k : Nat) : (pre l1 l2 k).length ≤ (l1 ++ l2).length := by
  match k with
  | 0 => simp [pre]
  | 1 => simp [pre]
  | n + 2 => simp [pre]
set_option maxRecDepth 100000 in
set_option maxHeartbeats 4000000 in
theorem concat_any (w : World) (gp : Nat) (v1 v2 : Value) (l1 l2 : List Int) (hc1 : w.cell? ⟨gp, 0, none⟩ = some v1) (hc2 : w.cell? ⟨gp, 1, none⟩ = some v2) (hgp : gp < w.heap.size) (h1 : IS w v1 l1) (h2 : IS w v2 l2) (hn : (l1 ++ l2).length ≤ 10000) :
    Calls Try.prog 37 #[.slice (some ⟨gp, 0, none⟩) 2 2] w fun e w' => ∃ v, e = .returned v ∧ ON w' w.heap.size v (l1 ++ l2) ∧ Below w.heap.size w w' := by
  have hpart : ∀ k, k < 2 → ∃ v p cap, w.cell? ⟨gp, k, none⟩ = some v ∧ IS w v (part l1 l2 k) ∧ v = .slice p (part l1 l2 k).length cap := by
    intro k hk
    rcases (by omega : k = 0 ∨ k = 1) with rfl | rfl
    · obtain ⟨p, c, h⟩ := h1.form; exact ⟨v1, p, c, hc1, h1, h⟩
    · obtain ⟨p, c, h⟩ := h2.form; exact ⟨v2, p, c, hc2, h2, h⟩
  have HP := hid hpart; have HGP := hid hgp; have HN := hid hn
  clear hpart hc1 hc2 h1 h2 hn hgp
  go_enter Try.func37, Try.ntmps37
  go_wp2
  go_loop [3, 11] (fun s i => ∃ k : Nat, k ≤ 2 ∧ i = .int .i64 k ∧ s = .int .i64 (pre l1 l2 k).length) (fun _ i => 2 - (intOf i).toNat)
  case atStart => exact ⟨0, by omega, rfl, rfl⟩
  case round =>
    obtain ⟨k, hk, rfl, rfl⟩ := hrel
    by_cases hlt : k < 2
    · obtain ⟨v, p, c, hcell, hb, rfl⟩ := HP.out k hlt
      have hl2 := hid (show (pre l1 l2 k).length + (part l1 l2 k).length = (pre l1 l2 (k + 1)).length by rw [← pre_next l1 l2 k hlt, List.length_append])
      have hb1 : (pre l1 l2 k).length ≤ 10000 := by have := pre_le l1 l2 k; have := HN.out; omega
      have hb2 : (part l1 l2 k).length ≤ 10000 := by have := pre_le l1 l2 (k + 1); have := HN.out; have := hl2.out; omega
      clear hb
      generalize (pre l1 l2 k).length = n1 at *
      generalize (part l1 l2 k).length = n2 at *
      go_wp2
      go_round
      case rel => exact ⟨k + 1, by omega, by go_num, by rw [← hl2.out]; go_num⟩
      case measure => simp [intOf]; omega
    · obtain rfl : k = 2 := by omega
      have hk2 : (pre l1 l2 2).length = (l1 ++ l2).length := rfl
      rw [hk2]
      obtain ⟨n, hnn⟩ : ∃ n, n = (l1 ++ l2).length := ⟨_, rfl⟩
      rw [← hnn]
      have HNN := hid hnn
      have hnb : n ≤ 10000 := by rw [hnn]; exact HN.out
      clear hnn hk2
      go_wp2_with (refine (grow_any w n (by omega)).mono ?_; rintro e w1 ⟨u, rfl, hown, hb1⟩; have HOWN := hid hown; have HB := hid hb1; clear hown hb1)
      go_loopw [6, 27] (fun s i w2 => ∃ j : Nat, j ≤ 2 ∧ i = .int .i64 j ∧ ON w2 w.heap.size s (pre l1 l2 j) ∧ Below w.heap.size w w2) (fun _ i _ => 2 - (intOf i).toNat)
      case atStart => exact ⟨0, by omega, rfl, HOWN.out, HB.out⟩
      case round =>
        obtain ⟨j, hj, rfl, hown, hb⟩ := hrel
        by_cases hlt2 : j < 2
        · obtain ⟨v, p, c, hcell0, hbs, hvf⟩ := HP.out j hlt2
          have hcell := (hb.cell (p := ⟨gp, j, none⟩) HGP.out).trans hcell0
          obtain ⟨v', w3, happ, hown3, hb3⟩ := app_is hown (hbs.ups hb) (by
            have h1 := pre_next l1 l2 j hlt2; have h2 := pre_le l1 l2 (j + 1); have h3 := HN.out
            have h4 : (pre l1 l2 j).length + (part l1 l2 j).length = (pre l1 l2 (j + 1)).length := by rw [← h1, List.length_append]
            omega) hb.size
          rw [pre_next l1 l2 j hlt2] at hown3
          have HAPP := hid happ; have HO3 := hid hown3; have HB3 := hid (hb.trans hb3)
          clear happ hown3 hb3 hcell0 hbs hb hown
          subst hvf
          go_wp2_with (at_builtin; refine wpList_append_run rfl (.tmp 31) (.tmp 32) 42 42 ?h0 _ _ _ ?h1 ?h2 HAPP.out ?_; exact rfl; exact rfl; exact rfl)
          go_roundw
          case rel => exact ⟨j + 1, by omega, by go_num, HO3.out, HB3.out⟩
          case measure => simp [intOf]; omega
        · obtain rfl : j = 2 := by omega
          have HO3 := hid hown; have HB3 := hid hb
          clear hown hb
          go_wp2
          go_ret
          exact ⟨_, rfl, HO3.out, HB3.out⟩
/-- what sorts: the row's own numbers, in order -/
theorem ON.holds {w : World} {base : Nat} {g cap n : Nat} {l : List Int} (h : ON w base (.slice (some ⟨g, 0, none⟩) n cap) l) : Go.Sort.Holds (Value.int .i64) w g 0 l.toArray := by
  rcases h.2 with ⟨h1, _⟩ | ⟨g', cap', cur, h1, hb, hg, hn, hm, hs, ht⟩
  · cases h1
  · simp only [Value.slice.injEq, Option.some.injEq, Addr.mk.injEq, and_true, true_and] at h1
    obtain ⟨rfl, rfl, rfl⟩ := h1
    intro j hj
    have hj' : j < l.length := by simpa using hj
    have hc := World.ownsRow.cells h rfl j (.int .i64 l[j]) (by rw [List.getElem?_map, List.getElem?_eq_getElem hj']; rfl)
    rw [add_plain] at hc
    refine ⟨?_, ?_⟩
    · rw [hc]; simp [hj']
    · simp [World.frozen?, hg]
/-- in order -/
def srt (l : List Int) : List Int := l.mergeSort fun x y => decide (x ≤ y)
theorem srt_mem (l : List Int) (x : Int) : x ∈ srt l ↔ x ∈ l := List.mem_mergeSort
theorem srt_length (l : List Int) : (srt l).length = l.length := List.length_mergeSort _
theorem srt_sorted (l : List Int) : (srt l).Pairwise (· ≤ ·) := by
  have h := List.pairwise_mergeSort (le := fun x y : Int => decide (x ≤ y)) (fun a b c h1 h2 => by simp at *; omega) (fun a b => by simp; omega) l
  exact h.imp (fun h => by simpa using h)
theorem below_sorted {w : World} {base g n : Nat} {d : Array Int} {os : Array Obj} (hg : base ≤ g) (hb : base ≤ w.heap.size) :
    Below base w (Go.Sort.grow (Go.Sort.putRow (Value.int .i64) (Go.Sort.ahead w n) g 0 d) os) := by
  refine ⟨rfl, rfl, rfl, by simp, fun k hk => ?_⟩
  rw [Go.Sort.heap_grow_old _ _ (by simp; omega)]
  simp only [Go.Sort.putRow, Go.Sort.mapBlock, Go.Sort.heap_ahead]
  rw [Array.getElem?_modify, if_neg (by omega)]
theorem sort_any (w : World) (base : Nat) (v : Value) (l : List Int) (h : ON w base v l) (hn : l.length ≤ 10000) (hb : base ≤ w.heap.size) :
    Calls Try.prog 38 #[v] w fun e w' => e = .returned (.tuple #[]) ∧ IS w' v (srt l) ∧ Below base w w' := by
  have h2 := h.2
  rcases h2 with ⟨rfl, hl⟩ | ⟨g, cap, cur, rfl, hbg, hg, hnc, hm, hs, ht⟩
  · obtain rfl := List.eq_nil_of_length_eq_zero hl
    refine (Try.slices_Sort_int_none none 0 w).mono ?_
    rintro e w' ⟨rfl, rfl⟩
    exact ⟨rfl, .inl ⟨rfl, by simp [srt]⟩, Below.refl _ _⟩
  · have hlt : g < w.heap.size := (Array.getElem?_eq_some_iff.1 hg).1
    refine (Try.slices_Sort_int g 0 cap l w h.holds hlt (by omega)).mono ?_
    rintro e w' ⟨rfl, n, os, rfl⟩
    refine ⟨rfl, .inr ⟨_, cap, by rw [srt_length], by rw [srt_length]; exact hnc, hm, ?_, by simp; omega⟩, below_sorted hbg hb⟩
    intro j u hj
    rw [add_plain]
    have hsz : (srt l).toArray.size = l.toArray.size := by simp [srt_length]
    have hj' : j < (srt l).length := by
      have := (List.getElem?_eq_some_iff.1 hj).1
      simpa using this
    have hc := Go.Sort.cell?_putRow (Value.int .i64) (Go.Sort.ahead w n) g 0 l.toArray (srt l).toArray (Go.Sort.holds_ahead _ _ n _ _ _ h.holds) hsz j (by simpa using hj')
    rw [Go.Sort.cell?_grow _ _ _ (by simp; exact hlt)]
    refine hc.trans ?_
    rw [List.getElem?_map, List.getElem?_eq_getElem hj'] at hj
    simpa [hj'] using hj
set_option maxRecDepth 100000 in
theorem sorted_any (w : World) (gp : Nat) (v1 v2 : Value) (l1 l2 : List Int) (hc1 : w.cell? ⟨gp, 0, none⟩ = some v1) (hc2 : w.cell? ⟨gp, 1, none⟩ = some v2) (hgp : gp < w.heap.size) (h1 : IS w v1 l1) (h2 : IS w v2 l2) (hn : (l1 ++ l2).length ≤ 10000) :
    Calls Try.prog 33 #[.slice (some ⟨gp, 0, none⟩) 2 2] w fun e w' => ∃ v, e = .returned v ∧ IS w' v (srt (l1 ++ l2)) ∧ Below w.heap.size w w' := by
  have HC := hid (concat_any w gp v1 v2 l1 l2 hc1 hc2 hgp h1 h2 hn)
  have HN := hid hn
  clear hc1 hc2 hgp h1 h2 hn
  go_enter Try.func33, Try.ntmps33
  go_wp2_with fail
  refine HC.out.mono ?_
  rintro e w1 ⟨v, rfl, hown, hb⟩
  have HO := hid hown; have HB := hid hb
  clear hown hb
  go_wp2_with fail
  refine (sort_any w1 w.heap.size v _ HO.out HN.out HB.out.size).mono ?_
  rintro e w2 ⟨rfl, his, hb2⟩
  have HI := hid his; have HB2 := hid hb2
  clear his hb2
  go_wp2
  go_ret
  exact ⟨v, rfl, HI.out, HB.out.trans HB2.out⟩
theorem below_drewN (w : World) (q B : Nat) : Below B w (w.drewN q) := ⟨rfl, rfl, rfl, Nat.le_refl _, fun _ _ => rfl⟩
theorem search_any (w : World) (v : Value) (A : List Int) (x : Int) (h : IS w v A) (hn : A.length ≤ 10000) (hs : A.Pairwise (· ≤ ·)) :
    Calls Try.prog 39 #[v, .int .i64 (x + 1)] w fun e w' => ∃ b, e = .returned (.tuple #[.int .i64 (T.upto A x : Nat), .bool b]) ∧ Below w.heap.size w w' := by
  rcases h with ⟨rfl, rfl⟩ | ⟨a, cap, rfl, h1, h2, h3, h4⟩
  · refine (Try.slices_BinarySearch_int_empty none 0 (x + 1) w).mono ?_
    rintro e w' ⟨rfl, rfl⟩
    exact ⟨false, rfl, Below.refl _ _⟩
  · cases A with
    | nil =>
      refine (Try.slices_BinarySearch_int_empty (some a) cap (x + 1) w).mono ?_
      rintro e w' ⟨rfl, rfl⟩
      exact ⟨false, rfl, Below.refl _ _⟩
    | cons y ys =>
      have ha : a = ⟨a.block, a.off, none⟩ := by simp only [List.map_cons] at h3; exact h3.spot
      rw [ha]
      refine (Try.slices_BinarySearch_int a.block a.off (y :: ys).length cap (y :: ys) (x + 1) w (Nat.le_refl _) (by omega) (fun j hj => ?_) (by rw [List.take_length]; exact hs)).mono ?_
      · have := h3 j (.int .i64 ((y :: ys).getD j 0)) (by rw [List.getElem?_map, List.getElem?_eq_getElem hj]; simp [List.getD_eq_getElem?_getD, List.getElem?_eq_getElem hj])
        rw [ha, add_plain] at this
        exact this
      · rintro e w' ⟨rfl, q, rfl⟩
        rw [List.take_length]
        exact ⟨_, rfl, below_drewN _ _ _⟩
set_option maxRecDepth 100000 in
theorem within_any (w : World) (v : Value) (A : List Int) (x : Int) (h : IS w v A) (hn : A.length ≤ 10000) (hs : A.Pairwise (· ≤ ·)) (h0 : -1000000 ≤ x) (h1 : x ≤ 1000000) :
    Calls Try.prog 34 #[v, .int .i64 x] w fun e w' => e = .returned (.bool (T.par A x)) ∧ Below w.heap.size w w' := by
  have hle : T.upto A x ≤ 10000 := Nat.le_trans (by unfold T.upto; exact List.countP_le_length) hn
  have HS := hid (search_any w v A x h hn hs)
  obtain ⟨u, hu⟩ : ∃ u, u = T.upto A x := ⟨_, rfl⟩
  rw [← hu] at hle HS
  have hp : T.par A x = decide (u % 2 = 1) := by unfold T.par; rw [hu]
  rw [hp]
  clear hp hu h hn hs
  go_enter Try.func34, Try.ntmps34
  go_wp2_with fail
  refine HS.out.mono ?_
  rintro e w1 ⟨b, rfl, hb⟩
  have HB := hid hb
  clear hb
  go_wp2
  go_ret
  refine ⟨?_, HB.out⟩
  have e : (((u : Int) % 2) == 1) = decide (u % 2 = 1) := by
    rcases Nat.mod_two_eq_zero_or_one u with h | h
    · have h2 : (u : Int) % 2 = 0 := by omega
      simp [h, h2]
    · have h2 : (u : Int) % 2 = 1 := by omega
      simp [h, h2]
  rw [← e]
  rfl
end Go.Proofs.Ytnbhihjhpomenaa

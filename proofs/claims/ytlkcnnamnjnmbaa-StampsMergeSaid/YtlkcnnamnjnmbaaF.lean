/- Contracts: slices.Grow of nothing, slices.Concat of two rows of stamps. -/
import Derived.Test.YtlkcnnamnjnmbaaS
import Derived.Test.YtlkcnnamnjnmbaaBk
import Derived.Laws.OwnMore
import Derived.Lib.AppendZerosOnto
namespace Go.Proofs.Ytlkcnnamnjnmbaa
open Go.RowKit Go
set_option linter.unusedVariables false
set_option linter.unusedSimpArgs false
theorem kc_all (l : List St) : ∀ u ∈ l.flatMap kc, u.oneCell' = true := by
  intro u hu
  obtain ⟨x, _, hx⟩ := List.mem_flatMap.1 hu
  exact kc_one x u hx
theorem app_ks {w : World} {base : Nat} {v u : Value} {l m : List St} (h : KO w base v l) (hu : KS w u m) (hn : l.length + m.length ≤ 1000000) (hb : base ≤ w.heap.size) :
    ∃ v' w', (Builtin.append_ #[33, 33] 33 #[v, u]).run Try.prog w = .ok v' w' ∧ KO w' base v' (l ++ m) ∧ Below base w w' := by
  obtain ⟨i, hi, hf⟩ := Option.map_eq_some_iff.1 info23
  simp only [Prod.mk.injEq] at hf
  obtain ⟨hz, hs, hby⟩ := hf
  obtain ⟨z, hz, hzs⟩ := Option.map_eq_some_iff.1 hz
  rcases hu with ⟨rfl, rfl⟩ | ⟨a, c, rfl, h2, h3, h4, h5⟩
  · have hr := run_append_owned_none (P := Try.prog) (w := w) base 33 33 23 i 3 Try.underlying33 hi _ _ _ h
    exact ⟨v, w, hr, by simpa using h, Below.refl _ _⟩
  · obtain ⟨v', w', h6, h7, h8, h9⟩ := run_append_own (P := Try.prog) w base 33 33 23 i z 3 24 Try.underlying33 hi hz hs hby hzs (by omega) v l.length _ h a m.length c (m.flatMap kc) (by rw [flat_length kc 3 kc_len]) h4 (kc_all m) (by unfold maxLen; omega) (by omega) hb
    refine ⟨v', w', h6, ?_, (Below.refl base w).grown h8 hb (fun k hk => (World.ownsRow.lt h k hk).1)⟩
    unfold KO GO
    rw [List.length_append, List.flatMap_append]; exact h7
theorem grow_zeros (w : World) (n : Nat) (h0 : 0 < n) (hn : n ≤ 1000000) : ∃ cap w', (Builtin.append_ #[33, 3] 33 #[.slice none 0 0, .int .i64 n]).run Try.prog w = .ok (.slice (some ⟨w.heap.size, 0, none⟩) n cap) w' ∧
    n ≤ cap ∧ cap ≤ maxLen ∧ KO w' w.heap.size (.slice (some ⟨w.heap.size, 0, none⟩) 0 cap) [] ∧ Below w.heap.size w w' := by
  obtain ⟨i, hi, hf⟩ := Option.map_eq_some_iff.1 info23
  simp only [Prod.mk.injEq] at hf
  obtain ⟨hz, hs, hb⟩ := hf
  obtain ⟨z, hz, hzs⟩ := Option.map_eq_some_iff.1 hz
  have hr := Lib.run_append_grow_zeros (P := Try.prog) w 33 3 33 23 i z .i64 .i64 Try.underlying33 Try.underlying3 hi hz none 0 0 [] (by simp [Builtin.firstCells]) n h0 (by omega) (by omega) (by omega) (by rw [hb]; omega) (growslice_fits (by omega) (by rw [hb]; omega))
  rw [Nat.zero_add] at hr
  have hcm : grownCap w n 0 23 ≤ maxLen := grownCap_le_maxLen w n 0 23 (by unfold maxLen; omega)
  have hge := grownCap_ge w n 0 23
  refine ⟨grownCap w n 0 23, _, hr, hge, hcm, ?_, ((Below.refl _ w).drew).alloc (Nat.le_refl _) _⟩
  refine ⟨by simp, .inr ⟨w.heap.size, _, _, rfl, Nat.le_refl _, heap_alloc_new w.drew _, Nat.zero_le _, hcm, ?_, by simp⟩⟩
  simp [size_zeroCells, hzs]
  omega
theorem grow_any (w : World) (n : Nat) (hn : n ≤ 1000000) : Calls Try.prog 36 #[.slice none 0 0, .int .i64 n] w fun e w' => ∃ v, e = .returned v ∧ KO w' w.heap.size v [] ∧ Below w.heap.size w w' := by
  by_cases h0 : 0 < n
  · obtain ⟨cap, w', hr, h1, h2, h3, h4⟩ := grow_zeros w n h0 hn
    have H3 := hid h3; have H4 := hid h4; have H2 := hid h2; have HR := hid hr
    unfold maxLen at h2
    clear h3 h4 hr
    go_enter Try.func36, Try.ntmps36
    go_wp2_with (at_builtin; refine wpList_append_run rfl (.tmp 20) (.tmp 21) 33 3 ?h0 _ _ _ ?h1 ?h2 HR.out ?_; exact rfl; exact rfl; exact rfl)
    go_ret
    exact ⟨_, rfl, H3.out, H4.out⟩
  · obtain rfl : n = 0 := by omega
    go_enter Try.func36, Try.ntmps36
    go_wp2
    go_ret
    exact ⟨_, rfl, go_nil _ _, Below.refl _ _⟩
def pre (l1 l2 : List St) : Nat → List St
  | 0 => []
  | 1 => l1
  | _ => l1 ++ l2
def part (l1 l2 : List St) : Nat → List St
  | 0 => l1
  | _ => l2
theorem pre_next (l1 l2 : List St) (k : Nat) (h : k < 2) : pre l1 l2 k ++ part l1 l2 k = pre l1 l2 (k + 1) := by
  rcases (by omega : k = 0 ∨ k = 1) with rfl | rfl <;> simp [pre, part]
theorem pre_le (l1 l2 : List St) (k : Nat) : (pre l1 l2 k).length ≤ (l1 ++ l2).length := by
  match k with
  | 0 => simp [pre]
  | 1 => simp [pre]
  | n + 2 => simp [pre]
set_option maxRecDepth 100000 in
set_option maxHeartbeats 4000000 in
theorem concat_any (w : World) (gp : Nat) (v1 v2 : Value) (l1 l2 : List St) (hc1 : w.cell? ⟨gp, 0, none⟩ = some v1) (hc2 : w.cell? ⟨gp, 1, none⟩ = some v2) (hgp : gp < w.heap.size) (h1 : KS w v1 l1) (h2 : KS w v2 l2) (hn : (l1 ++ l2).length ≤ 10000) :
    Calls Try.prog 34 #[.slice (some ⟨gp, 0, none⟩) 2 2] w fun e w' => ∃ v, e = .returned v ∧ KO w' w.heap.size v (l1 ++ l2) ∧ Below w.heap.size w w' := by
  have hpart : ∀ k, k < 2 → ∃ v p cap, w.cell? ⟨gp, k, none⟩ = some v ∧ KS w v (part l1 l2 k) ∧ v = .slice p (part l1 l2 k).length cap := by
    intro k hk
    rcases (by omega : k = 0 ∨ k = 1) with rfl | rfl
    · obtain ⟨p, c, h⟩ := h1.form; exact ⟨v1, p, c, hc1, h1, h⟩
    · obtain ⟨p, c, h⟩ := h2.form; exact ⟨v2, p, c, hc2, h2, h⟩
  have HP := hid hpart; have HGP := hid hgp; have HN := hid hn
  clear hpart hc1 hc2 h1 h2 hn hgp
  go_enter Try.func34, Try.ntmps34
  go_wp2
  go_loop [3, 11] (fun s i => ∃ k : Nat, k ≤ 2 ∧ i = .int .i64 k ∧ s = .int .i64 (pre l1 l2 k).length) (fun _ i => 2 - (intOf i).toNat)
  case atStart => exact ⟨0, by omega, rfl, rfl⟩
  case round =>
    obtain ⟨k, hk, rfl, rfl⟩ := hrel
    by_cases hlt : k < 2
    · obtain ⟨v, p, c, hcell, hb, rfl⟩ := HP.out k hlt
      have hl2 := hid (show (pre l1 l2 k).length + (part l1 l2 k).length = (pre l1 l2 (k + 1)).length by rw [← pre_next l1 l2 k hlt, List.length_append])
      have hb1 : (pre l1 l2 k).length ≤ 10000 := by have := pre_le l1 l2 k; have := HN.out; omega
      have hb2 : (part l1 l2 k).length ≤ 10000 := by have := pre_le l1 l2 (k + 1); have := HN.out; have := hl2.out; omega
      clear hb
      generalize (pre l1 l2 k).length = n1 at *
      generalize (part l1 l2 k).length = n2 at *
      go_wp2
      go_round
      case rel => exact ⟨k + 1, by omega, by go_num, by rw [← hl2.out]; go_num⟩
      case measure => simp [intOf]; omega
    · obtain rfl : k = 2 := by omega
      have hk2 : (pre l1 l2 2).length = (l1 ++ l2).length := rfl
      rw [hk2]
      obtain ⟨n, hnn⟩ : ∃ n, n = (l1 ++ l2).length := ⟨_, rfl⟩
      rw [← hnn]
      have HNN := hid hnn
      have hnb : n ≤ 10000 := by rw [hnn]; exact HN.out
      clear hnn hk2
      go_wp2_with (refine (grow_any w n (by omega)).mono ?_; rintro e w1 ⟨u, rfl, hown, hb1⟩; have HOWN := hid hown; have HB := hid hb1; clear hown hb1)
      go_loopw [6, 27] (fun s i w2 => ∃ j : Nat, j ≤ 2 ∧ i = .int .i64 j ∧ KO w2 w.heap.size s (pre l1 l2 j) ∧ Below w.heap.size w w2) (fun _ i _ => 2 - (intOf i).toNat)
      case atStart => exact ⟨0, by omega, rfl, HOWN.out, HB.out⟩
      case round =>
        obtain ⟨j, hj, rfl, hown, hb⟩ := hrel
        by_cases hlt2 : j < 2
        · obtain ⟨v, p, c, hcell0, hbs, hvf⟩ := HP.out j hlt2
          have hcell := (hb.cell (p := ⟨gp, j, none⟩) HGP.out).trans hcell0
          obtain ⟨v', w3, happ, hown3, hb3⟩ := app_ks hown (hbs.ups hb) (by
            have h1 := pre_next l1 l2 j hlt2; have h2 := pre_le l1 l2 (j + 1); have h3 := HN.out
            have h4 : (pre l1 l2 j).length + (part l1 l2 j).length = (pre l1 l2 (j + 1)).length := by rw [← h1, List.length_append]
            omega) hb.size
          rw [pre_next l1 l2 j hlt2] at hown3
          have HAPP := hid happ; have HO3 := hid hown3; have HB3 := hid (hb.trans hb3)
          clear happ hown3 hb3 hcell0 hbs hb hown
          subst hvf
          go_wp2_with (at_builtin; refine wpList_append_run rfl (.tmp 31) (.tmp 32) 33 33 ?h0 _ _ _ ?h1 ?h2 HAPP.out ?_; exact rfl; exact rfl; exact rfl)
          go_roundw
          case rel => exact ⟨j + 1, by omega, by go_num, HO3.out, HB3.out⟩
          case measure => simp [intOf]; omega
        · obtain rfl : j = 2 := by omega
          have HO3 := hid hown; have HB3 := hid hb
          clear hown hb
          go_wp2
          go_ret
          exact ⟨_, rfl, HO3.out, HB3.out⟩

end Go.Proofs.Ytlkcnnamnjnmbaa

/- Contract of joining two byte slices: the bytes of both, in new memory. -/
import Derived.Test.YtaoehkoffhnidaaDoorDG
import Derived.Lib.ConvBytes
import Derived.Lib.AppendZerosOnto
import Derived.Laws.OwnMore
import Derived.Deep.AppendSrc
namespace Go.Proofs.YtaoehkoffhnidaaDoor.Dg
open Go.RowKit Go
set_option linter.unusedVariables false
set_option maxRecDepth 20000
set_option linter.unusedSimpArgs false
/-- a row of the call's own that holds the bytes l, with capacity cap -/
def Own (w : World) (base g cap : Nat) (l : List UInt8) : Prop := w.ownsRow base 5 1 (.slice (some ⟨g, 0, none⟩) l.length cap) l.length (l.map vb)
theorem Own.cells {w : World} {base g cap : Nat} {l : List UInt8} (h : Own w base g cap l) : Cells w ⟨g, 0, none⟩ (l.map vb) := fun j v hj => World.ownsRow.cells h rfl j v hj
theorem Own.bs {w : World} {base g cap : Nat} {l : List UInt8} (h : Own w base g cap l) : BS w (.slice (some ⟨g, 0, none⟩) l.length cap) l := by
  rcases h.2 with ⟨h1, _⟩ | ⟨g', cap', cur, h1, h2, h3, h4, h5, _⟩
  · simp at h1
  · simp only [Value.slice.injEq, Option.some.injEq, Addr.mk.injEq, and_true, true_and] at h1
    obtain ⟨rfl, rfl⟩ := h1
    exact .inr ⟨_, cap, rfl, h4, h5, h.cells, (h.lt g rfl).2⟩
theorem append_own {w : World} {base g cap : Nat} {l b : List UInt8} {v : Value} (h : Own w base g cap l) (hv : BS w v b) (hroom : l.length + b.length ≤ cap) :
    ∃ w', (Builtin.append_ #[22, 22] 22 #[.slice (some ⟨g, 0, none⟩) l.length cap, v]).run Tryd.prog w = .ok (.slice (some ⟨g, 0, none⟩) (l ++ b).length cap) w' ∧ Own w' base g cap (l ++ b) ∧ w.grownBy w' (some g) := by
  obtain ⟨i, hi, hf⟩ := Option.map_eq_some_iff.1 Tryd.info5
  simp only [Prod.mk.injEq] at hf
  obtain ⟨hz, hs, hb⟩ := hf
  rcases hv with ⟨rfl, rfl⟩ | ⟨a, c, rfl, h2, h3, h4, h5⟩
  · have hr := run_append_owned_none (P := Tryd.prog) (w := w) base 22 22 5 i 1 Tryd.underlying22 hi _ _ _ h
    exact ⟨w, by rw [hr]; simp, by simpa using h, ⟨rfl, rfl, rfl, Nat.le_refl _, fun _ _ _ => rfl⟩⟩
  · obtain ⟨w', h6, h7, h8⟩ := run_append_fits (P := Tryd.prog) w base 22 22 5 i 1 Tryd.underlying22 hi hs g _ cap _ h a b.length c (b.map vb) (by simp) h4 (one_vb b) hroom
    refine ⟨w', by rw [h6, List.length_append], ?_, h8⟩
    unfold Own
    rw [List.length_append, List.map_append]; exact h7
theorem grow_zeros (w : World) (n : Nat) (h0 : 0 < n) (hn : n ≤ 70368744177664) : ∃ cap w', (Builtin.append_ #[22, 3] 22 #[.slice none 0 0, .int .i64 n]).run Tryd.prog w = .ok (.slice (some ⟨w.heap.size, 0, none⟩) n cap) w' ∧
    n ≤ cap ∧ cap ≤ maxLen ∧ Own w' w.heap.size w.heap.size cap [] ∧ Below w.heap.size w w' ∧ w'.heap.size = w.heap.size + 1 := by
  obtain ⟨i, hi, hf⟩ := Option.map_eq_some_iff.1 Tryd.info5
  simp only [Prod.mk.injEq] at hf
  obtain ⟨hz, hs, hb⟩ := hf
  have hr := Lib.run_append_grow_zeros (P := Tryd.prog) w 22 3 22 5 i (.int .u8 0) .i64 .i64 Tryd.underlying22 Tryd.underlying3 hi hz none 0 0 [] (by simp [Builtin.firstCells]) n h0 (by omega) (by omega) (by omega) (by rw [hb]; omega) (growslice_fits (by omega) (by rw [hb]; omega))
  rw [Nat.zero_add] at hr
  have hcm : grownCap w n 0 5 ≤ maxLen := grownCap_le_maxLen w n 0 5 (by unfold maxLen; omega)
  have hge := grownCap_ge w n 0 5
  refine ⟨grownCap w n 0 5, _, hr, hge, hcm, ?_, ((Below.refl _ w).drew).alloc (Nat.le_refl _) _, by simp⟩
  refine ⟨by simp, .inr ⟨w.heap.size, _, _, rfl, Nat.le_refl _, heap_alloc_new w.drew _, Nat.zero_le _, hcm, ?_, by simp⟩⟩
  simp [size_zeroCells, Value.cells]
  omega
theorem wpList_append_run {P : Program} {w w' : World} {ops : Array Oper} {rest : List Oper} {o : Oper} {a : Act} {Q : Exit → Act → World → Prop}
    (hg : o.guard = none) (s x : Operand) (t u : TypeId) (hop : o.op = Op.call { callee := Callee.builtin Builtin.append, args := #[s, x], argTypes := #[t, u] })
    (vs vx r : Value) (hs : a.eval s = vs) (hx : a.eval x = vx) (hrun : (Builtin.append_ #[t, u] o.type #[vs, vx]).run P w = .ok r w') (hK : wpList P ops Q rest (a.put o.dst r) w') :
    wpList P ops Q (o :: rest) a w := by
  refine wpList_plain hg fun K hK' => ?_
  unfold Oper.wp
  simp [execOp, hop, resolve, invoke, builtin, hs, hx, hrun, Result.andThen]
  exact hK' _ _ hK
theorem grow_any (w : World) (n : Nat) (h0 : 0 < n) (hn : n ≤ 70368744177664) : Calls Tryd.prog 96 #[.slice none 0 0, .int .i64 n] w fun e w' => ∃ cap, e = .returned (.slice (some ⟨w.heap.size, 0, none⟩) 0 cap) ∧ n ≤ cap ∧ cap ≤ maxLen ∧ Own w' w.heap.size w.heap.size cap [] ∧ Below w.heap.size w w' ∧ w'.heap.size = w.heap.size + 1 := by
  obtain ⟨cap, w', hr, h1, h2, h3, h4, h5⟩ := grow_zeros w n h0 hn
  have H3 := hid h3; have H4 := hid h4; have H5 := hid h5; have H2 := hid h2; have HR := hid hr
  unfold maxLen at h2
  clear h3 h4 h5 hr
  go_enter Tryd.func96, Tryd.ntmps96
  go_wp2_with (refine wpList_append_run rfl (.tmp 20) (.tmp 21) 22 3 rfl _ _ _ rfl rfl HR.out ?_)
  go_ret
  exact ⟨cap, rfl, h1, H2.out, H3.out, H4.out, H5.out⟩
def pre (l1 l2 : List UInt8) : Nat → List UInt8
  | 0 => []
  | 1 => l1
  | _ => l1 ++ l2
def part (l1 l2 : List UInt8) : Nat → List UInt8
  | 0 => l1
  | _ => l2
theorem pre_next (l1 l2 : List UInt8) (k : Nat) (h : k < 2) : pre l1 l2 k ++ part l1 l2 k = pre l1 l2 (k + 1) := by
  rcases (by omega : k = 0 ∨ k = 1) with rfl | rfl <;> simp [pre, part]
theorem pre_le (l1 l2 : List UInt8) (k : Nat) : (pre l1 l2 k).length ≤ (l1 ++ l2).length := by
  match k with
  | 0 => simp [pre]
  | 1 => simp [pre]
  | n + 2 => simp [pre]
theorem BS.form {w : World} {v : Value} {l : List UInt8} (h : BS w v l) : ∃ p cap, v = .slice p l.length cap := by
  rcases h with ⟨rfl, rfl⟩ | ⟨a, c, rfl, _⟩
  · exact ⟨none, 0, rfl⟩
  · exact ⟨some a, c, rfl⟩
set_option maxRecDepth 100000 in
set_option maxHeartbeats 4000000 in
theorem concat_any (w : World) (gp : Nat) (v1 v2 : Value) (l1 l2 : List UInt8) (hc : Cells w ⟨gp, 0, none⟩ [v1, v2]) (h1 : BS w v1 l1) (h2 : BS w v2 l2) (h0 : 0 < l1.length) (hn : (l1 ++ l2).length ≤ 70368744177664) :
    Calls Tryd.prog 84 #[.slice (some ⟨gp, 0, none⟩) 2 2] w fun e w' => ∃ v, e = .returned v ∧ BS w' v (l1 ++ l2) ∧ Below w.heap.size w w' := by
  have hpart : ∀ k, k < 2 → ∃ v p cap, [v1, v2][k]? = some v ∧ BS w v (part l1 l2 k) ∧ v = .slice p (part l1 l2 k).length cap := by
    intro k hk
    rcases (by omega : k = 0 ∨ k = 1) with rfl | rfl
    · obtain ⟨p, c, h⟩ := h1.form; exact ⟨v1, p, c, rfl, h1, h⟩
    · obtain ⟨p, c, h⟩ := h2.form; exact ⟨v2, p, c, rfl, h2, h⟩
  have HP := hid hpart; have HC := hid hc
  have HGP := hid (show gp < w.heap.size from hc.lt (by simp))
  have hn1 : (l1 ++ l2).length < 70368744177665 := by omega
  have HN := hid hn1
  have hpos : 0 < (l1 ++ l2).length := by simp; omega
  have HPOS := hid hpos
  clear hpart hc h1 h2 hn h0 hn1 hpos
  go_enter Tryd.func84, Tryd.ntmps84
  go_wp2
  go_loop [3, 11] (fun s i => ∃ k : Nat, k ≤ 2 ∧ i = .int .i64 k ∧ s = .int .i64 (pre l1 l2 k).length) (fun _ i => 2 - (intOf i).toNat)
  case atStart => exact ⟨0, by omega, rfl, rfl⟩
  case round =>
    obtain ⟨k, hk, rfl, rfl⟩ := hrel
    by_cases hlt : k < 2
    · obtain ⟨v, p, c, hv, hb, rfl⟩ := HP.out k hlt
      have hcell := HC.out.at0 hv
      have hl := hid (show (pre l1 l2 k).length + (part l1 l2 k).length = (pre l1 l2 (k + 1)).length by rw [← pre_next l1 l2 k hlt, List.length_append])
      have hb1 : (pre l1 l2 k).length < 70368744177665 := by have := pre_le l1 l2 k; have := HN.out; omega
      have hb2 : (part l1 l2 k).length < 70368744177665 := by have := pre_le l1 l2 (k + 1); have := HN.out; have := hl.out; omega
      clear hv hb
      generalize (pre l1 l2 k).length = n1 at *
      generalize (part l1 l2 k).length = n2 at *
      go_wp2
      go_round
      case rel => exact ⟨k + 1, by omega, by go_num, by rw [← hl.out]; go_num⟩
      case measure => simp [intOf]; omega
    · have hk2 := hid (show pre l1 l2 k = l1 ++ l2 by have : k = 2 := by omega
                                                      subst this; rfl)
      rw [hk2.out]
      obtain ⟨n, hnn⟩ : ∃ n, n = (l1 ++ l2).length := ⟨_, rfl⟩
      rw [← hnn]
      have HNN := hid hnn; clear hnn
      have hd0 : decide ((k : Int) < 2) = false := by simp; omega
      go_wp2_with fail
      refine (grow_any w n (by rw [HNN.out]; exact HPOS.out) (by rw [HNN.out]; have := HN.out; omega)).mono ?_
      rintro e w1 ⟨cap, rfl, hcap, hcm, hown, hb1, hs1⟩
      obtain ⟨g, hg⟩ : ∃ g, g = w.heap.size := ⟨_, rfl⟩
      rw [← hg] at hown ⊢
      have HG := hid hg; have HOWN := hid hown; have HB := hid hb1; have HCAP := hid hcap
      clear hg hown hb1 hs1 hcap hcm hd0
      go_wp2
      go_loopw [6, 27] (fun s i w2 => ∃ j : Nat, j ≤ 2 ∧ i = .int .i64 j ∧ s = .slice (some ⟨g, 0, none⟩) (pre l1 l2 j).length cap ∧ Own w2 g g cap (pre l1 l2 j) ∧ Below w.heap.size w w2) (fun _ i _ => 2 - (intOf i).toNat)
      case atStart => exact ⟨0, by omega, rfl, rfl, HOWN.out, HB.out⟩
      case round =>
        obtain ⟨j, hj, rfl, rfl, hown, hb⟩ := hrel
        by_cases hlt2 : j < 2
        · obtain ⟨v, p, c, hv, hbs, hvf⟩ := HP.out j hlt2
          have hcell := (HC.out.up hb HGP.out).at0 hv
          obtain ⟨w3, happ, hown3, hgr3⟩ := append_own hown (hbs.ups hb) (by have h1 := pre_next l1 l2 j hlt2; have h2 := pre_le l1 l2 (j + 1); rw [← h1] at h2; have h3 := HCAP.out; have h4 := HNN.out; simp only [List.length_append] at h2 h4; omega)
          rw [pre_next l1 l2 j hlt2] at happ hown3
          have HAPP := hid happ; have HO3 := hid hown3
          have HB3 := hid (hb.grown hgr3 hb.size (fun i e => by cases e; rw [HG.out]; exact Nat.le_refl _))
          clear happ hown3 hgr3 hv hbs hvf hb hown
          go_wp2_with (refine wpList_append_run rfl (.tmp 31) (.tmp 32) 22 22 rfl _ _ _ rfl rfl HAPP.out ?_)
          go_roundw
          case rel => exact ⟨j + 1, by omega, by go_num, rfl, HO3.out, HB3.out⟩
          case measure => simp [intOf]; omega
        · have hj2 := hid (show pre l1 l2 j = l1 ++ l2 by have : j = 2 := by omega
                                                          subst this; rfl)
          have HO3 := hid hown; have HB3 := hid hb
          clear hown hb
          go_wp2
          go_ret
          refine ⟨_, rfl, ?_, HB3.out⟩
          have := HO3.out.bs
          rw [hj2.out] at this ⊢
          exact this
end Go.Proofs.YtaoehkoffhnidaaDoor.Dg

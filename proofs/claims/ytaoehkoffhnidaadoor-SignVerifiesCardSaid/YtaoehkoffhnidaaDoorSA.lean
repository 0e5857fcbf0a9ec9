/- Numbers as eight bytes: the program's, the law's and the reference's. -/
import Derived.Test.YtaoehkoffhnidaaDoorDOb
namespace Go.Proofs.YtaoehkoffhnidaaDoor.Dg
open Go.RowKit Go
set_option linter.unusedVariables false
set_option maxRecDepth 20000
set_option linter.unusedSimpArgs false
/-- the eight bytes of a number -/
def w8 (n : Int) : List UInt8 := be8 (n % 18446744073709551616).toNat
theorem w8_length (n : Int) : (w8 n).length = 8 := be8_length _
/-- behind k rounds of filling from the end -/
def wk (n : Int) (k : Nat) : List UInt8 := List.replicate (8 - k) 0 ++ (w8 n).drop (8 - k)
theorem wk_length (n : Int) (k : Nat) (hk : k ≤ 8) : (wk n k).length = 8 := by simp [wk, w8_length, hk]
theorem wk_zero (n : Int) : wk n 0 = List.replicate 8 0 := by
  have : (w8 n).drop 8 = [] := by rw [List.drop_eq_nil_iff]; rw [w8_length]; omega
  simp [wk, this]
theorem wk_last (n : Int) : wk n 8 = w8 n := by simp [wk]
theorem wk_set (n : Int) (k : Nat) (hk : k < 8) : (wk n k).set (7 - k) (UInt8.ofNat ((n % 18446744073709551616).toNat >>> (8 * k))) = wk n (k + 1) := by
  unfold wk
  rw [show 8 - k = (7 - k) + 1 from by omega, List.replicate_succ']
  rw [List.append_assoc, List.set_append_right _ _ (by simp), List.length_replicate, Nat.sub_self, show 8 - (k + 1) = 7 - k from by omega]
  congr 1
  rw [List.singleton_append, List.set_cons_zero, List.drop_eq_getElem_cons (i := 7 - k) (by rw [w8_length]; omega)]
  congr 1
  simp [w8, be8, show 7 - (7 - k) = k from by omega]
/-- a byte of a number: of the number itself, of its remainder -/
theorem byte_of_shift (n : Int) (k : Nat) (hk : k < 8) : n / 2 ^ (8 * k) % 256 = ((UInt8.ofNat ((n % 18446744073709551616).toNat >>> (8 * k))).toNat : Int) := by
  rw [byte_ofNat, Nat.shiftRight_eq_div_pow]
  push_cast
  rcases (by omega : k = 0 ∨ k = 1 ∨ k = 2 ∨ k = 3 ∨ k = 4 ∨ k = 5 ∨ k = 6 ∨ k = 7) with rfl | rfl | rfl | rfl | rfl | rfl | rfl | rfl <;> simp <;> omega
theorem byte_of_shift' (n : Int) (k : Nat) (hk : k < 8) : n % 18446744073709551616 / 2 ^ (8 * k) % 256 = ((UInt8.ofNat ((n % 18446744073709551616).toNat >>> (8 * k))).toNat : Int) := by
  rw [byte_ofNat, Nat.shiftRight_eq_div_pow]
  push_cast
  rcases (by omega : k = 0 ∨ k = 1 ∨ k = 2 ∨ k = 3 ∨ k = 4 ∨ k = 5 ∨ k = 6 ∨ k = 7) with rfl | rfl | rfl | rfl | rfl | rfl | rfl | rfl <;> simp <;> omega
set_option maxRecDepth 100000 in
set_option maxHeartbeats 4000000 in
theorem eight_any (n : Int) (w : World) : Calls Tryd.prog 53 #[.int .i64 n] w fun e w' => e = .returned (.slice (some ⟨w.heap.size, 0, none⟩) 8 8) ∧ BS w' (.slice (some ⟨w.heap.size, 0, none⟩) 8 8) (w8 n) ∧ Below w.heap.size w w' := by
  obtain ⟨W, hmk, hrow, hb, hsz⟩ := make_bytes w 8 8 rfl (by omega)
  obtain ⟨g, hg⟩ : ∃ g, g = w.heap.size := ⟨_, rfl⟩
  rw [← hg] at hmk hrow ⊢
  have HG := hid hg
  have HG2 := hid (show g < W.heap.size by omega)
  have HB := hid hb
  have h0c : Hid (Cells W ⟨g, 0, none⟩ ((wk n 0).map vb)) := by rw [wk_zero]; exact cells_of_block hrow
  have h0f : Hid (Free W g) := free_of_block hrow
  clear hrow hb hsz hg
  go_enter Tryd.func53, Tryd.ntmps53
  go_wp2
  clear hmk
  go_loopw [8] (fun i w1 => ∃ k : Nat, k ≤ 8 ∧ i = .int .i64 k ∧ Cells w1 ⟨g, 0, none⟩ ((wk n k).map vb) ∧ Free w1 g ∧ Below w.heap.size w w1 ∧ g < w1.heap.size) (fun i _ => 8 - (intOf i).toNat)
  case atStart => exact ⟨0, by omega, rfl, h0c.out, h0f.out, HB.out, HG2.out⟩
  case round =>
    clear h0c h0f
    obtain ⟨k, hk, rfl, hcs, hfr, hb3, hs3⟩ := hrel
    by_cases hlt2 : k < 8
    · obtain ⟨x1, hx1⟩ := byte_there hcs (j := 7 - k) (by rw [wk_length _ _ hk]; omega)
      have hfx := hfr (7 - k)
      have e1 : ((7 : Int) - (k : Int)).toNat = 7 - k := by omega
      have HCS3 := hid hcs; have HFR3 := hid hfr; have HB3 := hid hb3; have HS3 := hid hs3
      clear hcs hfr hb3 hs3
      go_wp2
      go_roundw
      case rel => exact ⟨k + 1, by omega, by go_num, by have h := byte_put (t := 7 - k) HCS3.out (byte_of_shift n k hlt2); rw [wk_set n k hlt2] at h; exact h, HFR3.out.set _ _, HB3.out.setCell (by show w.heap.size ≤ g; rw [HG.out]; omega) _, by simpa using HS3.out⟩
      case measure => simp [intOf]; omega
    · have hk8 := hid (show k = 8 by omega)
      have HCS3 := hid hcs; have HB3 := hid hb3; have HS3 := hid hs3
      clear hcs hfr hb3 hs3
      go_wp2
      go_ret
      have hc8 := HCS3.out
      rw [hk8.out, wk_last] at hc8
      exact ⟨rfl, .inr ⟨_, 8, by rw [w8_length], by rw [w8_length]; omega, by unfold maxLen; omega, hc8, HS3.out⟩, by have h := HB3.out; rw [← HG.out] at h; exact h⟩
end Go.Proofs.YtaoehkoffhnidaaDoor.Dg
namespace Go.Proofs.YtaoehkoffhnidaaDoor.Dg
open Go.RowKit Go
set_option linter.unusedVariables false
set_option maxRecDepth 20000
set_option linter.unusedSimpArgs false
/-- the bytes of the first k parts -/
def pre' (ls : List (List UInt8)) (k : Nat) : List UInt8 := (ls.take k).flatten
theorem pre'_next (ls : List (List UInt8)) (k : Nat) (l : List UInt8) (h : ls[k]? = some l) : pre' ls k ++ l = pre' ls (k + 1) := by
  unfold pre'
  rw [List.take_add_one, h]; simp
theorem pre'_le (ls : List (List UInt8)) (k : Nat) : (pre' ls k).length ≤ ls.flatten.length := by
  unfold pre'
  conv => rhs; rw [← List.take_append_drop k ls, List.flatten_append, List.length_append]
  omega
theorem pre'_all (ls : List (List UInt8)) : pre' ls ls.length = ls.flatten := by unfold pre'; rw [List.take_length]
set_option maxRecDepth 100000 in
set_option maxHeartbeats 4000000 in
theorem concats_any (w : World) (gp N : Nat) (vs : List Value) (ls : List (List UInt8)) (hc : Cells w ⟨gp, 0, none⟩ vs) (hgp : gp < w.heap.size) (hN : N = ls.length)
    (hparts : ∀ k, k < N → ∃ v l, vs[k]? = some v ∧ ls[k]? = some l ∧ BS w v l) (h0 : 0 < ls.flatten.length) (hn : ls.flatten.length ≤ 70368744177664) (hN2 : N ≤ 1000) :
    Calls Tryd.prog 84 #[.slice (some ⟨gp, 0, none⟩) N N] w fun e w' => ∃ v, e = .returned v ∧ BS w' v ls.flatten ∧ Below w.heap.size w w' := by
  have hpart : ∀ k, k < N → ∃ v l p cap, vs[k]? = some v ∧ ls[k]? = some l ∧ BS w v l ∧ v = .slice p l.length cap := by
    intro k hk
    obtain ⟨v, l, h1, h2, h3⟩ := hparts k hk
    obtain ⟨p, c, h⟩ := h3.form
    exact ⟨v, l, p, c, h1, h2, h3, h⟩
  have HP := hid hpart; have HC := hid hc
  have HGP := hid hgp
  have hn1 : ls.flatten.length < 70368744177665 := by omega
  have HN := hid hn1
  have HPOS := hid h0
  have HNL := hid hN
  clear hpart hparts hc hn h0 hn1 hN hgp
  go_enter Tryd.func84, Tryd.ntmps84
  go_wp2
  go_loop [3, 11] (fun s i => ∃ k : Nat, k ≤ N ∧ i = .int .i64 k ∧ s = .int .i64 (pre' ls k).length) (fun _ i => N - (intOf i).toNat)
  case atStart => exact ⟨0, by omega, rfl, rfl⟩
  case round =>
    obtain ⟨k, hk, rfl, rfl⟩ := hrel
    by_cases hlt : k < N
    · obtain ⟨v, l, p, c, hv, hl, hb, rfl⟩ := HP.out k hlt
      have hcell := HC.out.at0 hv
      have hl2 := hid (show (pre' ls k).length + l.length = (pre' ls (k + 1)).length by rw [← pre'_next ls k l hl, List.length_append])
      have hb1 : (pre' ls k).length < 70368744177665 := by have := pre'_le ls k; have := HN.out; omega
      have hb2 : l.length < 70368744177665 := by have := pre'_le ls (k + 1); have := HN.out; have := hl2.out; omega
      clear hv hb hl
      generalize (pre' ls k).length = n1 at *
      generalize l.length = n2 at *
      go_wp2
      go_round
      case rel => exact ⟨k + 1, by omega, by go_num, by rw [← hl2.out]; go_num⟩
      case measure => simp [intOf]; omega
    · have hk2 := hid (show pre' ls k = ls.flatten by
        have : k = ls.length := by have := HNL.out; omega
        subst this; exact pre'_all ls)
      rw [hk2.out]
      obtain ⟨n, hnn⟩ : ∃ n, n = ls.flatten.length := ⟨_, rfl⟩
      rw [← hnn]
      have HNN := hid hnn; clear hnn
      have hd0 : decide ((k : Int) < (N : Int)) = false := by simp; omega
      go_wp2_with fail
      refine (grow_any w n (by rw [HNN.out]; exact HPOS.out) (by rw [HNN.out]; have := HN.out; omega)).mono ?_
      rintro e w1 ⟨cap, rfl, hcap, hcm, hown, hb1, hs1⟩
      obtain ⟨g, hg⟩ : ∃ g, g = w.heap.size := ⟨_, rfl⟩
      rw [← hg] at hown ⊢
      have HG := hid hg; have HOWN := hid hown; have HB := hid hb1; have HCAP := hid hcap
      clear hg hown hb1 hs1 hcap hcm hd0
      go_wp2
      go_loopw [6, 27] (fun s i w2 => ∃ j : Nat, j ≤ N ∧ i = .int .i64 j ∧ s = .slice (some ⟨g, 0, none⟩) (pre' ls j).length cap ∧ Own w2 g g cap (pre' ls j) ∧ Below w.heap.size w w2) (fun _ i _ => N - (intOf i).toNat)
      case atStart => exact ⟨0, by omega, rfl, rfl, HOWN.out, HB.out⟩
      case round =>
        obtain ⟨j, hj, rfl, rfl, hown, hb⟩ := hrel
        by_cases hlt2 : j < N
        · obtain ⟨v, l, p, c, hv, hl, hbs, hvf⟩ := HP.out j hlt2
          have hcell := (HC.out.up hb HGP.out).at0 hv
          obtain ⟨w3, happ, hown3, hgr3⟩ := append_own hown (hbs.ups hb) (by have h1 := pre'_next ls j l hl; have h2 := pre'_le ls (j + 1); rw [← h1] at h2; have h3 := HCAP.out; have h4 := HNN.out; simp only [List.length_append] at h2; omega)
          rw [pre'_next ls j l hl] at happ hown3
          have HAPP := hid happ; have HO3 := hid hown3
          have HB3 := hid (hb.grown hgr3 hb.size (fun i e => by cases e; rw [HG.out]; exact Nat.le_refl _))
          clear happ hown3 hgr3 hv hbs hvf hb hown hl
          go_wp2_with (refine wpList_append_run rfl (.tmp 31) (.tmp 32) 22 22 rfl _ _ _ rfl rfl HAPP.out ?_)
          go_roundw
          case rel => exact ⟨j + 1, by omega, by go_num, rfl, HO3.out, HB3.out⟩
          case measure => simp [intOf]; omega
        · have hj2 := hid (show pre' ls j = ls.flatten by
            have : j = ls.length := by have := HNL.out; omega
            subst this; exact pre'_all ls)
          have HO3 := hid hown; have HB3 := hid hb
          clear hown hb
          go_wp2
          go_ret
          refine ⟨_, rfl, ?_, HB3.out⟩
          have := HO3.out.bs
          rw [hj2.out] at this ⊢
          exact this
end Go.Proofs.YtaoehkoffhnidaaDoor.Dg

/- Contract of the digest of a list, whatever its length. -/
import Derived.Test.YtilnecckgjjcgaaDoorDL
namespace Go.Proofs.YtilnecckgjjcgaaDoor.Dg
open Go.RowKit Go
set_option linter.unusedVariables false
set_option linter.unusedSimpArgs false
theorem Below.dr {w W : World} (h : Below w.heap.size w W) : Below w.heap.size w W.drew := h.drew
set_option maxRecDepth 100000 in
set_option maxHeartbeats 4000000 in
theorem tree_step (n k cap gl o : Nat) (t1 t2 : List UInt8) (w : World) (hk : Konst w) (hf : fp n = k) (h2 : 2 ≤ n) (h3 : k < n) (h0 : 0 < k) (h4 : n ≤ cap) (h5 : cap < 9223372036854775808)
    (c1 : ∀ W, Below w.heap.size w W → Calls Tryd.prog 15 #[.slice (some ⟨gl, o, none⟩) k cap] W (RetD W t1))
    (c2 : ∀ W, Below w.heap.size w W → Calls Tryd.prog 15 #[.slice (some ⟨gl, o + k * 32, none⟩) (n - k) (cap - k)] W (RetD W t2)) :
    Calls Tryd.prog 15 #[.slice (some ⟨gl, o, none⟩) n cap] w (RetD w (tagd nodeS (t1 ++ t2))) := by
  have HK := hid hk; have HF := hid hf; have C1 := hid c1; have C2 := hid c2
  clear hk hf c1 c2
  have hd : ((n : Int) == 0) = false := by simp; omega
  have hd1 : ((n : Int) == 1) = false := by simp; omega
  go_enter Tryd.func15, Tryd.ntmps15
  go_upto_region 1 with (fail)
  refine code_alloc ?_
  intro W hz hf hb hs
  obtain ⟨g, hg⟩ : ∃ g, g = w.heap.size := ⟨_, rfl⟩
  rw [← hg] at hz hf hs ⊢
  have HR := hid (Room.mk' hz rfl hf (by omega)); have HB := hid hb
  have hgg : w.heap.size ≤ g := by omega
  clear hz hf hb hs hg
  go_wp2_with fail
  refine (firstPart_any n _ h2 (by omega)).mono ?_
  rintro e w' ⟨rfl, rfl⟩
  rw [HF.out]
  have e1 : k ≤ cap := by omega
  have e2 : ¬ cap = k := by omega
  have e3 : k ≤ n := by omega
  go_wp2_with fail
  go_region_with (first
    | (go_at_call 43; refine (node_any _ _ _ _ _ hda hdb (HK.out.ups HB2.out)).mono ?_; rintro e w5 ⟨us, hd, rfl, hb5⟩; obtain ⟨w6, hst, hc6, hbb⟩ := (HR2.out.ups hb5).store hd; have hlen := hd.len'; have HB6 := hid (hbb _ _ (by omega) (below_tr HB2.out hb5)); have HC6 := hid hc6; clear hb5 hbb hc6)
    | (go_at_call_of 15 (Value.slice (some ⟨gl, o, none⟩) k cap); refine (C1.out _ HB.out.drew).mono ?_; rintro e w1 ⟨ua, hda, rfl, hb1⟩; have HB1 := hid (below_tr HB.out.drew hb1); have HR1 := hid (HR.out.ups ((below_drewN (Below.refl _ _) 1).trans hb1)); clear hb1)
    | (go_at_call 15; refine (C2.out _ HB1.out).mono ?_; rintro e w2 ⟨ub, hdb, rfl, hb2⟩; have HB2 := hid (below_tr HB1.out hb2); have HR2 := hid (HR1.out.ups hb2); clear hb2))
  all_goals
    go_wp2
    exact bodyPost_ret (v := .agg us.toArray) (results_cell_mid Tryd.results15 _ _ g us _ (by simp only [Array.getD]; rfl) HC6.out.range Tryd.underlying26 rfl (info26 hlen)) rfl ⟨us, hd, rfl, HB6.out⟩
theorem tree_any (N : Nat) : ∀ (ds : List (List UInt8)) (v : Value) (w : World), ds.length ≤ N → DS w v ds → Konst w → Calls Tryd.prog 15 #[v] w (RetD w (tree ds)) := by
  induction N with
  | zero =>
    intro ds v w hn hv hk
    obtain rfl : ds = [] := List.eq_nil_of_length_eq_zero (by omega)
    exact tree0_any v w hv hk
  | succ N ih =>
    intro ds v w hn hv hk
    by_cases h2 : ds.length < 2
    · match ds, h2 with
      | [], _ => exact tree0_any v w hv hk
      | [d], _ => exact tree1_any v d w hv hk
    · obtain ⟨gl, o, cap, rfl, h3, h4, h5, h6, h7⟩ := hv.pos (by omega)
      have h8 := fp_lt ds.length (by omega); have h9 := fp_pos ds.length (by omega)
      rw [tree_two ds (by omega)]
      exact tree_step ds.length _ cap gl o _ _ w hk rfl (by omega) h8 h9 h3 h4
        (fun W hb => ih _ _ W (by rw [List.length_take]; omega) ((DS.take h5 h6 h7 _ (by omega) (by omega) h4).ups hb) (hk.ups hb))
        (fun W hb => ih _ _ W (by rw [List.length_drop]; omega) ((DS.drop h5 h6 h7 _ h3 h4).ups hb) (hk.ups hb))
end Go.Proofs.YtilnecckgjjcgaaDoor.Dg

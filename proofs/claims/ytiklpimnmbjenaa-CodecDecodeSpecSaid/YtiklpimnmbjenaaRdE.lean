/- The reader of the reference: a text. -/
import Derived.Test.YtiklpimnmbjenaaRdD
namespace Go.Proofs.Ytiklpimnmbjenaa
open Go.RowKit Go
set_option linter.unusedVariables false
set_option linter.unusedSimpArgs false
theorem grown_nq {w v : World} {r : Option Nat} (h : w.grownBy v r) (n : Nat) : w.grownBy (v.drewN n) r := ⟨h.os, h.tape, h.output, h.size, h.block⟩
set_option maxRecDepth 100000 in
set_option maxHeartbeats 1000000 in
theorem rval_text (d : Nat) (w : World) (b : Nat) (L : List Int) (at_ lev : Nat) (l : List Int) (hr : RR w b L at_ false) (hL : L.drop at_ = 2 :: l) :
    Calls Try.prog 30 #[.pointer (some ⟨b, 0, none⟩), .int .i64 lev] w fun e w' => OutW w w' b L (pv d (L.drop at_)) e := by
  have HP : Hid (pv d (L.drop at_) = (rn 0 0 l).bind fun x => if x.2.length < x.1 then none else some (T.mk 2 0 (strOfNums (x.2.take x.1)) [], x.2.drop x.1)) := by show _ = _; rw [hL, pv_two]
  obtain ⟨hc, hl⟩ := drop_get hL
  have HR : Hid (∀ o, RR (w.alloc o) b L at_ false) := fun o => hr.al o
  have hb := hr.lt
  have HC := hid hc
  clear hr hL hc
  cases hn : rn 0 0 l with
  | none =>
    have HN : Hid (rn 0 0 (L.drop (at_ + 1)) = none) := by show _ = _; rw [hl, hn]
    have HO : Hid (pv d (L.drop at_) = none) := by show _ = _; rw [HP.out, hn]; rfl
    clear hn hl
    go_enter Try.func30, Try.ntmps30
    go_wp2_with (first | (go_at_call 40; refine (next_byte b L at_ false _ _ (HR.out _) HC.out).mono ?_; rintro e w1 ⟨rfl, hr1, hg1⟩; have HR1 := hid hr1; clear hr1) | (go_at_call 41; refine (number_none b L _ _ HR1.out HN.out).mono ?_; rintro e w2 ⟨rfl, ⟨n2, hr2⟩, hg2⟩; have h19 := hr2.2.2.2.2.2.2.1; have h111 := hr2.2.2.2.2.2.2.2.2; have HR2 := hid hr2; clear hr2; obtain ⟨⟨z0, z1, z2, z3⟩, f0, f1, f2, f3⟩ := (((Zed.new w).grown hg1 (by omega)).grown hg2 (by omega)).cells))
    go_quiet (fail)
    go_wp2
    refine bodyPost_ret (v := .agg #[.int .i64 0, .int .i64 0, .string ⟨#[]⟩, .slice none 0 0]) (by simp [results, Try.results30, go_sem, z0, z1, z2, z3]) rfl ?_
    exact OutW.bad HO.out (grown_trans (grown_nq (grown_trans (grown_trans (grown_alloc _ _ _) hg1) hg2) nq) (grown_setCell _ _ _ _)) ((show RR (w2.drewN nq) b L n2 true from HR2.out).bad true) (Nat.le_refl _) hb
  | some x =>
    obtain ⟨u, r⟩ := x
    have hu := rn_lt _ _ _ _ _ (by decide) (by decide) hn
    have HN : Hid (rn 0 0 (L.drop (at_ + 1)) = some (u, r)) := by show _ = _; rw [hl, hn]
    have HO : pv d (L.drop at_) = if r.length < u then none else some (T.mk 2 0 (strOfNums (r.take u)) [], r.drop u) := by rw [HP.out, hn]; rfl
    clear hn hl
    by_cases hbig : r.length < u
    · rw [if_pos hbig] at HO
      have HO := hid HO
      go_enter Try.func30, Try.ntmps30
      go_wp2_with fail
      refine (next_byte b L at_ false _ _ (HR.out _) HC.out).mono ?_
      rintro e w1 ⟨rfl, hr1, hg1⟩
      have HR1 := hid hr1; clear hr1
      go_wp2_with fail
      refine (number_some b L _ _ u r HR1.out HN.out).mono ?_
      rintro e w2 ⟨rfl, ⟨n2, hn2, hd2, hr2⟩, hg2⟩
      have h19 := hr2.2.2.2.2.2.2.1
      have h18 := hr2.2.2.2.2.2.1
      have h110 := hr2.2.2.2.2.2.2.2.1
      have h111 := hr2.2.2.2.2.2.2.2.2
      obtain ⟨p, cap, h15, hcap, hcc⟩ := hr2.2.2.2.2.1
      have hl8 := hr2.2.2.2.1
      have hrl : r.length = L.length - n2 := by rw [← hd2]; simp
      rw [hrl] at hbig
      have HR2 := hid hr2; have HD2 := hid hd2; have HCC := hid hcc; clear hr2 hd2 hrl hcc
      obtain ⟨len, hlen⟩ : ∃ n, n = L.length := ⟨_, rfl⟩
      rw [← hlen] at h15 hcap hl8 hbig hn2
      have HLen := hid hlen; clear hlen
      have ew : IntKind.u64.wrap ((len : Int) - n2) = ((len - n2 : Nat) : Int) := by rw [IntWalk.u64_in _ (by omega)]; omega
      obtain ⟨⟨z0, z1, z2, z3⟩, f0, f1, f2, f3⟩ := (((Zed.new w).grown hg1 (by omega)).grown hg2 (by omega)).cells
      have hlt : decide ((u : Int) ≤ ((len - n2 : Nat) : Int)) = false := by simp; omega
      go_wp2_with fail
      go_quiet (fail)
      go_wp2
      refine bodyPost_ret (v := .agg #[.int .i64 0, .int .i64 0, .string ⟨#[]⟩, .slice none 0 0]) (by simp [results, Try.results30, go_sem, z0, z1, z2, z3]) rfl ?_
      exact OutW.bad HO.out (grown_trans (grown_nq (grown_trans (grown_trans (grown_alloc _ _ _) hg1) hg2) nq) (grown_setCell _ _ _ _)) ((show RR (w2.drewN nq) b L n2 false from HR2.out).bad true) (Nat.le_refl _) hb
    · rw [if_neg hbig] at HO
      have HO := hid HO
      go_enter Try.func30, Try.ntmps30
      go_wp2_with fail
      refine (next_byte b L at_ false _ _ (HR.out _) HC.out).mono ?_
      rintro e w1 ⟨rfl, hr1, hg1⟩
      have HR1 := hid hr1; clear hr1
      go_wp2_with fail
      refine (number_some b L _ _ u r HR1.out HN.out).mono ?_
      rintro e w2 ⟨rfl, ⟨n2, hn2, hd2, hr2⟩, hg2⟩
      have h19 := hr2.2.2.2.2.2.2.1
      have h18 := hr2.2.2.2.2.2.1
      have h110 := hr2.2.2.2.2.2.2.2.1
      have h111 := hr2.2.2.2.2.2.2.2.2
      obtain ⟨p, cap, h15, hcap, hcc⟩ := hr2.2.2.2.2.1
      have hl8 := hr2.2.2.2.1
      have hrl : r.length = L.length - n2 := by rw [← hd2]; simp
      rw [hrl] at hbig
      have HR2 := hid hr2; have HD2 := hid hd2; have HCC := hid hcc; clear hr2 hd2 hrl hcc
      obtain ⟨len, hlen⟩ : ∃ n, n = L.length := ⟨_, rfl⟩
      rw [← hlen] at h15 hcap hl8 hbig hn2
      have HLen := hid hlen; clear hlen
      have ew : IntKind.u64.wrap ((len : Int) - n2) = ((len - n2 : Nat) : Int) := by rw [IntWalk.u64_in _ (by omega)]; omega
      obtain ⟨⟨z0, z1, z2, z3⟩, f0, f1, f2, f3⟩ := (((Zed.new w).grown hg1 (by omega)).grown hg2 (by omega)).cells
      have hlt : decide ((u : Int) ≤ ((len - n2 : Nat) : Int)) = true := by simp; omega
      go_wp2_with fail
      go_quiet (fail)
      go_wp2
      obtain ⟨W, hW⟩ : ∃ W, W = (w2.drewN nq).setCell ⟨b, 1, none⟩ (.int .i64 ((n2 : Int) + u)) := ⟨_, rfl⟩
      have R1 : RR W b L (n2 + u) false := by
        rw [hW]
        exact (show RR (w2.drewN nq) b L n2 false from HR2.out).at (n2 + u) (by rw [← HLen.out]; omega)
      have G1 : w2.grownBy W (some b) := by rw [hW]; exact grown_trans (grown_nq (World.grownBy.refl _ _) nq) (grown_setCell _ _ _ _)
      obtain ⟨g, o, rfl, hgb, hB⟩ := HCC.out (by intro e; have := HC.out; rw [e] at this; cases this)
      have BB : Bytes W g o L := hB.kept fun j => World.cell?_of_block (a := ⟨g, j, none⟩) (G1.block g (by have := HR2.out.lt; omega) (by simp; omega))
      have k5 : W.cell? ⟨b, 0, none⟩ = some (.slice (some ⟨g, o, none⟩) len cap) := by rw [hW, World.cell?_setCell_other (h := by simp)]; exact h15
      have k8 : W.cell? ⟨b, 1, none⟩ = some (.int .i64 ((n2 : Int) + u)) := by rw [hW]; exact World.cell?_setCell_same (h := show (w2.drewN nq).cell? ⟨b, 1, none⟩ = _ from h18) ..
      obtain ⟨⟨z0, z1, z2, z3⟩, f0, f1, f2, f3⟩ := ((((Zed.new w).grown hg1 (by omega)).grown hg2 (by omega)).grown G1 (by omega)).cells
      rw [← hW]
      have HR3 := hid R1; have HG1 := hid G1; have HB := hid BB
      clear hW R1 G1 hB BB h15 h18 h19 h110 h111
      have ew2 : IntKind.i64.wrap ((n2 : Int) + u - u) = (n2 : Int) := by rw [IntWalk.i64_in _ (by omega)]; omega
      have ew3 : IntKind.i64.wrap (u : Int) = u := IntWalk.i64_in _ (by omega)
      have ew4 : ((n2 : Int) + u - u) = n2 := by omega
      have hx : (r.take u).length = n2 + u - n2 := by
        rw [List.length_take, ← HD2.out, List.length_drop, ← HLen.out]; omega
      by_cases hnc : cap = n2
      · have hcv := run_convert_bytes_arg (P := Try.prog) W.drew 27 5 Try.underlying27 (by kernel_rfl) g o u 0 (r.take u) (by omega) (fun i hi => by omega) 9 Try.underlying9
        go_region
        go_wp2
        refine bodyPost_ret (v := .agg #[.int .i64 2, .int .i64 0, .string (strOfNums (r.take u)), .slice none 0 0]) (by simp [results, Try.results30, go_sem, z0, z1, z2, z3]) rfl ?_
        refine OutW.good (n := n2 + u) HO.out (grown_drew (grown_trans (grown_trans (grown_trans (grown_alloc _ _ _) hg1) hg2) HG1.out)) (show RR W.drew b L (n2 + u) false from HR3.out) (by rw [← List.drop_drop, HD2.out]) (Nat.le_refl _) hb ?_
        rw [AtP]
        exact ⟨⟨by unfold wfI; omega, by unfold wfI; omega⟩, by rw [strOfNums_size]; unfold maxLen; omega, none, 0, rfl, by simp, by simp, 0, 0, by simp, by simp⟩
      · have hcv := run_convert_bytes_arg (P := Try.prog) W.drew 27 5 Try.underlying27 (by kernel_rfl) g (o + n2) u (cap - n2) (r.take u) (by omega) (fun i hi => by
          have hi' : i < (r.take u).length := by omega
          have h1 : r[i]? = L[n2 + i]? := by rw [← HD2.out, List.getElem?_drop]
          have h2 : (r.take u).getD i 0 = r[i]'(by simp at hi'; omega) := by simp [List.getD, List.getElem?_eq_getElem hi']
          have := HB.out (n2 + i) (r[i]'(by simp at hi'; omega)) (by rw [← h1, List.getElem?_eq_getElem])
          rw [h2, Nat.add_assoc]; exact this) 9 Try.underlying9
        go_region
        go_wp2
        refine bodyPost_ret (v := .agg #[.int .i64 2, .int .i64 0, .string (strOfNums (r.take u)), .slice none 0 0]) (by simp [results, Try.results30, go_sem, z0, z1, z2, z3]) rfl ?_
        refine OutW.good (n := n2 + u) HO.out (grown_drew (grown_trans (grown_trans (grown_trans (grown_alloc _ _ _) hg1) hg2) HG1.out)) (show RR W.drew b L (n2 + u) false from HR3.out) (by rw [← List.drop_drop, HD2.out]) (Nat.le_refl _) hb ?_
        rw [AtP]
        exact ⟨⟨by unfold wfI; omega, by unfold wfI; omega⟩, by rw [strOfNums_size]; unfold maxLen; omega, none, 0, rfl, by simp, by simp, 0, 0, by simp, by simp⟩
end Go.Proofs.Ytiklpimnmbjenaa

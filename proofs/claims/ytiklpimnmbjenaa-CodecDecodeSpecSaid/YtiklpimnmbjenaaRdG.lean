/- The reader of the reference: a list. -/
import Derived.Test.YtiklpimnmbjenaaRdF
import Derived.Deep.LoopGhost
import Derived.Great.BuildSlice
namespace Go.Proofs.Ytiklpimnmbjenaa
open Go.RowKit Go
set_option linter.unusedVariables false
set_option linter.unusedSimpArgs false
theorem pl_short {d n : Nat} {r : List Int} (h : r.length < n) : pl (pv d) n r = none := by
  cases hp : pl (pv d) n r with
  | none => rfl
  | some x => obtain ⟨ts, r'⟩ := x; have := pl_len (pv_len d) _ _ _ _ hp; omega
theorem More.none {f : List Int → Option (T × List Int)} {n m : Nat} {r ri : List Int} {ts : List T} (h : More f n r (m + 1) ts ri) (hs : f ri = none) : pl f n r = none := by
  unfold More at h; rw [h, pl, hs]
set_option maxRecDepth 100000 in
set_option maxHeartbeats 1000000 in
theorem rval_list_none (d : Nat) (w : World) (b : Nat) (L : List Int) (at_ lev : Nat) (l : List Int) (hr : RR w b L at_ false) (hL : L.drop at_ = 3 :: l) (hn : rn 0 0 l = none) :
    Calls Try.prog 30 #[.pointer (some ⟨b, 0, none⟩), .int .i64 lev] w fun e w' => OutW w w' b L (pv d (L.drop at_)) e := by
  have HO : Hid (pv d (L.drop at_) = none) := by
    show _ = _
    rw [hL]
    cases d with
    | zero => exact pv_three0 l
    | succ d => rw [pv_three, hn]; rfl
  obtain ⟨hc, hl⟩ := drop_get hL
  have HR : Hid (∀ o, RR (w.alloc o) b L at_ false) := fun o => hr.al o
  have hb := hr.lt
  have HC := hid hc
  have HN : Hid (rn 0 0 (L.drop (at_ + 1)) = none) := by show _ = _; rw [hl, hn]
  clear hr hL hc hn hl
  go_enter Try.func30, Try.ntmps30
  go_wp2_with (first | (go_at_call 40; refine (next_byte b L at_ false _ _ (HR.out _) HC.out).mono ?_; rintro e w1 ⟨rfl, hr1, hg1⟩; have HR1 := hid hr1; clear hr1) | (go_at_call 41; refine (number_none b L _ _ HR1.out HN.out).mono ?_; rintro e w2 ⟨rfl, ⟨n2, hr2⟩, hg2⟩; have h19 := hr2.2.2.2.2.2.2.1; have h111 := hr2.2.2.2.2.2.2.2.2; have HR2 := hid hr2; clear hr2; obtain ⟨⟨z0, z1, z2, z3⟩, f0, f1, f2, f3⟩ := (((Zed.new w).grown hg1 (by omega)).grown hg2 (by omega)).cells))
  go_quiet (fail)
  go_wp2
  refine bodyPost_ret (v := .agg #[.int .i64 0, .int .i64 0, .string ⟨#[]⟩, .slice none 0 0]) (by simp [results, Try.results30, go_sem, z0, z1, z2, z3]) rfl ?_
  exact OutW.bad HO.out (grown_trans (grown_nq (grown_trans (grown_trans (grown_alloc _ _ _) hg1) hg2) nq) (grown_setCell _ _ _ _)) ((show RR (w2.drewN nq) b L n2 true from HR2.out).bad true) (Nat.le_refl _) hb
set_option maxRecDepth 100000 in
set_option maxHeartbeats 1000000 in
theorem rval_list_bad (d : Nat) (w : World) (b : Nat) (L : List Int) (at_ lev : Nat) (l : List Int) (u : Nat) (r : List Int) (hr : RR w b L at_ false) (hL : L.drop at_ = 3 :: l) (hn : rn 0 0 l = some (u, r)) (hbad : r.length < u ∨ lev = 16) (hd : lev + d = 16) :
    Calls Try.prog 30 #[.pointer (some ⟨b, 0, none⟩), .int .i64 lev] w fun e w' => OutW w w' b L (pv d (L.drop at_)) e := by
  have HO : Hid (pv d (L.drop at_) = none) := by
    show _ = _
    rw [hL]
    cases d with
    | zero => exact pv_three0 l
    | succ d => rw [pv_three, hn]; simp only [Option.bind_some]; rw [pl_short (by omega)]; rfl
  obtain ⟨hc, hl⟩ := drop_get hL
  have hu := rn_lt _ _ _ _ _ (by decide) (by decide) hn
  have HR : Hid (∀ o, RR (w.alloc o) b L at_ false) := fun o => hr.al o
  have hb := hr.lt
  have HC := hid hc
  have HN : Hid (rn 0 0 (L.drop (at_ + 1)) = some (u, r)) := by show _ = _; rw [hl, hn]
  clear hr hL hc hn hl
  go_enter Try.func30, Try.ntmps30
  go_wp2_with fail
  refine (next_byte b L at_ false _ _ (HR.out _) HC.out).mono ?_
  rintro e w1 ⟨rfl, hr1, hg1⟩
  have HR1 := hid hr1; clear hr1
  go_wp2_with fail
  refine (number_some b L _ _ u r HR1.out HN.out).mono ?_
  rintro e w2 ⟨rfl, ⟨n2, hn2, hd2, hr2⟩, hg2⟩
  have h19 := hr2.2.2.2.2.2.2.1
  have h18 := hr2.2.2.2.2.2.1
  have h110 := hr2.2.2.2.2.2.2.2.1
  have h111 := hr2.2.2.2.2.2.2.2.2
  obtain ⟨p, cap, h15, hcap, hcc⟩ := hr2.2.2.2.2.1
  have hl8 := hr2.2.2.2.1
  have hrl : r.length = L.length - n2 := by rw [← hd2]; simp
  rw [hrl] at hbad
  have HR2 := hid hr2; clear hr2 hd2 hrl hcc
  obtain ⟨len, hlen⟩ : ∃ n, n = L.length := ⟨_, rfl⟩
  rw [← hlen] at h15 hcap hl8 hbad hn2
  clear hlen
  have ew : IntKind.u64.wrap ((len : Int) - n2) = ((len - n2 : Nat) : Int) := by rw [IntWalk.u64_in _ (by omega)]; omega
  obtain ⟨⟨z0, z1, z2, z3⟩, f0, f1, f2, f3⟩ := (((Zed.new w).grown hg1 (by omega)).grown hg2 (by omega)).cells
  by_cases hbig : len - n2 < u
  · have hlt : decide ((u : Int) ≤ ((len - n2 : Nat) : Int)) = false := by simp; omega
    go_wp2_with fail
    go_quiet (fail)
    go_wp2
    refine bodyPost_ret (v := .agg #[.int .i64 0, .int .i64 0, .string ⟨#[]⟩, .slice none 0 0]) (by simp [results, Try.results30, go_sem, z0, z1, z2, z3]) rfl ?_
    exact OutW.bad HO.out (grown_trans (grown_nq (grown_trans (grown_trans (grown_alloc _ _ _) hg1) hg2) nq) (grown_setCell _ _ _ _)) ((show RR (w2.drewN nq) b L n2 false from HR2.out).bad true) (Nat.le_refl _) hb
  · have hlt : decide ((u : Int) ≤ ((len - n2 : Nat) : Int)) = true := by simp; omega
    obtain rfl : lev = 16 := by omega
    go_wp2_with fail
    go_quiet (fail)
    go_wp2
    refine bodyPost_ret (v := .agg #[.int .i64 0, .int .i64 0, .string ⟨#[]⟩, .slice none 0 0]) (by simp [results, Try.results30, go_sem, z0, z1, z2, z3]) rfl ?_
    exact OutW.bad HO.out (grown_trans (grown_nq (grown_trans (grown_trans (grown_alloc _ _ _) hg1) hg2) nq) (grown_setCell _ _ _ _)) ((show RR (w2.drewN nq) b L n2 false from HR2.out).bad true) (Nat.le_refl _) hb
end Go.Proofs.Ytiklpimnmbjenaa

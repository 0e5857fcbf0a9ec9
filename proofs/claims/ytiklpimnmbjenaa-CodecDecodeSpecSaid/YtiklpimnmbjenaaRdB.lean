/- The reader of the reference: the next byte. -/
import Derived.Test.YtiklpimnmbjenaaRdA
import Derived.Test.YtiklpimnmbjenaaN
namespace Go.Proofs.Ytiklpimnmbjenaa
open Go.RowKit Go
set_option linter.unusedVariables false
set_option linter.unusedSimpArgs false
/-- the reference's reader in block b: it reads the bytes L, stands at at_, and has or has not found a fault -/
def RR (w : World) (b : Nat) (L : List Int) (at_ : Nat) (bad : Bool) : Prop :=
  (∀ x ∈ L, 0 ≤ x ∧ x < 256) ∧ b < w.heap.size ∧ at_ ≤ L.length ∧ L.length ≤ 100000000 ∧
  (∃ p cap, w.cell? ⟨b, 0, none⟩ = some (.slice p L.length cap) ∧ L.length ≤ cap ∧ (L ≠ [] → ∃ c o, p = some ⟨c, o, none⟩ ∧ c < b ∧ Bytes w c o L)) ∧
  w.cell? ⟨b, 1, none⟩ = some (.int .i64 (at_ : Int)) ∧ w.cell? ⟨b, 2, none⟩ = some (.bool bad) ∧ w.frozen? ⟨b, 1, none⟩ = false ∧ w.frozen? ⟨b, 2, none⟩ = false
theorem RR.kept {w w' : World} {b : Nat} {L : List Int} {at_ : Nat} {bad : Bool} (h : RR w b L at_ bad) (hb : Below (b + 1) w w') : RR w' b L at_ bad := by
  obtain ⟨h1, h2, h3, h4, ⟨p, cap, h5, h6, h7⟩, h8, h9, h10, h11⟩ := h
  refine ⟨h1, Nat.lt_of_lt_of_le h2 hb.size, h3, h4, ⟨p, cap, (hb.cell (p := ⟨b, 0, none⟩) (by show b < b + 1; omega)).trans h5, h6, fun hL => ?_⟩, (hb.cell (p := ⟨b, 1, none⟩) (by show b < b + 1; omega)).trans h8, (hb.cell (p := ⟨b, 2, none⟩) (by show b < b + 1; omega)).trans h9, (hb.frozen (p := ⟨b, 1, none⟩) (by show b < b + 1; omega)).trans h10, (hb.frozen (p := ⟨b, 2, none⟩) (by show b < b + 1; omega)).trans h11⟩
  obtain ⟨c, o, e, hc, hB⟩ := h7 hL
  exact ⟨c, o, e, hc, hB.kept fun j => hb.cell (p := ⟨c, j, none⟩) (by show c < b + 1; omega)⟩
theorem RR.at {w : World} {b : Nat} {L : List Int} {at_ : Nat} {bad : Bool} (h : RR w b L at_ bad) (n : Nat) (hn : n ≤ L.length) : RR (w.setCell ⟨b, 1, none⟩ (.int .i64 (n : Int))) b L n bad := by
  obtain ⟨h1, h2, h3, h4, ⟨p, cap, h5, h6, h7⟩, h8, h9, h10, h11⟩ := h
  refine ⟨h1, by simpa using h2, hn, h4, ⟨p, cap, ?_, h6, fun hL => ?_⟩, ?_, ?_, by rw [World.frozen?_setCell]; exact h10, by rw [World.frozen?_setCell]; exact h11⟩
  · rw [World.cell?_setCell_other (h := by simp)]; exact h5
  · obtain ⟨c, o, e, hc, hB⟩ := h7 hL
    exact ⟨c, o, e, hc, hB.kept fun j => World.cell?_setCell_other (h := by intro hh; simp only [Addr.mk.injEq] at hh; omega) ..⟩
  · exact World.cell?_setCell_same (h := h8) ..
  · rw [World.cell?_setCell_other (h := by simp)]; exact h9
theorem RR.bad {w : World} {b : Nat} {L : List Int} {at_ : Nat} {bad : Bool} (h : RR w b L at_ bad) (x : Bool) : RR (w.setCell ⟨b, 2, none⟩ (.bool x)) b L at_ x := by
  obtain ⟨h1, h2, h3, h4, ⟨p, cap, h5, h6, h7⟩, h8, h9, h10, h11⟩ := h
  refine ⟨h1, by simpa using h2, h3, h4, ⟨p, cap, ?_, h6, fun hL => ?_⟩, ?_, ?_, by rw [World.frozen?_setCell]; exact h10, by rw [World.frozen?_setCell]; exact h11⟩
  · rw [World.cell?_setCell_other (h := by simp)]; exact h5
  · obtain ⟨c, o, e, hc, hB⟩ := h7 hL
    exact ⟨c, o, e, hc, hB.kept fun j => World.cell?_setCell_other (h := by intro hh; simp only [Addr.mk.injEq] at hh; omega) ..⟩
  · rw [World.cell?_setCell_other (h := by simp)]; exact h8
  · exact World.cell?_setCell_same (h := h9) ..
set_option maxRecDepth 100000 in
set_option maxHeartbeats 2000000 in
theorem next_end (b : Nat) (L : List Int) (at_ : Nat) (bad : Bool) (w : World) (h : RR w b L at_ bad) (he : at_ = L.length) :
    Calls Try.prog 40 #[.pointer (some ⟨b, 0, none⟩)] w fun e w' => e = .returned (.int .u8 0) ∧ RR w' b L at_ true ∧ w.grownBy w' (some b) := by
  have H := hid h
  obtain ⟨h1, h2, h3, h4, ⟨p, cap, h5, h6, h7⟩, h8, h9, h10, h11⟩ := h
  rw [← he] at h5
  clear h1 h2 h3 h4 h6 h7 h10
  go_enter Try.func40, Try.ntmps40
  go_wp2_with fail
  go_quiet (fail)
  go_wp2
  go_ret
  exact ⟨rfl, (show RR (w.drewN nq) b L at_ bad from H.out).bad true, ⟨rfl, rfl, rfl, by simp, fun k hk e => by rw [heap_setCell_other _ _ _ _ (by intro hh; apply e; rw [hh])]; rfl⟩⟩
set_option maxRecDepth 100000 in
set_option maxHeartbeats 2000000 in
theorem next_byte (b : Nat) (L : List Int) (at_ : Nat) (bad : Bool) (c : Int) (w : World) (h : RR w b L at_ bad) (hc : L[at_]? = some c) :
    Calls Try.prog 40 #[.pointer (some ⟨b, 0, none⟩)] w fun e w' => e = .returned (.int .u8 c) ∧ RR w' b L (at_ + 1) bad ∧ w.grownBy w' (some b) := by
  have H := hid h
  obtain ⟨hlt, _⟩ := List.getElem?_eq_some_iff.1 hc
  obtain ⟨h1, h2, h3, h4, ⟨p, cap, h5, h6, h7⟩, h8, h9, h10, h11⟩ := h
  obtain ⟨g, o, rfl, hg, hB⟩ := h7 (by intro e; rw [e] at hlt; simp at hlt)
  have hcell := hB at_ c hc
  have HG := hid hg; have HLT := hid hlt
  obtain ⟨len, hlen⟩ : ∃ n, n = L.length := ⟨_, rfl⟩
  rw [← hlen] at h5 h6 h4 hlt
  clear h1 h2 h3 h7 h11 hB hc hlen
  have hne : (⟨b, 1, none⟩ : Addr) ≠ ⟨g, o + at_, none⟩ := by intro hh; simp only [Addr.mk.injEq] at hh; omega
  have hne2 : (⟨g, o + at_, none⟩ : Addr) ≠ ⟨b, 1, none⟩ := by intro hh; simp only [Addr.mk.injEq] at hh; omega
  have hdc : decide ((len : Int) ≤ (at_ : Int)) = false := by simp; omega
  have ew : IntKind.i64.wrap ((at_ : Int) + 1) = ((at_ + 1 : Nat) : Int) := by rw [IntWalk.i64_in _ (by omega)]; omega
  have ew2 : IntKind.i64.wrap ((at_ : Int) + 1 - 1) = (at_ : Int) := by rw [IntWalk.i64_in _ (by omega)]; omega
  go_enter Try.func40, Try.ntmps40
  go_wp2_with fail
  go_quiet (fail)
  go_wp2
  have hW : ∃ W, W = (w.drewN nq).setCell ⟨b, 1, none⟩ (.int .i64 ((at_ : Int) + 1)) := ⟨_, rfl⟩
  obtain ⟨W, hW⟩ := hW
  have R1 : RR W b L (at_ + 1) bad := by
    rw [hW]
    exact (show RR (w.drewN nq) b L at_ bad from H.out).at (at_ + 1) (by have := HLT.out; omega)
  have G1 : w.grownBy W (some b) := by rw [hW]; exact ⟨rfl, rfl, rfl, by simp, fun k hk e => by rw [heap_setCell_other _ _ _ _ (by intro hh; apply e; rw [hh])]; rfl⟩
  have k5 : W.cell? ⟨b, 0, none⟩ = some (.slice (some ⟨g, o, none⟩) len cap) := by rw [hW, World.cell?_setCell_other (h := by simp)]; exact h5
  have k8 : W.cell? ⟨b, 1, none⟩ = some (.int .i64 ((at_ : Int) + 1)) := by rw [hW]; exact World.cell?_setCell_same (h := show (w.drewN nq).cell? ⟨b, 1, none⟩ = _ from h8) ..
  have kc : W.cell? ⟨g, o + at_, none⟩ = some (.int .u8 c) := by rw [hW, World.cell?_setCell_other (h := hne)]; exact hcell
  rw [← hW]
  have HR1 := hid R1; have HG1 := hid G1
  clear hW R1 G1 h5 h8 h9 h10 hcell hne hne2 hdc hg
  go_quiet (fail)
  go_wp2
  go_ret
  exact ⟨rfl, HR1.out, ⟨HG1.out.os, HG1.out.tape, HG1.out.output, HG1.out.size, HG1.out.block⟩⟩
end Go.Proofs.Ytiklpimnmbjenaa

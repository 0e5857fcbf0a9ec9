/- Contracts: valid, Check. -/
import Derived.Test.YtbejjindkcjecaaC
namespace Go.Proofs.Ytbejjindkcjecaa
open Go.RowKit Go
set_option linter.unusedVariables false
set_option linter.unusedSimpArgs false
/-- the fact is valid -/
def vld (f : FA) : Bool := wth f.kind 1 12 && (wth f.subj 0 20000 && (wth f.obj 0 20000 && (wth f.val (-1) 1099511627776 && (chk1 f.frm f.to == 0 && (wth f.known 1 16777216 && wth f.no 0 65535)))))
theorem below_os {w w' : World} {q : Nat} {os : Array Obj} {B : Nat} (h : w' = Go.Sort.grow (w.drewN q) os) (hB : B ≤ w.heap.size) : Below B w w' := by
  subst h
  exact ⟨rfl, rfl, rfl, by simp [Go.Sort.grow], fun k hk => by rw [Go.Sort.heap_grow_old _ _ (by show k < w.heap.size; omega)]; rfl⟩
theorem below_os0 {w w' : World} {os : Array Obj} {B : Nat} (h : w' = Go.Sort.grow w os) (hB : B ≤ w.heap.size) : Below B w w' := below_os (q := 0) h hB
set_option maxRecDepth 100000 in
set_option maxHeartbeats 4000000 in
theorem valid_any (f : FA) (w : World) : Calls Try.prog 32 #[FV f] w fun e w' => e = .returned (.bool (vld f)) ∧ Below w.heap.size w w' := by
  have hv : vld f = (wth f.kind 1 12 && (wth f.subj 0 20000 && (wth f.obj 0 20000 && (wth f.val (-1) 1099511627776 && (chk1 f.frm f.to == 0 && (wth f.known 1 16777216 && wth f.no 0 65535)))))) := rfl
  have C1 := hid (fun W => within_any f.kind 1 12 W)
  have C2 := hid (fun W => within_any f.subj 0 20000 W)
  have C3 := hid (fun W => within_any f.obj 0 20000 W)
  have C4 := hid (fun W => within_any f.val (-1) 1099511627776 W)
  have C6 := hid (fun W => within_any f.known 1 16777216 W)
  have C7 := hid (fun W => within_any f.no 0 65535 W)
  have C5 := hid (fun b o W hb h1 h2 => check1_any b o f.frm f.to W hb h1 h2)
  have hc5 : chk1 f.frm f.to = 0 ∨ chk1 f.frm f.to = 60 := by unfold chk1; split <;> simp
  generalize wth f.kind 1 12 = b1 at *
  generalize wth f.subj 0 20000 = b2 at *
  generalize wth f.obj 0 20000 = b3 at *
  generalize wth f.val (-1) 1099511627776 = b4 at *
  generalize wth f.known 1 16777216 = b6 at *
  generalize wth f.no 0 65535 = b7 at *
  generalize chk1 f.frm f.to = c5 at *
  rw [hv]
  clear hv
  have b0 : Below w.heap.size w (w.alloc (.cells #[.int .i64 f.kind, .int .i64 f.subj, .int .i64 f.obj, .int .i64 f.val, .int .i64 f.frm, .int .i64 f.to, .int .i64 f.known, .int .i64 f.no] 28)) := (Below.refl _ w).alloc (Nat.le_refl _) _
  have B0 := hid b0
  clear b0
  cases b1
  · go_enter Try.func32, Try.ntmps32
    go_wp2_with (first | (go_at_call 48; (with_reducible refine (C1.out _).mono ?_); rintro e w' ⟨rfl, rfl⟩))
    go_ret
    exact ⟨rfl, B0.out⟩
  cases b2
  · go_enter Try.func32, Try.ntmps32
    go_wp2_with (first | (go_at_call 48; (with_reducible refine (C1.out _).mono ?_); rintro e w' ⟨rfl, rfl⟩) | (go_at_call 48; (with_reducible refine (C2.out _).mono ?_); rintro e w' ⟨rfl, rfl⟩))
    go_ret
    exact ⟨rfl, B0.out⟩
  cases b3
  · go_enter Try.func32, Try.ntmps32
    go_wp2_with (first | (go_at_call 48; (with_reducible refine (C1.out _).mono ?_); rintro e w' ⟨rfl, rfl⟩) | (go_at_call 48; (with_reducible refine (C2.out _).mono ?_); rintro e w' ⟨rfl, rfl⟩) | (go_at_call 48; (with_reducible refine (C3.out _).mono ?_); rintro e w' ⟨rfl, rfl⟩))
    go_ret
    exact ⟨rfl, B0.out⟩
  cases b4
  · go_enter Try.func32, Try.ntmps32
    go_wp2_with (first | (go_at_call 48; (with_reducible refine (C1.out _).mono ?_); rintro e w' ⟨rfl, rfl⟩) | (go_at_call 48; (with_reducible refine (C2.out _).mono ?_); rintro e w' ⟨rfl, rfl⟩) | (go_at_call 48; (with_reducible refine (C3.out _).mono ?_); rintro e w' ⟨rfl, rfl⟩) | (go_at_call 48; (with_reducible refine (C4.out _).mono ?_); rintro e w' ⟨rfl, rfl⟩))
    go_ret
    exact ⟨rfl, B0.out⟩
  obtain ⟨W0, hW0⟩ : ∃ W0, W0 = w.alloc (.cells #[.int .i64 f.kind, .int .i64 f.subj, .int .i64 f.obj, .int .i64 f.val, .int .i64 f.frm, .int .i64 f.to, .int .i64 f.known, .int .i64 f.no] 28) := ⟨_, rfl⟩
  have hsz : W0.heap.size = w.heap.size + 1 := by rw [hW0]; simp
  have H5 : (W0.alloc (.cells #[.int .i64 f.frm, .int .i64 f.to] 26)).cell? ⟨w.heap.size + 1, 0, none⟩ = some (.int .i64 f.frm) ∧ (W0.alloc (.cells #[.int .i64 f.frm, .int .i64 f.to] 26)).cell? ⟨w.heap.size + 1, 1, none⟩ = some (.int .i64 f.to) := by
    rw [← hsz]; exact ⟨cell_lit W0 _ _ 0 _ rfl, cell_lit W0 _ _ 1 _ rfl⟩
  have K0 := cell_lit w #[.int .i64 f.kind, .int .i64 f.subj, .int .i64 f.obj, .int .i64 f.val, .int .i64 f.frm, .int .i64 f.to, .int .i64 f.known, .int .i64 f.no] 28 6 _ rfl
  have K1 := cell_lit w #[.int .i64 f.kind, .int .i64 f.subj, .int .i64 f.obj, .int .i64 f.val, .int .i64 f.frm, .int .i64 f.to, .int .i64 f.known, .int .i64 f.no] 28 7 _ rfl
  have hb1 : Below w.heap.size w (W0.alloc (.cells #[.int .i64 f.frm, .int .i64 f.to] 26)) := by rw [hW0]; exact ((Below.refl _ w).alloc (Nat.le_refl _) _).alloc (by simp) _
  have B1 := hid hb1
  rw [hW0] at H5
  clear hb1 hW0 hsz
  have B2 : ∀ os, Below w.heap.size w (Go.Sort.grow ((w.alloc (.cells #[.int .i64 f.kind, .int .i64 f.subj, .int .i64 f.obj, .int .i64 f.val, .int .i64 f.frm, .int .i64 f.to, .int .i64 f.known, .int .i64 f.no] 28)).alloc (.cells #[.int .i64 f.frm, .int .i64 f.to] 26)) os) := fun os => (((Below.refl _ w).alloc (Nat.le_refl _) _).alloc (by simp) _).trans (below_os0 rfl (by simp; omega))
  have L6 : ∀ os, (Go.Sort.grow ((w.alloc (.cells #[.int .i64 f.kind, .int .i64 f.subj, .int .i64 f.obj, .int .i64 f.val, .int .i64 f.frm, .int .i64 f.to, .int .i64 f.known, .int .i64 f.no] 28)).alloc (.cells #[.int .i64 f.frm, .int .i64 f.to] 26)) os).cell? ⟨w.heap.size, 6, none⟩ = some (.int .i64 f.known) := fun os => by
    rw [Go.Sort.cell?_grow _ _ _ (by simp; omega)]; exact cell_alloc_l _ K0
  have L7 : ∀ os, (Go.Sort.grow ((w.alloc (.cells #[.int .i64 f.kind, .int .i64 f.subj, .int .i64 f.obj, .int .i64 f.val, .int .i64 f.frm, .int .i64 f.to, .int .i64 f.known, .int .i64 f.no] 28)).alloc (.cells #[.int .i64 f.frm, .int .i64 f.to] 26)) os).cell? ⟨w.heap.size, 7, none⟩ = some (.int .i64 f.no) := fun os => by
    rw [Go.Sort.cell?_grow _ _ _ (by simp; omega)]; exact cell_alloc_l _ K1
  have L6 := hid L6; have L7 := hid L7; have B2 := hid B2
  clear K0 K1
  rcases hc5 with rfl | rfl
  rotate_left
  · go_enter Try.func32, Try.ntmps32
    go_wp2_with (first | (go_at_call 48; (with_reducible refine (C1.out _).mono ?_); rintro e w' ⟨rfl, rfl⟩) | (go_at_call 48; (with_reducible refine (C2.out _).mono ?_); rintro e w' ⟨rfl, rfl⟩) | (go_at_call 48; (with_reducible refine (C3.out _).mono ?_); rintro e w' ⟨rfl, rfl⟩) | (go_at_call 48; (with_reducible refine (C4.out _).mono ?_); rintro e w' ⟨rfl, rfl⟩) | (go_at_call 49; refine (C5.out _ _ _ (by simp) H5.1 H5.2).mono ?_; rintro e w' ⟨rfl, os5, rfl⟩))
    go_ret
    exact ⟨rfl, B2.out _⟩
  cases b6
  · go_enter Try.func32, Try.ntmps32
    go_wp2_with (first | (go_at_call 48; (with_reducible refine (C1.out _).mono ?_); rintro e w' ⟨rfl, rfl⟩) | (go_at_call 48; (with_reducible refine (C2.out _).mono ?_); rintro e w' ⟨rfl, rfl⟩) | (go_at_call 48; (with_reducible refine (C3.out _).mono ?_); rintro e w' ⟨rfl, rfl⟩) | (go_at_call 48; (with_reducible refine (C4.out _).mono ?_); rintro e w' ⟨rfl, rfl⟩) | (go_at_call 49; refine (C5.out _ _ _ (by simp) H5.1 H5.2).mono ?_; rintro e w' ⟨rfl, os5, rfl⟩; have l6 := L6.out os5; have l7 := L7.out os5) | (go_at_call 48; (with_reducible refine (C6.out _).mono ?_); rintro e w' ⟨rfl, rfl⟩))
    go_ret
    exact ⟨rfl, B2.out _⟩
  cases b7
  · go_enter Try.func32, Try.ntmps32
    go_wp2_with (first | (go_at_call 48; (with_reducible refine (C1.out _).mono ?_); rintro e w' ⟨rfl, rfl⟩) | (go_at_call 48; (with_reducible refine (C2.out _).mono ?_); rintro e w' ⟨rfl, rfl⟩) | (go_at_call 48; (with_reducible refine (C3.out _).mono ?_); rintro e w' ⟨rfl, rfl⟩) | (go_at_call 48; (with_reducible refine (C4.out _).mono ?_); rintro e w' ⟨rfl, rfl⟩) | (go_at_call 49; refine (C5.out _ _ _ (by simp) H5.1 H5.2).mono ?_; rintro e w' ⟨rfl, os5, rfl⟩; have l6 := L6.out os5; have l7 := L7.out os5) | (go_at_call 48; (with_reducible refine (C6.out _).mono ?_); rintro e w' ⟨rfl, rfl⟩) | (go_at_call 48; (with_reducible refine (C7.out _).mono ?_); rintro e w' ⟨rfl, rfl⟩))
    go_ret
    exact ⟨rfl, B2.out _⟩
  · go_enter Try.func32, Try.ntmps32
    go_wp2_with (first | (go_at_call 48; (with_reducible refine (C1.out _).mono ?_); rintro e w' ⟨rfl, rfl⟩) | (go_at_call 48; (with_reducible refine (C2.out _).mono ?_); rintro e w' ⟨rfl, rfl⟩) | (go_at_call 48; (with_reducible refine (C3.out _).mono ?_); rintro e w' ⟨rfl, rfl⟩) | (go_at_call 48; (with_reducible refine (C4.out _).mono ?_); rintro e w' ⟨rfl, rfl⟩) | (go_at_call 49; refine (C5.out _ _ _ (by simp) H5.1 H5.2).mono ?_; rintro e w' ⟨rfl, os5, rfl⟩; have l6 := L6.out os5; have l7 := L7.out os5) | (go_at_call 48; (with_reducible refine (C6.out _).mono ?_); rintro e w' ⟨rfl, rfl⟩) | (go_at_call 48; (with_reducible refine (C7.out _).mono ?_); rintro e w' ⟨rfl, rfl⟩))
    go_ret
    exact ⟨rfl, B2.out _⟩
end Go.Proofs.Ytbejjindkcjecaa

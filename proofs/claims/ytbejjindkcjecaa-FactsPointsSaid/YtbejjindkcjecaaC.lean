/- Contracts: the order of facts, the order of keys. -/
import Derived.Test.YtbejjindkcjecaaRg
namespace Go.Proofs.Ytbejjindkcjecaa
open Go.RowKit Go
set_option linter.unusedVariables false
set_option linter.unusedSimpArgs false
/-- the order of facts: by time of knowledge, then by number -/
def ord (f g : FA) : Int := orl [cmpI f.known g.known, cmpI f.no g.no]
def okey (a b : KE) : Int := orl [cmpI a.1 b.1, cmpI a.2.1 b.2.1, cmpI a.2.2 b.2.2]
theorem cell_lit (w : World) (vs : Array Value) (e : TypeId) (j : Nat) (v : Value) (h : vs[j]? = some v) : (w.alloc (.cells vs e)).cell? ⟨w.heap.size, j, none⟩ = some v := by
  simp only [World.cell?, heap_alloc_new]
  exact h
theorem cell_alloc_l {w : World} {a : Addr} {v : Value} (o : Obj) (h : w.cell? a = some v) : (w.alloc o).cell? a = some v := by
  have hlt : a.block < w.heap.size := by
    rcases Nat.lt_or_ge a.block w.heap.size with hh | hh
    · exact hh
    · simp [World.cell?, Array.getElem?_eq_none hh] at h
  exact (((Below.refl _ w).alloc (Nat.le_refl _) o).cell hlt).trans h
theorem grow_more {w W0 : World} {os : Array Obj} (h : W0 = Go.Sort.grow w os) (o : Obj) : ∃ q os', (W0.alloc o).drew = Go.Sort.grow (w.drewN q) os' := ⟨1, os ++ #[o], by rw [h, Go.Sort.alloc_eq_grow, Go.Sort.grow_grow]; rfl⟩
theorem row_new (w : World) (l : List Int) (e : TypeId) : ∀ i z, l[i]? = some z → (w.alloc (.cells (l.map (Value.int .i64)).toArray e)).cell? ⟨w.heap.size, 0 + i, none⟩ = some (.int .i64 z) := by
  intro i z h
  rw [Nat.zero_add]
  simp only [World.cell?, heap_alloc_new]
  simp [h]
set_option maxRecDepth 100000 in
set_option maxHeartbeats 4000000 in
theorem order_any (f g : FA) (w : World) : Calls Try.prog 33 #[FV f, FV g] w fun e w' => e = .returned (.int .i64 (ord f g)) ∧ ∃ q os, w' = Go.Sort.grow (w.drewN q) os := by
  obtain ⟨x, hx⟩ : ∃ x, x = cmpI f.known g.known := ⟨_, rfl⟩
  obtain ⟨y, hy⟩ : ∃ y, y = cmpI f.no g.no := ⟨_, rfl⟩
  have ho : ord f g = orl [x, y] := by unfold ord; rw [hx, hy]
  have HO := hid ho
  have Cx := hid (fun W => compare_any f.known g.known W)
  rw [← hx] at Cx
  have Cy := hid (fun W => compare_any f.no g.no W)
  rw [← hy] at Cy
  clear ho hx hy
  have k0 := cell_alloc_l (.cells #[.int .i64 g.kind, .int .i64 g.subj, .int .i64 g.obj, .int .i64 g.val, .int .i64 g.frm, .int .i64 g.to, .int .i64 g.known, .int .i64 g.no] 28) (cell_lit w #[.int .i64 f.kind, .int .i64 f.subj, .int .i64 f.obj, .int .i64 f.val, .int .i64 f.frm, .int .i64 f.to, .int .i64 f.known, .int .i64 f.no] 28 6 (.int .i64 f.known) rfl)
  have m0 := cell_lit (w.alloc (.cells #[.int .i64 f.kind, .int .i64 f.subj, .int .i64 f.obj, .int .i64 f.val, .int .i64 f.frm, .int .i64 f.to, .int .i64 f.known, .int .i64 f.no] 28)) #[.int .i64 g.kind, .int .i64 g.subj, .int .i64 g.obj, .int .i64 g.val, .int .i64 g.frm, .int .i64 g.to, .int .i64 g.known, .int .i64 g.no] 28 6 (.int .i64 g.known) rfl
  have k1 := cell_alloc_l (.cells #[.int .i64 g.kind, .int .i64 g.subj, .int .i64 g.obj, .int .i64 g.val, .int .i64 g.frm, .int .i64 g.to, .int .i64 g.known, .int .i64 g.no] 28) (cell_lit w #[.int .i64 f.kind, .int .i64 f.subj, .int .i64 f.obj, .int .i64 f.val, .int .i64 f.frm, .int .i64 f.to, .int .i64 f.known, .int .i64 f.no] 28 7 (.int .i64 f.no) rfl)
  have m1 := cell_lit (w.alloc (.cells #[.int .i64 f.kind, .int .i64 f.subj, .int .i64 f.obj, .int .i64 f.val, .int .i64 f.frm, .int .i64 f.to, .int .i64 f.known, .int .i64 f.no] 28)) #[.int .i64 g.kind, .int .i64 g.subj, .int .i64 g.obj, .int .i64 g.val, .int .i64 g.frm, .int .i64 g.to, .int .i64 g.known, .int .i64 g.no] 28 7 (.int .i64 g.no) rfl
  simp only [World.size_alloc] at m0 m1
  go_enter Try.func33, Try.ntmps33
  go_wp2
  obtain ⟨W0, hW0⟩ : ∃ W0, W0 = (w.alloc (.cells #[.int .i64 f.kind, .int .i64 f.subj, .int .i64 f.obj, .int .i64 f.val, .int .i64 f.frm, .int .i64 f.to, .int .i64 f.known, .int .i64 f.no] 28)).alloc (.cells #[.int .i64 g.kind, .int .i64 g.subj, .int .i64 g.obj, .int .i64 g.val, .int .i64 g.frm, .int .i64 g.to, .int .i64 g.known, .int .i64 g.no] 28) := ⟨_, rfl⟩
  rw [← hW0] at k0 m0 k1 m1 ⊢
  have hG : W0 = Go.Sort.grow w (#[.cells #[.int .i64 f.kind, .int .i64 f.subj, .int .i64 f.obj, .int .i64 f.val, .int .i64 f.frm, .int .i64 f.to, .int .i64 f.known, .int .i64 f.no] 28] ++ #[.cells #[.int .i64 g.kind, .int .i64 g.subj, .int .i64 g.obj, .int .i64 g.val, .int .i64 g.frm, .int .i64 g.to, .int .i64 g.known, .int .i64 g.no] 28]) := by
    rw [hW0, Go.Sort.alloc_eq_grow, Go.Sort.alloc_eq_grow, Go.Sort.grow_grow]
  have HG := hid hG
  clear hW0 hG
  have HT := hid (show (fun W : World => W.cell? ⟨w.heap.size, 6, none⟩ = some (.int .i64 f.known) ∧ W.cell? ⟨w.heap.size + 1, 6, none⟩ = some (.int .i64 g.known) ∧ W.cell? ⟨w.heap.size, 7, none⟩ = some (.int .i64 f.no) ∧ W.cell? ⟨w.heap.size + 1, 7, none⟩ = some (.int .i64 g.no)) W0.drew from ⟨k0, m0, k1, m1⟩)
  clear k0 m0 k1 m1
  refine wa_start (S := (fun W : World => W.cell? ⟨w.heap.size, 6, none⟩ = some (.int .i64 f.known) ∧ W.cell? ⟨w.heap.size + 1, 6, none⟩ = some (.int .i64 g.known) ∧ W.cell? ⟨w.heap.size, 7, none⟩ = some (.int .i64 f.no) ∧ W.cell? ⟨w.heap.size + 1, 7, none⟩ = some (.int .i64 g.no))) (by kernel_rfl) HT.out ?_
  refine wa_tk 0 (some 5) (.pointer (some ⟨w.heap.size, 6, none⟩)) rfl (by kernel_rfl) rfl rfl HT.out (fun w h0 => by go_simp) ?_
  try simp only [Act.put, List.setIfInBounds_toArray, List.set_cons_zero, List.set_cons_succ]
  refine wa_tk 1 (some 6) (.int .i64 f.known) rfl (by kernel_rfl) rfl rfl HT.out (fun w h0 => by obtain ⟨c0, c1, c2, c3⟩ := h0; go_simp) ?_
  try simp only [Act.put, List.setIfInBounds_toArray, List.set_cons_zero, List.set_cons_succ]
  refine wa_tk 2 (some 7) (.pointer (some ⟨w.heap.size + 1, 6, none⟩)) rfl (by kernel_rfl) rfl rfl HT.out (fun w h0 => by go_simp) ?_
  try simp only [Act.put, List.setIfInBounds_toArray, List.set_cons_zero, List.set_cons_succ]
  refine wa_tk 3 (some 8) (.int .i64 g.known) rfl (by kernel_rfl) rfl rfl HT.out (fun w h0 => by obtain ⟨c0, c1, c2, c3⟩ := h0; go_simp) ?_
  try simp only [Act.put, List.setIfInBounds_toArray, List.set_cons_zero, List.set_cons_succ]
  refine wa_tk 5 (some 10) (.pointer (some ⟨w.heap.size, 7, none⟩)) rfl (by kernel_rfl) rfl rfl HT.out (fun w h0 => by go_simp) ?_
  try simp only [Act.put, List.setIfInBounds_toArray, List.set_cons_zero, List.set_cons_succ]
  refine wa_tk 6 (some 11) (.int .i64 f.no) rfl (by kernel_rfl) rfl rfl HT.out (fun w h0 => by obtain ⟨c0, c1, c2, c3⟩ := h0; go_simp) ?_
  try simp only [Act.put, List.setIfInBounds_toArray, List.set_cons_zero, List.set_cons_succ]
  refine wa_tk 7 (some 12) (.pointer (some ⟨w.heap.size + 1, 7, none⟩)) rfl (by kernel_rfl) rfl rfl HT.out (fun w h0 => by go_simp) ?_
  try simp only [Act.put, List.setIfInBounds_toArray, List.set_cons_zero, List.set_cons_succ]
  refine wa_tk 8 (some 13) (.int .i64 g.no) rfl (by kernel_rfl) rfl rfl HT.out (fun w h0 => by obtain ⟨c0, c1, c2, c3⟩ := h0; go_simp) ?_
  try simp only [Act.put, List.setIfInBounds_toArray, List.set_cons_zero, List.set_cons_succ]
  refine wa_branch [4] (by decide +kernel) rfl ?_
  refine ar_op 4 rfl rfl (fun K hK => ?_) ar_nil
  unfold Oper.wp
  go_simp
  go_at_call 51
  refine (Cx.out _).mono ?_
  rintro e w' ⟨rfl, rfl⟩
  go_simp
  refine hK.out _ _ HT.out ?_
  clear hK K
  try simp only [Act.put, List.setIfInBounds_toArray, List.set_cons_zero, List.set_cons_succ]
  refine wa_branch [9] (by decide +kernel) rfl ?_
  refine ar_op 9 rfl rfl (fun K hK => ?_) ar_nil
  unfold Oper.wp
  go_simp
  go_at_call 51
  refine (Cy.out _).mono ?_
  rintro e w' ⟨rfl, rfl⟩
  go_simp
  refine hK.out _ _ HT.out ?_
  clear hK K
  try simp only [Act.put, List.setIfInBounds_toArray, List.set_cons_zero, List.set_cons_succ]
  refine wa_branch [10] (by decide +kernel) rfl ?_
  refine ar_op 10 rfl rfl (fun K hK => ?_) ar_nil
  unfold Oper.wp
  go_simp
  have HT := hid (show (fun W : World => W.cell? ⟨w.heap.size, 6, none⟩ = some (.int .i64 f.known) ∧ W.cell? ⟨w.heap.size + 1, 6, none⟩ = some (.int .i64 g.known) ∧ W.cell? ⟨w.heap.size, 7, none⟩ = some (.int .i64 f.no) ∧ W.cell? ⟨w.heap.size + 1, 7, none⟩ = some (.int .i64 g.no)) (W0.drew.alloc (.cells #[.int .i64 x, .int .i64 y] 3)) from ⟨cell_alloc_l _ HT.out.1, cell_alloc_l _ HT.out.2.1, cell_alloc_l _ HT.out.2.2.1, cell_alloc_l _ HT.out.2.2.2⟩)
  refine hK.out _ _ HT.out ?_
  clear hK K
  try simp only [Act.put, List.setIfInBounds_toArray, List.set_cons_zero, List.set_cons_succ]
  refine wa_branch [11] (by decide +kernel) rfl ?_
  refine ar_op 11 rfl rfl (fun K hK => ?_) ar_nil
  unfold Oper.wp
  go_simp
  go_at_call 50
  refine (or_any W0.heap.size 0 2 2 [x, y] _ rfl (row_new W0.drew [x, y] 3) (by omega)).mono ?_
  rintro e w' ⟨rfl, rfl⟩
  go_simp
  refine hK.out _ _ HT.out ?_
  clear hK K
  try simp only [Act.put, List.setIfInBounds_toArray, List.set_cons_zero, List.set_cons_succ]
  refine wa_branch [12] (by decide +kernel) rfl ?_
  refine ar_op 12 rfl rfl (fun K hK => ?_) ar_nil
  unfold Oper.wp
  go_simp
  refine hK.out _ _ HT.out ?_
  clear hK K
  try simp only [Act.put, List.setIfInBounds_toArray, List.set_cons_zero, List.set_cons_succ]
  refine wa_done (by decide +kernel) ?_
  clear HT
  go_wp2
  go_ret
  exact ⟨by rw [HO.out]; rfl, grow_more HG.out _⟩
set_option maxRecDepth 100000 in
set_option maxHeartbeats 4000000 in
theorem okey_any (a b : KE) (w : World) : Calls Try.prog 42 #[KV a, KV b] w fun e w' => e = .returned (.int .i64 (okey a b)) ∧ ∃ q os, w' = Go.Sort.grow (w.drewN q) os := by
  obtain ⟨x, hx⟩ : ∃ x, x = cmpI a.1 b.1 := ⟨_, rfl⟩
  obtain ⟨y, hy⟩ : ∃ y, y = cmpI a.2.1 b.2.1 := ⟨_, rfl⟩
  obtain ⟨z, hz⟩ : ∃ z, z = cmpI a.2.2 b.2.2 := ⟨_, rfl⟩
  have ho : okey a b = orl [x, y, z] := by unfold okey; rw [hx, hy, hz]
  have HO := hid ho
  have Cx := hid (fun W => compare_any a.1 b.1 W)
  rw [← hx] at Cx
  have Cy := hid (fun W => compare_any a.2.1 b.2.1 W)
  rw [← hy] at Cy
  have Cz := hid (fun W => compare_any a.2.2 b.2.2 W)
  rw [← hz] at Cz
  clear ho hx hy hz
  have k0 := cell_alloc_l (.cells #[.int .i64 b.1, .int .i64 b.2.1, .int .i64 b.2.2] 24) (cell_lit w #[.int .i64 a.1, .int .i64 a.2.1, .int .i64 a.2.2] 24 0 (.int .i64 a.1) rfl)
  have m0 := cell_lit (w.alloc (.cells #[.int .i64 a.1, .int .i64 a.2.1, .int .i64 a.2.2] 24)) #[.int .i64 b.1, .int .i64 b.2.1, .int .i64 b.2.2] 24 0 (.int .i64 b.1) rfl
  have k1 := cell_alloc_l (.cells #[.int .i64 b.1, .int .i64 b.2.1, .int .i64 b.2.2] 24) (cell_lit w #[.int .i64 a.1, .int .i64 a.2.1, .int .i64 a.2.2] 24 1 (.int .i64 a.2.1) rfl)
  have m1 := cell_lit (w.alloc (.cells #[.int .i64 a.1, .int .i64 a.2.1, .int .i64 a.2.2] 24)) #[.int .i64 b.1, .int .i64 b.2.1, .int .i64 b.2.2] 24 1 (.int .i64 b.2.1) rfl
  have k2 := cell_alloc_l (.cells #[.int .i64 b.1, .int .i64 b.2.1, .int .i64 b.2.2] 24) (cell_lit w #[.int .i64 a.1, .int .i64 a.2.1, .int .i64 a.2.2] 24 2 (.int .i64 a.2.2) rfl)
  have m2 := cell_lit (w.alloc (.cells #[.int .i64 a.1, .int .i64 a.2.1, .int .i64 a.2.2] 24)) #[.int .i64 b.1, .int .i64 b.2.1, .int .i64 b.2.2] 24 2 (.int .i64 b.2.2) rfl
  simp only [World.size_alloc] at m0 m1 m2
  go_enter Try.func42, Try.ntmps42
  go_wp2
  obtain ⟨W0, hW0⟩ : ∃ W0, W0 = (w.alloc (.cells #[.int .i64 a.1, .int .i64 a.2.1, .int .i64 a.2.2] 24)).alloc (.cells #[.int .i64 b.1, .int .i64 b.2.1, .int .i64 b.2.2] 24) := ⟨_, rfl⟩
  rw [← hW0] at k0 m0 k1 m1 k2 m2 ⊢
  have hG : W0 = Go.Sort.grow w (#[.cells #[.int .i64 a.1, .int .i64 a.2.1, .int .i64 a.2.2] 24] ++ #[.cells #[.int .i64 b.1, .int .i64 b.2.1, .int .i64 b.2.2] 24]) := by
    rw [hW0, Go.Sort.alloc_eq_grow, Go.Sort.alloc_eq_grow, Go.Sort.grow_grow]
  have HG := hid hG
  clear hW0 hG
  have HT := hid (show (fun W : World => W.cell? ⟨w.heap.size, 0, none⟩ = some (.int .i64 a.1) ∧ W.cell? ⟨w.heap.size + 1, 0, none⟩ = some (.int .i64 b.1) ∧ W.cell? ⟨w.heap.size, 1, none⟩ = some (.int .i64 a.2.1) ∧ W.cell? ⟨w.heap.size + 1, 1, none⟩ = some (.int .i64 b.2.1) ∧ W.cell? ⟨w.heap.size, 2, none⟩ = some (.int .i64 a.2.2) ∧ W.cell? ⟨w.heap.size + 1, 2, none⟩ = some (.int .i64 b.2.2)) W0.drew from ⟨k0, m0, k1, m1, k2, m2⟩)
  clear k0 m0 k1 m1 k2 m2
  refine wa_start (S := (fun W : World => W.cell? ⟨w.heap.size, 0, none⟩ = some (.int .i64 a.1) ∧ W.cell? ⟨w.heap.size + 1, 0, none⟩ = some (.int .i64 b.1) ∧ W.cell? ⟨w.heap.size, 1, none⟩ = some (.int .i64 a.2.1) ∧ W.cell? ⟨w.heap.size + 1, 1, none⟩ = some (.int .i64 b.2.1) ∧ W.cell? ⟨w.heap.size, 2, none⟩ = some (.int .i64 a.2.2) ∧ W.cell? ⟨w.heap.size + 1, 2, none⟩ = some (.int .i64 b.2.2))) (by kernel_rfl) HT.out ?_
  refine wa_tk 0 (some 5) (.pointer (some ⟨w.heap.size, 0, none⟩)) rfl (by kernel_rfl) rfl rfl HT.out (fun w h0 => by go_simp) ?_
  try simp only [Act.put, List.setIfInBounds_toArray, List.set_cons_zero, List.set_cons_succ]
  refine wa_tk 1 (some 6) (.int .i64 a.1) rfl (by kernel_rfl) rfl rfl HT.out (fun w h0 => by obtain ⟨c0, c1, c2, c3, c4, c5⟩ := h0; go_simp) ?_
  try simp only [Act.put, List.setIfInBounds_toArray, List.set_cons_zero, List.set_cons_succ]
  refine wa_tk 2 (some 7) (.pointer (some ⟨w.heap.size + 1, 0, none⟩)) rfl (by kernel_rfl) rfl rfl HT.out (fun w h0 => by go_simp) ?_
  try simp only [Act.put, List.setIfInBounds_toArray, List.set_cons_zero, List.set_cons_succ]
  refine wa_tk 3 (some 8) (.int .i64 b.1) rfl (by kernel_rfl) rfl rfl HT.out (fun w h0 => by obtain ⟨c0, c1, c2, c3, c4, c5⟩ := h0; go_simp) ?_
  try simp only [Act.put, List.setIfInBounds_toArray, List.set_cons_zero, List.set_cons_succ]
  refine wa_tk 5 (some 10) (.pointer (some ⟨w.heap.size, 1, none⟩)) rfl (by kernel_rfl) rfl rfl HT.out (fun w h0 => by go_simp) ?_
  try simp only [Act.put, List.setIfInBounds_toArray, List.set_cons_zero, List.set_cons_succ]
  refine wa_tk 6 (some 11) (.int .i64 a.2.1) rfl (by kernel_rfl) rfl rfl HT.out (fun w h0 => by obtain ⟨c0, c1, c2, c3, c4, c5⟩ := h0; go_simp) ?_
  try simp only [Act.put, List.setIfInBounds_toArray, List.set_cons_zero, List.set_cons_succ]
  refine wa_tk 7 (some 12) (.pointer (some ⟨w.heap.size + 1, 1, none⟩)) rfl (by kernel_rfl) rfl rfl HT.out (fun w h0 => by go_simp) ?_
  try simp only [Act.put, List.setIfInBounds_toArray, List.set_cons_zero, List.set_cons_succ]
  refine wa_tk 8 (some 13) (.int .i64 b.2.1) rfl (by kernel_rfl) rfl rfl HT.out (fun w h0 => by obtain ⟨c0, c1, c2, c3, c4, c5⟩ := h0; go_simp) ?_
  try simp only [Act.put, List.setIfInBounds_toArray, List.set_cons_zero, List.set_cons_succ]
  refine wa_tk 10 (some 15) (.pointer (some ⟨w.heap.size, 2, none⟩)) rfl (by kernel_rfl) rfl rfl HT.out (fun w h0 => by go_simp) ?_
  try simp only [Act.put, List.setIfInBounds_toArray, List.set_cons_zero, List.set_cons_succ]
  refine wa_tk 11 (some 16) (.int .i64 a.2.2) rfl (by kernel_rfl) rfl rfl HT.out (fun w h0 => by obtain ⟨c0, c1, c2, c3, c4, c5⟩ := h0; go_simp) ?_
  try simp only [Act.put, List.setIfInBounds_toArray, List.set_cons_zero, List.set_cons_succ]
  refine wa_tk 12 (some 17) (.pointer (some ⟨w.heap.size + 1, 2, none⟩)) rfl (by kernel_rfl) rfl rfl HT.out (fun w h0 => by go_simp) ?_
  try simp only [Act.put, List.setIfInBounds_toArray, List.set_cons_zero, List.set_cons_succ]
  refine wa_tk 13 (some 18) (.int .i64 b.2.2) rfl (by kernel_rfl) rfl rfl HT.out (fun w h0 => by obtain ⟨c0, c1, c2, c3, c4, c5⟩ := h0; go_simp) ?_
  try simp only [Act.put, List.setIfInBounds_toArray, List.set_cons_zero, List.set_cons_succ]
  refine wa_branch [4] (by decide +kernel) rfl ?_
  refine ar_op 4 rfl rfl (fun K hK => ?_) ar_nil
  unfold Oper.wp
  go_simp
  go_at_call 51
  refine (Cx.out _).mono ?_
  rintro e w' ⟨rfl, rfl⟩
  go_simp
  refine hK.out _ _ HT.out ?_
  clear hK K
  try simp only [Act.put, List.setIfInBounds_toArray, List.set_cons_zero, List.set_cons_succ]
  refine wa_branch [9] (by decide +kernel) rfl ?_
  refine ar_op 9 rfl rfl (fun K hK => ?_) ar_nil
  unfold Oper.wp
  go_simp
  go_at_call 51
  refine (Cy.out _).mono ?_
  rintro e w' ⟨rfl, rfl⟩
  go_simp
  refine hK.out _ _ HT.out ?_
  clear hK K
  try simp only [Act.put, List.setIfInBounds_toArray, List.set_cons_zero, List.set_cons_succ]
  refine wa_branch [14] (by decide +kernel) rfl ?_
  refine ar_op 14 rfl rfl (fun K hK => ?_) ar_nil
  unfold Oper.wp
  go_simp
  go_at_call 51
  refine (Cz.out _).mono ?_
  rintro e w' ⟨rfl, rfl⟩
  go_simp
  refine hK.out _ _ HT.out ?_
  clear hK K
  try simp only [Act.put, List.setIfInBounds_toArray, List.set_cons_zero, List.set_cons_succ]
  refine wa_branch [15] (by decide +kernel) rfl ?_
  refine ar_op 15 rfl rfl (fun K hK => ?_) ar_nil
  unfold Oper.wp
  go_simp
  have HT := hid (show (fun W : World => W.cell? ⟨w.heap.size, 0, none⟩ = some (.int .i64 a.1) ∧ W.cell? ⟨w.heap.size + 1, 0, none⟩ = some (.int .i64 b.1) ∧ W.cell? ⟨w.heap.size, 1, none⟩ = some (.int .i64 a.2.1) ∧ W.cell? ⟨w.heap.size + 1, 1, none⟩ = some (.int .i64 b.2.1) ∧ W.cell? ⟨w.heap.size, 2, none⟩ = some (.int .i64 a.2.2) ∧ W.cell? ⟨w.heap.size + 1, 2, none⟩ = some (.int .i64 b.2.2)) (W0.drew.alloc (.cells #[.int .i64 x, .int .i64 y, .int .i64 z] 3)) from ⟨cell_alloc_l _ HT.out.1, cell_alloc_l _ HT.out.2.1, cell_alloc_l _ HT.out.2.2.1, cell_alloc_l _ HT.out.2.2.2.1, cell_alloc_l _ HT.out.2.2.2.2.1, cell_alloc_l _ HT.out.2.2.2.2.2⟩)
  refine hK.out _ _ HT.out ?_
  clear hK K
  try simp only [Act.put, List.setIfInBounds_toArray, List.set_cons_zero, List.set_cons_succ]
  refine wa_branch [16] (by decide +kernel) rfl ?_
  refine ar_op 16 rfl rfl (fun K hK => ?_) ar_nil
  unfold Oper.wp
  go_simp
  go_at_call 50
  refine (or_any W0.heap.size 0 3 3 [x, y, z] _ rfl (row_new W0.drew [x, y, z] 3) (by omega)).mono ?_
  rintro e w' ⟨rfl, rfl⟩
  go_simp
  refine hK.out _ _ HT.out ?_
  clear hK K
  try simp only [Act.put, List.setIfInBounds_toArray, List.set_cons_zero, List.set_cons_succ]
  refine wa_branch [17] (by decide +kernel) rfl ?_
  refine ar_op 17 rfl rfl (fun K hK => ?_) ar_nil
  unfold Oper.wp
  go_simp
  refine hK.out _ _ HT.out ?_
  clear hK K
  try simp only [Act.put, List.setIfInBounds_toArray, List.set_cons_zero, List.set_cons_succ]
  refine wa_done (by decide +kernel) ?_
  clear HT
  go_wp2
  go_ret
  exact ⟨by rw [HO.out]; rfl, grow_more HG.out _⟩
end Go.Proofs.Ytbejjindkcjecaa

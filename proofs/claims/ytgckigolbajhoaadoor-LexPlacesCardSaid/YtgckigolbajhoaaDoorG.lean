/- Contract: the reader's take. -/
import Derived.Test.YtgckigolbajhoaaDoorF
namespace Go.Proofs.YtgckigolbajhoaaDoor
open Go.RowKit Go
set_option linter.unusedVariables false
set_option linter.unusedSimpArgs false
set_option maxRecDepth 100000 in
set_option maxHeartbeats 8000000 in
theorem take_any {rb base a : Nat} {s : ByteArray} {v : Value} {l : List Tk} (k : Int) (t : List UInt8) (n z : Int) (m : Nat) (w : World) (h : Rdr w rb base s a v l) (ha : a ≤ 100000) (hm : m ≤ 100000) (hl : l.length ≤ 100000) :
    Calls Tryd.prog 52 #[.pointer (some ⟨rb, 0, none⟩), .agg #[.int .i64 k, .string ⟨t.toArray⟩, .int .i64 n, .int .i64 z], .int .i64 m] w fun e w' => e = .returned (.tuple #[]) ∧ (∃ u, Rdr w' rb base s (a + m) u (l ++ [⟨k, t, n, a⟩])) ∧ Kpb base rb w w' := by
  obtain ⟨Z, hZ⟩ : ∃ Z, Z = w.alloc (.cells #[.int .i64 k, .string ⟨t.toArray⟩, .int .i64 n, .int .i64 a] 35) := ⟨_, rfl⟩
  obtain ⟨bx, hbx⟩ : ∃ bx, bx = w.heap.size := ⟨_, rfl⟩
  have hbZ : Below w.heap.size w Z := by rw [hZ]; exact (Below.refl _ w).alloc (Nat.le_refl _) _
  have bB : Blk Z bx 35 (kc ⟨k, t, n, a⟩) := by
    rw [hZ, hbx]; exact Blk.new w 35 (kc ⟨k, t, n, a⟩)
  have hR : Rdr Z rb base s a v l := h.below hbZ
  obtain ⟨g, cap, w7, happ, hown, hgr⟩ := app_one (t := 23) Tryd.underlying23 info35 kc_len (by omega) (by omega) kc_one (hR.below (Below.refl _ Z).drew).own ⟨k, t, n, a⟩ (by omega) hR.le
  obtain ⟨u, hu⟩ : ∃ u, u = Value.slice (some ⟨g, 0, none⟩) (l.length + 1) cap := ⟨_, rfl⟩
  rw [← hu] at happ hown
  have hbv : v.ownBlock ≠ some rb := fun e => hR.ne rb e rfl
  have hbb : v.ownBlock ≠ some bx := fun e => by have := (h.own.lt bx e).2; omega
  have hb7 : Below base Z w7 := ((Below.refl base Z).drew.alloc hR.le _).grown hgr (by rw [World.size_alloc]; exact Nat.le_succ_of_le hR.le) (fun j hj => (hR.own.lt j hj).1)
  have hA : ∀ W, Blk W bx 35 (kc ⟨k, t, n, a⟩) → At4 W bx 0 ⟨k, t, n, a⟩ := fun W hW => ⟨hW.cell 0 _ rfl, hW.cell 1 _ rfl, hW.cell 2 _ rfl, hW.cell 3 _ rfl⟩
  have hbA : Below Z.heap.size Z ((Z.alloc (.cells #[.int .i64 k, .string ⟨t.toArray⟩, .int .i64 n, .int .i64 a] 35)).drew) := ((Below.refl _ Z).alloc (Nat.le_refl _) _).drew
  have HS1 := hid (show Z.drew.cell? ⟨rb, 2, none⟩ = some v ∧ At4 Z.drew bx 0 ⟨k, t, n, a⟩ from ⟨hR.blk.cell 2 _ rfl, hA _ (bB.below (Below.refl _ Z).drew bB.lt)⟩)
  have HS2 := hid (show ((Z.alloc (.cells #[.int .i64 k, .string ⟨t.toArray⟩, .int .i64 n, .int .i64 a] 35)).drew).cell? ⟨rb, 2, none⟩ = some v ∧ At4 ((Z.alloc (.cells #[.int .i64 k, .string ⟨t.toArray⟩, .int .i64 n, .int .i64 a] 35)).drew) bx 0 ⟨k, t, n, a⟩ from
    ⟨(hR.blk.below hbA hR.blk.lt).cell 2 _ rfl, hA _ (bB.below hbA bB.lt)⟩)
  have hk7 : Blk w7 rb 45 [.string s, .int .i64 a, v] := (hR.blk.below hbA hR.blk.lt).kept hgr (fun e => hbv e.symm)
  have hx7 : Blk w7 bx 35 (kc ⟨k, t, n, a⟩) := (bB.below hbA bB.lt).kept hgr (fun e => hbb e.symm)
  have HS3 := hid (show w7.cell? ⟨rb, 2, none⟩ = some v ∧ At4 w7 bx 0 ⟨k, t, n, a⟩ from ⟨hk7.cell 2 _ rfl, hA _ hx7⟩)
  have HF3 := hid (hk7.frozen 2)
  have HAPP := hid happ
  obtain ⟨Y, hY⟩ : ∃ Y, Y = w7.setCell ⟨rb, 2, none⟩ u := ⟨_, rfl⟩
  have hRY : Rdr Y rb base s a u (l ++ [⟨k, t, n, a⟩]) := by rw [hY]; exact hR.row hb7 hown
  have hKY : Kpb base rb w Y := by rw [hY]; exact ((Kpb.of (hbZ.mono h.le)).trans (.of hb7)).trans (Kpb.set _ _ _ _ _)
  have HRF := hid (hRY.at' (a + m))
  have HKF := hid (hKY.trans (Kpb.set base rb Y 1 (.int .i64 ((a + m : Nat) : Int))))
  have HY := hid hY
  have cy := hid (hRY.blk.cell 1 _ rfl)
  have fy := hid (hRY.blk.frozen 1)
  have c1 := h.blk.cell 1 _ rfl
  have c1' := ((Below.refl _ w).alloc (Nat.le_refl _) (.cells #[.int .i64 k, .string ⟨t.toArray⟩, .int .i64 n, .int .i64 z] 35)).cell (p := ⟨rb, 1, none⟩) h.blk.lt
  rw [c1] at c1'
  have HW := hid (wrap_id (x := (a : Int) + m) (by omega) (by omega))
  clear hRY hKY hY hk7 hx7 hbA hA hb7 hbb hbv hgr hown happ hR bB hbZ h c1
  subst hu
  go_enter Tryd.func52, Tryd.ntmps52
  go_upto_region 2 with fail
  rw [← hbx]
  rw [← hZ]
  clear hZ c1' hbx
  refine va_start (S := fun W => W.cell? ⟨rb, 2, none⟩ = some v ∧ At4 W bx 0 ⟨k, t, n, a⟩) 10 (by kernel_rfl) ?_
  refine va_tk 0 (some 11) (.pointer (some ⟨rb, 0, none⟩)) rfl (by kernel_rfl) rfl rfl HS1.out (fun w h0 => by go_simp) ?_
  try simp only [Act.put, List.setIfInBounds_toArray, List.set_cons_zero, List.set_cons_succ]
  refine va_tk 1 (some 12) (.pointer (some ⟨rb, 0, none⟩)) rfl (by kernel_rfl) rfl rfl HS1.out (fun w h0 => by go_simp) ?_
  try simp only [Act.put, List.setIfInBounds_toArray, List.set_cons_zero, List.set_cons_succ]
  refine va_tk 2 (some 13) (.pointer (some ⟨rb, 0, none⟩)) rfl (by kernel_rfl) rfl rfl HS1.out (fun w h0 => by go_simp) ?_
  try simp only [Act.put, List.setIfInBounds_toArray, List.set_cons_zero, List.set_cons_succ]
  refine va_tk 3 (some 14) (.pointer (some ⟨rb, 2, none⟩)) rfl (by kernel_rfl) rfl rfl HS1.out (fun w h0 => by go_simp) ?_
  try simp only [Act.put, List.setIfInBounds_toArray, List.set_cons_zero, List.set_cons_succ]
  refine va_tk 4 (some 15) (v) rfl (by kernel_rfl) rfl rfl HS1.out (fun w h0 => by have c2 := h0.1; go_simp) ?_
  try simp only [Act.put, List.setIfInBounds_toArray, List.set_cons_zero, List.set_cons_succ]
  refine va_tk 5 (some 16) (.agg #[.int .i64 k, .string ⟨t.toArray⟩, .int .i64 n, .int .i64 a]) rfl (by kernel_rfl) rfl rfl HS1.out (fun w h0 => by obtain ⟨_, k0, k1, k2, k3⟩ := h0; simp only [Nat.zero_add] at k0 k1 k2 k3; go_simp) ?_
  try simp only [Act.put, List.setIfInBounds_toArray, List.set_cons_zero, List.set_cons_succ]
  refine va_branch [6] (by decide +kernel) rfl ?_
  refine vr_op 6 rfl rfl (fun K hK => ?_) vr_nil
  unfold Oper.wp
  go_simp
  refine hK.out _ _ (.inr HS2.out) ?_
  clear hK K
  try simp only [Act.put, List.setIfInBounds_toArray, List.set_cons_zero, List.set_cons_succ]
  refine va_branch [7] (by decide +kernel) rfl ?_
  refine vr_op 7 rfl rfl (fun K hK => ?_) vr_nil
  refine st_append (some 18) rfl (.tmp 15) (.tmp 17) 23 23 rfl rfl v _ _ w7 rfl rfl HAPP.out ?_
  refine hK.out _ _ (.inr HS3.out) ?_
  clear hK K
  try simp only [Act.put, List.setIfInBounds_toArray, List.set_cons_zero, List.set_cons_succ]
  refine va_branch [8] (by decide +kernel) rfl ?_
  refine vr_op 8 rfl rfl (fun K hK => ?_) vr_nil
  unfold Oper.wp
  go_simp
  refine hK.out _ _ (.inr HS3.out) ?_
  clear hK K
  try simp only [Act.put, List.setIfInBounds_toArray, List.set_cons_zero, List.set_cons_succ]
  refine va_tk 9 (some 20) (.pointer (some ⟨rb, 2, none⟩)) rfl (by kernel_rfl) rfl rfl HS3.out (fun w h0 => by go_simp) ?_
  try simp only [Act.put, List.setIfInBounds_toArray, List.set_cons_zero, List.set_cons_succ]
  have k1 := HS3.out.1
  have k2 := HF3.out
  refine va_branch [10] (by decide +kernel) rfl ?_
  refine vr_op 10 rfl rfl (fun K hK => ?_) vr_nil
  unfold Oper.wp
  go_simp
  refine hK.out _ _ (.inl rfl) ?_
  clear hK K
  try simp only [Act.put, List.setIfInBounds_toArray, List.set_cons_zero, List.set_cons_succ]
  refine va_done (by decide +kernel) ?_
  clear k1 k2
  rw [← HY.out]
  have cy' := cy.out
  have fy' := fy.out
  have hw' := HW.out
  go_wp2
  go_end0
  exact ⟨rfl, ⟨_, HRF.out⟩, HKF.out⟩
end Go.Proofs.YtgckigolbajhoaaDoor

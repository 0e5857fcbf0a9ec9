/- Contract: the reader's space. -/
import Derived.Test.YtgckigolbajhoaaDoorE
import Derived.Test.YtgckigolbajhoaaDoorRh
namespace Go.Proofs.YtgckigolbajhoaaDoor
open Go.RowKit Go
set_option linter.unusedVariables false
set_option linter.unusedSimpArgs false
theorem wrap_id {x : Int} (h : -9223372036854775808 ≤ x) (h2 : x ≤ 9223372036854775807) : IntKind.i64.wrap x = x := by rw [IntKind.wrap_i64]; omega
set_option maxRecDepth 100000 in
set_option maxHeartbeats 4000000 in
theorem space_any {rb base a : Nat} {s : ByteArray} {v : Value} {l : List Tk} (w : World) (h : Rdr w rb base s a v l) (hk : Konst w) (hs : s.size ≤ 70000) (ha : a ≤ s.size) :
    Calls Tryd.prog 40 #[.pointer (some ⟨rb, 0, none⟩)] w fun e w' => e = .returned (.tuple #[]) ∧ Rdr w' rb base s (a + (((lst s).drop a).takeWhile L9.isW).length) v l ∧ Kpb base rb w w' := by
  have HC0 := hid (h.blk.cell 0 _ rfl)
  have HC1 := hid (h.blk.cell 1 _ rfl)
  have HRB := hid h.blk.lt
  have HR := hid h
  have hx := lst_extract s a s.size
  rw [List.take_of_length_le (by simp)] at hx
  obtain ⟨q, hq⟩ : ∃ q, q = s.extract a s.size := ⟨_, rfl⟩
  have HQ := hid hq
  have H1 := hid (show (a : Int) ≤ s.size by omega)
  have hlq : lst q = (lst s).drop a := by rw [hq, hx]
  have hsz : (lst s).length = s.size := rfl
  have hqs : q.size = s.size - a := by
    have : (lst q).length = q.size := rfl
    rw [← this, hlq, List.length_drop, hsz]
  have hHT2 : Below w.heap.size w ((w.alloc (.cells #[.int .u8 1] 49)).drew) := ((Below.refl _ w).alloc (Nat.le_refl _) _).drew
  have hC := count_any q w.heap.size 1 1 [1] ((w.alloc (.cells #[.int .u8 1] 49)).drew) (hk.up hHT2) (by unfold maxLen; omega) rfl (by omega) (fun i z h => zs_new w [1] 49 i z h)
  rw [tw_eq _ _ inC_W, hlq] at hC
  obtain ⟨m, hm⟩ : ∃ m, m = (((lst s).drop a).takeWhile L9.isW).length := ⟨_, rfl⟩
  rw [← hm] at hC ⊢
  have HCN := hid hC
  have HA := hid (show a ≤ 70000 by omega)
  have HM := hid (show m ≤ 70000 by rw [hm]; refine Nat.le_trans (L9.tw_le _ _) ?_; rw [List.length_drop]; omega)
  have HT2 := hid hHT2
  have HR2 := hid (h.below hHT2)
  have HW := hid (wrap_id (x := (a : Int) + m) (by have := HA.out; have := HM.out; omega) (by have := HA.out; have := HM.out; omega))
  have hal : Below w.heap.size w (w.alloc (.cells #[.int .u8 1] 49)) := (Below.refl _ w).alloc (Nat.le_refl _) _
  have HRF := hid (((h.below hal).at' (a + m)).below (Below.refl _ _).drew)
  have HKF := hid ((Kpb.of (base := base) (rb := rb) (hal.mono h.le)).trans ((Kpb.set base rb _ 1 (.int .i64 ((a + m : Nat) : Int))).trans (.of (Below.refl _ _).drew)))
  clear h hq hlq hsz hqs hC hm hx hHT2 hk hs ha hal
  go_enter Tryd.func40, Tryd.ntmps40
  have HT := hid (show Below w.heap.size w w.drew from (Below.refl _ w).drew)
  refine va_start (S := fun W => Below w.heap.size w W) 18 (by kernel_rfl) ?_
  refine va_tk 0 (some 2) (.pointer (some ⟨rb, 0, none⟩)) rfl (by kernel_rfl) rfl rfl HT.out (fun w h0 => by go_simp) ?_
  try simp only [Act.put, List.setIfInBounds_toArray, List.set_cons_zero, List.set_cons_succ]
  refine va_tk 1 (some 3) (.pointer (some ⟨rb, 0, none⟩)) rfl (by kernel_rfl) rfl rfl HT.out (fun w h0 => by go_simp) ?_
  try simp only [Act.put, List.setIfInBounds_toArray, List.set_cons_zero, List.set_cons_succ]
  refine va_tk 2 (some 4) (.pointer (some ⟨rb, 1, none⟩)) rfl (by kernel_rfl) rfl rfl HT.out (fun w h0 => by go_simp) ?_
  try simp only [Act.put, List.setIfInBounds_toArray, List.set_cons_zero, List.set_cons_succ]
  refine va_tk 3 (some 5) (.int .i64 a) rfl (by kernel_rfl) rfl rfl HT.out (fun w h0 => by have e1 := (h0.cell (p := ⟨rb, 1, none⟩) HRB.out).trans HC1.out; go_simp) ?_
  try simp only [Act.put, List.setIfInBounds_toArray, List.set_cons_zero, List.set_cons_succ]
  refine va_tk 4 (some 6) (.pointer (some ⟨rb, 0, none⟩)) rfl (by kernel_rfl) rfl rfl HT.out (fun w h0 => by go_simp) ?_
  try simp only [Act.put, List.setIfInBounds_toArray, List.set_cons_zero, List.set_cons_succ]
  refine va_tk 5 (some 7) (.pointer (some ⟨rb, 0, none⟩)) rfl (by kernel_rfl) rfl rfl HT.out (fun w h0 => by go_simp) ?_
  try simp only [Act.put, List.setIfInBounds_toArray, List.set_cons_zero, List.set_cons_succ]
  refine va_tk 6 (some 8) (.pointer (some ⟨rb, 0, none⟩)) rfl (by kernel_rfl) rfl rfl HT.out (fun w h0 => by go_simp) ?_
  try simp only [Act.put, List.setIfInBounds_toArray, List.set_cons_zero, List.set_cons_succ]
  refine va_tk 7 (some 9) (.string s) rfl (by kernel_rfl) rfl rfl HT.out (fun w h0 => by have e0 := (h0.cell (p := ⟨rb, 0, none⟩) HRB.out).trans HC0.out; go_simp) ?_
  try simp only [Act.put, List.setIfInBounds_toArray, List.set_cons_zero, List.set_cons_succ]
  refine va_tk 8 (some 10) (.pointer (some ⟨rb, 0, none⟩)) rfl (by kernel_rfl) rfl rfl HT.out (fun w h0 => by go_simp) ?_
  try simp only [Act.put, List.setIfInBounds_toArray, List.set_cons_zero, List.set_cons_succ]
  refine va_tk 9 (some 11) (.pointer (some ⟨rb, 0, none⟩)) rfl (by kernel_rfl) rfl rfl HT.out (fun w h0 => by go_simp) ?_
  try simp only [Act.put, List.setIfInBounds_toArray, List.set_cons_zero, List.set_cons_succ]
  refine va_tk 10 (some 12) (.pointer (some ⟨rb, 1, none⟩)) rfl (by kernel_rfl) rfl rfl HT.out (fun w h0 => by go_simp) ?_
  try simp only [Act.put, List.setIfInBounds_toArray, List.set_cons_zero, List.set_cons_succ]
  refine va_tk 11 (some 13) (.int .i64 a) rfl (by kernel_rfl) rfl rfl HT.out (fun w h0 => by have e1 := (h0.cell (p := ⟨rb, 1, none⟩) HRB.out).trans HC1.out; go_simp) ?_
  try simp only [Act.put, List.setIfInBounds_toArray, List.set_cons_zero, List.set_cons_succ]
  refine va_tk 12 (some 14) (.string q) rfl (by kernel_rfl) rfl rfl HT.out (fun w h0 => by have h1 := H1.out; have hq := HQ.out; go_simp) ?_
  try simp only [Act.put, List.setIfInBounds_toArray, List.set_cons_zero, List.set_cons_succ]
  refine va_branch [13] (by decide +kernel) rfl ?_
  refine vr_op 13 rfl rfl (fun K hK => ?_) vr_nil
  unfold Oper.wp
  go_simp
  refine hK.out _ _ (.inr HT2.out) ?_
  clear hK K
  try simp only [Act.put, List.setIfInBounds_toArray, List.set_cons_zero, List.set_cons_succ]
  refine va_branch [14] (by decide +kernel) rfl ?_
  refine vr_op 14 rfl rfl (fun K hK => ?_) vr_nil
  unfold Oper.wp
  go_simp
  go_at_call 38
  refine (HCN.out).mono ?_
  rintro e wz ⟨rfl, rfl⟩
  go_simp
  refine hK.out _ _ (.inr HT2.out) ?_
  clear hK K
  try simp only [Act.put, List.setIfInBounds_toArray, List.set_cons_zero, List.set_cons_succ]
  refine va_tk 15 (some 17) (.int .i64 (a + m : Nat)) rfl (by kernel_rfl) rfl rfl HT2.out (fun w h0 => by have hw := HW.out; go_simp) ?_
  try simp only [Act.put, List.setIfInBounds_toArray, List.set_cons_zero, List.set_cons_succ]
  refine va_branch [16] (by decide +kernel) rfl ?_
  refine vr_op 16 rfl rfl (fun K hK => ?_) vr_nil
  unfold Oper.wp
  go_simp
  refine hK.out _ _ (.inr HT2.out) ?_
  clear hK K
  try simp only [Act.put, List.setIfInBounds_toArray, List.set_cons_zero, List.set_cons_succ]
  refine va_tk 17 (some 19) (.pointer (some ⟨rb, 1, none⟩)) rfl (by kernel_rfl) rfl rfl HT2.out (fun w h0 => by go_simp) ?_
  try simp only [Act.put, List.setIfInBounds_toArray, List.set_cons_zero, List.set_cons_succ]
  have k1 := (HT2.out.cell (p := ⟨rb, 1, none⟩) HRB.out).trans HC1.out
  have k2 := HR2.out.blk.frozen 1
  refine va_branch [18] (by decide +kernel) rfl ?_
  refine vr_op 18 rfl rfl (fun K hK => ?_) vr_nil
  unfold Oper.wp
  go_simp
  refine hK.out _ _ (.inl rfl) ?_
  clear hK K
  try simp only [Act.put, List.setIfInBounds_toArray, List.set_cons_zero, List.set_cons_succ]
  refine va_done (by decide +kernel) ?_
  clear k1 k2
  go_wp2
  go_end0
  exact ⟨rfl, HRF.out, HKF.out⟩
end Go.Proofs.YtgckigolbajhoaaDoor

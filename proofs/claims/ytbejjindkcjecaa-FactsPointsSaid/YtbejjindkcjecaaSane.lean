/- Contract: sane. -/
import Derived.Test.YtbejjindkcjecaaY
namespace Go.Proofs.Ytbejjindkcjecaa
open Go.RowKit Go
set_option linter.unusedVariables false
set_option linter.unusedSimpArgs false
theorem fs_new {W : World} {B : Nat} {l : List FA} (h : Blk W B 28 (l.flatMap fc)) (hl : l.length ≤ maxLen) : FS W (.slice (some ⟨B, 0, none⟩) l.length l.length) l :=
  .inr ⟨⟨B, 0, none⟩, l.length, rfl, Nat.le_refl _, hl, fun j u hj => by rw [add_plain, Nat.zero_add]; exact h.cell j u hj, h.lt⟩
theorem gs_new {α : Type} {enc : α → List Value} {t : TypeId} {W : World} {B : Nat} {l : List α} (h : Blk W B t (l.flatMap enc)) (hl : l.length ≤ maxLen) : GS enc W (.slice (some ⟨B, 0, none⟩) l.length l.length) l :=
  .inr ⟨⟨B, 0, none⟩, l.length, rfl, Nat.le_refl _, hl, fun j u hj => by rw [add_plain, Nat.zero_add]; exact h.cell j u hj, h.lt⟩
theorem cg_lit {W : World} {B5 B6 : Nat} (h5 : Blk W B5 26 [.int .i64 3, .int .i64 4]) (h6 : Blk W B6 57 [.int .i64 5, .int .i64 4, .int .i64 9, .slice (some ⟨B5, 0, none⟩) 1 1]) : CG W (.slice (some ⟨B6, 0, none⟩) 1 1) [(GK, [(3, 4)])] := by
  refine ⟨[(GK, some ⟨B5, 0, none⟩, 1, 1)], gs_new (l := [(GK, some ⟨B5, 0, none⟩, 1, 1)]) (enc := cc) h6 (by simp [maxLen]), rfl, fun i x y hx hy => ?_⟩
  cases i with
  | zero =>
    simp at hx hy
    subst hx; subst hy
    exact ⟨rfl, gs_new (l := [((3, 4) : Int × Int)]) (enc := pc) h5 (by simp [maxLen])⟩
  | succ i => simp at hx
theorem rs_lit {W : World} {B7 : Nat} (h7 : Blk W B7 54 [.int .i64 5, .int .i64 4, .int .i64 9, .int .i64 0, .int .i64 9]) : RS W (.slice (some ⟨B7, 0, none⟩) 1 1) [(GK, (0, 9))] := gs_new (l := [((GK, (0, 9)) : RD)]) (enc := rc) h7 (by simp [maxLen])
set_option maxRecDepth 100000 in
set_option maxHeartbeats 8000000 in
theorem sane_any (w : World) : Calls Try.prog 11 #[] w fun e w' => e = .returned (.bool true) ∧ Below w.heap.size w w' := by
  go_enter Try.func11, Try.ntmps11
  go_wp2_with fail
  refine (grade_any _ _ _ _ _ _).mono ?_
  rintro e wa ⟨rfl, hba⟩
  have HA := hid hba
  clear hba
  go_wp2_with fail
  refine (grade_any _ _ _ _ _ _).mono ?_
  rintro e wb ⟨rfl, hbb⟩
  have HA := hid (below_t HA.out hbb)
  clear hbb
  go_upto_region 3 with fail
  obtain ⟨Y, hY⟩ : ∃ Y, Y = wb.alloc (.cells #[.int .i64 5, .int .i64 4, .int .i64 9, .int .i64 7, .int .i64 2, .int .i64 6, .int .i64 10, .int .i64 0, .int .i64 5, .int .i64 4, .int .i64 9, .int .i64 (-1), .int .i64 3, .int .i64 4, .int .i64 20, .int .i64 0] 28) := ⟨_, rfl⟩
  rw [← hY]
  obtain ⟨Z, hZ⟩ : ∃ Z, Z = Y.alloc (.cells #[.int .i64 5, .int .i64 4, .int .i64 9] 24) := ⟨_, rfl⟩
  rw [← hZ]
  have hby : Below wb.heap.size wb Y := by rw [hY]; exact (Below.refl _ wb).alloc (Nat.le_refl _) _
  have hyb : Blk Y wb.heap.size 28 (GL.flatMap fc) := by rw [hY]; exact Blk.new wb 28 (GL.flatMap fc)
  have hbz : Below Y.heap.size Y Z := by rw [hZ]; exact (Below.refl _ Y).alloc (Nat.le_refl _) _
  have hzk : Blk Z Y.heap.size 24 (kc GK) := by rw [hZ]; exact Blk.new Y 24 (kc GK)
  have hzf : Blk Z wb.heap.size 28 (GL.flatMap fc) := hyb.below hbz hyb.lt
  have hys : Y.heap.size = wb.heap.size + 1 := by rw [hY]; simp
  have HA := hid (below_t HA.out (below_t hby hbz))
  obtain ⟨B, hB⟩ : ∃ B, B = wb.heap.size := ⟨_, rfl⟩
  rw [hys] at hzk
  rw [← hB] at hzk hzf ⊢
  have HT := hid (Below.refl Z.heap.size Z)
  have HZF := hid (fun (W : World) (hW : Below Z.heap.size Z W) => hzf.below hW hzf.lt)
  have HKB := hid (fun (W : World) (hW : Below Z.heap.size Z W) => hzk.below hW hzk.lt)
  have HFS := hid (fun (W : World) (hW : Below Z.heap.size Z W) => fs_new (HZF.out W hW) (by simp [GL, maxLen]))
  clear hY hZ hby hyb hbz hzk hzf hys hB
  have HV1 := hid (fun (W : World) (hW : Below Z.heap.size Z W) => show FS W (.slice (some ⟨B, 0, none⟩) 1 2) [G0] from
    .inr ⟨⟨B, 0, none⟩, 2, rfl, by simp, by simp [maxLen], fun j u hj => by
      rw [add_plain, Nat.zero_add]
      refine (HZF.out W hW).cell j u ?_
      have hj' : (fc G0)[j]? = some u := by simpa using hj
      have hlt : j < (fc G0).length := (List.getElem?_eq_some_iff.1 hj').1
      show (fc G0 ++ (fc G1 ++ []))[j]? = some u
      rw [List.getElem?_append_left hlt]; exact hj', (HZF.out W hW).lt⟩)
  have A1 := hid (fun (W : World) (hW : Below Z.heap.size Z W) => show Calls Try.prog 18 #[.slice (some ⟨B, 0, none⟩) 2 2, KV GK, .int .i64 3, .int .i64 15] W fun e w' => e = .returned (.tuple #[.int .i64 7, .bool true]) ∧ Below W.heap.size W w' from by
    have h := at_any (.slice (some ⟨B, 0, none⟩) 2 2) GL GK 3 15 W (HFS.out W hW) g_wf
    rwa [g_val1] at h)
  have A2 := hid (fun (W : World) (hW : Below Z.heap.size Z W) => show Calls Try.prog 18 #[.slice (some ⟨B, 0, none⟩) 2 2, KV GK, .int .i64 3, .int .i64 20] W fun e w' => e = .returned (.tuple #[.int .i64 0, .bool false]) ∧ Below W.heap.size W w' from by
    have h := at_any (.slice (some ⟨B, 0, none⟩) 2 2) GL GK 3 20 W (HFS.out W hW) g_wf
    rwa [g_val2] at h)
  have A3 := hid (fun (W : World) (hW : Below Z.heap.size Z W) => show Calls Try.prog 18 #[.slice (some ⟨B, 0, none⟩) 2 2, KV GK, .int .i64 2, .int .i64 20] W fun e w' => e = .returned (.tuple #[.int .i64 7, .bool true]) ∧ Below W.heap.size W w' from by
    have h := at_any (.slice (some ⟨B, 0, none⟩) 2 2) GL GK 2 20 W (HFS.out W hW) g_wf
    rwa [g_val3] at h)
  have A4 := hid (fun (W : World) (hW : Below Z.heap.size Z W) => show Calls Try.prog 18 #[.slice none 0 0, KV GK, .int .i64 0, .int .i64 0] W fun e w' => e = .returned (.tuple #[.int .i64 0, .bool false]) ∧ Below W.heap.size W w' from by
    have h := at_any (.slice none 0 0) [] GK 0 0 W (.inl ⟨rfl, rfl⟩) (fun f hf => by cases hf)
    rwa [g_val4] at h)
  have B1 := hid (fun (W : World) (hW : Below Z.heap.size Z W) => show Calls Try.prog 13 #[.slice (some ⟨B, 0, none⟩) 1 2, FV G1] W fun e w' => (∃ u, e = .returned (.tuple #[u, .int .i64 0]) ∧ FS w' u GL) ∧ Below W.heap.size W w' from by
    have h := add_any (.slice (some ⟨B, 0, none⟩) 1 2) [G0] G1 W (HV1.out W hW) (by simp)
    rwa [g_add1.1, g_add1.2] at h)
  have B2 := hid (fun (W : World) (hW : Below Z.heap.size Z W) => show Calls Try.prog 13 #[.slice (some ⟨B, 0, none⟩) 2 2, FV G2] W fun e w' => (∃ u, e = .returned (.tuple #[u, .int .i64 71]) ∧ FS w' u []) ∧ Below W.heap.size W w' from by
    have h := add_any (.slice (some ⟨B, 0, none⟩) 2 2) GL G2 W (HFS.out W hW) (by simp [GL])
    rwa [g_add2.1, g_add2.2] at h)
  have C1 := hid (fun (W : World) (hW : Below Z.heap.size Z W) => show Calls Try.prog 24 #[.slice (some ⟨B, 0, none⟩) 2 2, .int .i64 15, .int .i64 20] W fun e w' => ∃ u, e = .returned u ∧ CS w' W.heap.size u [(GK, [(3, 4)])] ∧ Below W.heap.size W w' from by
    have h := changed_any (.slice (some ⟨B, 0, none⟩) 2 2) GL 15 20 W (HFS.out W hW) (by simp [GL]) g_wk
    rwa [g_chg] at h)
  have D1 := hid (fun (W : World) (v : Value) (hv : FS W v [⟨0, 0, 0, 0, 0, 0, 0, 0⟩]) => show Calls Try.prog 15 #[v] W fun e w' => e = .returned (.int .i64 70) ∧ Below W.heap.size W w' from by
    have h := check_any v [⟨0, 0, 0, 0, 0, 0, 0, 0⟩] W hv
    rwa [g_ckl.1] at h)
  have D2 := hid (fun (W : World) (hW : Below Z.heap.size Z W) => show Calls Try.prog 15 #[.slice (some ⟨B, 0, none⟩) 2 2] W fun e w' => e = .returned (.int .i64 0) ∧ Below W.heap.size W w' from by
    have h := check_any _ GL W (HFS.out W hW)
    rwa [g_ckl.2] at h)
  have hsel : ∀ q, (sel GK q GL).length ≤ 19 := fun q => Nat.le_trans (List.length_filter_le _ _) (by simp [GL])
  have E1 := hid (fun (W : World) (hW : Below Z.heap.size Z W) => show Calls Try.prog 21 #[.slice (some ⟨B, 0, none⟩) 2 2, KV GK, .int .i64 5, .int .i64 5, .int .i64 20] W fun e w' => ∃ u, e = .returned u ∧ PS w' u [] ∧ Below W.heap.size W w' from by
    have h := points_any _ GL GK 5 5 20 W (HFS.out W hW) (by simp [GL]) (hsel 20)
    rwa [g_pts1] at h)
  have E2 := hid (fun (W : World) (hW : Below Z.heap.size Z W) => show Calls Try.prog 21 #[.slice (some ⟨B, 0, none⟩) 2 2, KV GK, .int .i64 0, .int .i64 9, .int .i64 20] W fun e w' => ∃ u, e = .returned u ∧ PS w' u [(2, 7), (4, 7), (5, 7)] ∧ Below W.heap.size W w' from by
    have h := points_any _ GL GK 0 9 20 W (HFS.out W hW) (by simp [GL]) (hsel 20)
    rwa [g_pts2] at h)
  have F1 := hid (fun (W : World) (hW : Below Z.heap.size Z W) => show Calls Try.prog 26 #[.slice (some ⟨B, 0, none⟩) 2 2, .slice none 0 0, .int .i64 1, .int .i64 2] W fun e w' => e = .returned (.bool true) ∧ Below W.heap.size W w' from by
    have h := alike_any _ (.slice none 0 0) GL [] 1 2 W (HFS.out W hW) (.inl ⟨rfl, rfl⟩) (by simp [GL]) g_wk (fun r hr => by cases hr)
    rwa [g_alk1] at h)
  have F2 := hid (fun (W : World) (hW : Below Z.heap.size Z W) (vr : Value) (hr : RS W vr [(GK, (0, 9))]) => show Calls Try.prog 26 #[.slice (some ⟨B, 0, none⟩) 2 2, vr, .int .i64 15, .int .i64 20] W fun e w' => e = .returned (.bool false) ∧ Below W.heap.size W w' from by
    have h := alike_any _ vr GL [(GK, (0, 9))] 15 20 W (HFS.out W hW) hr (by simp [GL]) g_wk (fun r hr => by simp at hr; subst hr; unfold kwf I64; decide)
    rwa [g_alk2] at h)
  have H1 := hid (fun (W : World) (hW : Below Z.heap.size Z W) => show Calls Try.prog 28 #[.slice (some ⟨B, 0, none⟩) 2 2, .int .i64 19] W fun e w' => ∃ u, e = .returned u ∧ FO w' W.heap.size u [G0] ∧ Below W.heap.size W w' from by
    have h := upto_any _ GL 19 W (HFS.out W hW) (by simp [GL])
    rwa [g_upto] at h)
  have CS1 := hid (fun (W : World) (hW : Below Z.heap.size Z W) (u : Value) (hu : FS W u GL) => show Calls Try.prog 17 #[u, .slice (some ⟨B, 0, none⟩) 2 2] W fun e w' => e = .returned (.bool true) ∧ Below W.heap.size W w' from by
    have h := same_any u _ GL GL W hu (HFS.out W hW)
    rwa [show decide (GL = GL) = true by simp] at h)
  have CS3 := hid (fun (W : World) (hW : Below Z.heap.size Z W) (u : Value) (hu : FS W u [G0]) => show Calls Try.prog 17 #[u, .slice (some ⟨B, 0, none⟩) 1 2] W fun e w' => e = .returned (.bool true) ∧ Below W.heap.size W w' from by
    have h := same_any u _ [G0] [G0] W hu (HV1.out W hW)
    rwa [show decide ([G0] = [G0]) = true by simp] at h)
  have CS2 := hid (fun (W : World) (hW : Below Z.heap.size Z W) (u v : Value) (hu : CG W u [(GK, [(3, 4)])]) (hv : CG W v [(GK, [(3, 4)])]) => show Calls Try.prog 23 #[u, v] W fun e w' => e = .returned (.bool true) ∧ Below W.heap.size W w' from by
    have h := sameChanges_any u v _ _ W hu hv
    rwa [show decide (([(GK, [(3, 4)])] : List CK) = [(GK, [(3, 4)])]) = true by simp] at h)
  clear hsel
  have h1 := HKB.out _ HT.out; have k0 := h1.cell 0 _ rfl; have k1 := h1.cell 1 _ rfl; have k2 := h1.cell 2 _ rfl; clear h1
  go_wp2_with fail
  refine (A1.out _ HT.out).mono ?_
  rintro e wn ⟨rfl, hb⟩
  have HT := hid (below_t HT.out hb)
  clear hb k0 k1 k2
  have h1 := HKB.out _ HT.out; have k0 := h1.cell 0 _ rfl; have k1 := h1.cell 1 _ rfl; have k2 := h1.cell 2 _ rfl; clear h1
  go_wp2_with fail
  refine (A2.out _ HT.out).mono ?_
  rintro e wn ⟨rfl, hb⟩
  have HT := hid (below_t HT.out hb)
  clear hb k0 k1 k2
  have h1 := HKB.out _ HT.out; have k0 := h1.cell 0 _ rfl; have k1 := h1.cell 1 _ rfl; have k2 := h1.cell 2 _ rfl; clear h1
  go_wp2_with fail
  refine (A3.out _ HT.out).mono ?_
  rintro e wn ⟨rfl, hb⟩
  have HT := hid (below_t HT.out hb)
  clear hb k0 k1 k2
  have h1 := HKB.out _ HT.out; have k0 := h1.cell 0 _ rfl; have k1 := h1.cell 1 _ rfl; have k2 := h1.cell 2 _ rfl; clear h1
  go_wp2_with fail
  refine (A4.out _ HT.out).mono ?_
  rintro e wn ⟨rfl, hb⟩
  have HT := hid (below_t HT.out hb)
  clear hb k0 k1 k2
  go_upto_region 7 with fail
  have HTD := hid (HT.out.drew)
  refine wa_start (S := fun W => Below Z.heap.size Z W) (by kernel_rfl) HTD.out ?_
  refine wa_tk 0 (some 47) (.slice (some ⟨B, 0, none⟩) 2 2) rfl (by kernel_rfl) rfl rfl HTD.out (fun w h0 => by go_simp) ?_
  try simp only [Act.put, List.setIfInBounds_toArray, List.set_cons_zero, List.set_cons_succ]
  refine wa_tk 1 (some 48) (.slice (some ⟨B, 0, none⟩) 1 2) rfl (by kernel_rfl) rfl rfl HTD.out (fun w h0 => by go_simp) ?_
  try simp only [Act.put, List.setIfInBounds_toArray, List.set_cons_zero, List.set_cons_succ]
  refine wa_tk 2 (some 49) (.slice (some ⟨B, 0, none⟩) 2 2) rfl (by kernel_rfl) rfl rfl HTD.out (fun w h0 => by go_simp) ?_
  try simp only [Act.put, List.setIfInBounds_toArray, List.set_cons_zero, List.set_cons_succ]
  refine wa_tk 3 (some 50) (.pointer (some ⟨B, 8, none⟩)) rfl (by kernel_rfl) rfl rfl HTD.out (fun w h0 => by go_simp) ?_
  try simp only [Act.put, List.setIfInBounds_toArray, List.set_cons_zero, List.set_cons_succ]
  refine wa_tk 4 (some 51) (FV G1) rfl (by kernel_rfl) rfl rfl HTD.out (fun w h0 => by have h1 := HZF.out _ h0; have c0 := h1.cell 8 _ rfl; have c1 := h1.cell 9 _ rfl; have c2 := h1.cell 10 _ rfl; have c3 := h1.cell 11 _ rfl; have c4 := h1.cell 12 _ rfl; have c5 := h1.cell 13 _ rfl; have c6 := h1.cell 14 _ rfl; have c7 := h1.cell 15 _ rfl; go_simp) ?_
  try simp only [Act.put, List.setIfInBounds_toArray, List.set_cons_zero, List.set_cons_succ]
  refine wa_branch [5] (by decide +kernel) rfl ?_
  refine ar_op 5 rfl rfl (fun K hK => ?_) ar_nil
  unfold Oper.wp
  go_simp
  go_at_call 13
  refine (B1.out _ HTD.out).mono ?_
  rintro e wn ⟨⟨u11, rfl, hf11⟩, hb⟩
  have HT := hid (HTD.out.trans (hb.mono HTD.out.size))
  have HF11 := hid hf11
  clear hb hf11 HTD
  go_simp
  refine hK.out _ _ HT.out ?_
  clear hK K
  try simp only [Act.put, List.setIfInBounds_toArray, List.set_cons_zero, List.set_cons_succ]
  refine wa_tk 6 (some 46) (.tuple #[u11, .int .i64 0]) rfl (by kernel_rfl) rfl rfl HT.out (fun w h0 => by go_simp) ?_
  try simp only [Act.put, List.setIfInBounds_toArray, List.set_cons_zero, List.set_cons_succ]
  refine wa_tk 7 (some 53) (u11) rfl (by kernel_rfl) rfl rfl HT.out (fun w h0 => by go_simp) ?_
  try simp only [Act.put, List.setIfInBounds_toArray, List.set_cons_zero, List.set_cons_succ]
  refine wa_tk 8 (some 54) (.int .i64 0) rfl (by kernel_rfl) rfl rfl HT.out (fun w h0 => by go_simp) ?_
  try simp only [Act.put, List.setIfInBounds_toArray, List.set_cons_zero, List.set_cons_succ]
  refine wa_tk 9 (some 11) (u11) rfl (by kernel_rfl) rfl rfl HT.out (fun w h0 => by go_simp) ?_
  try simp only [Act.put, List.setIfInBounds_toArray, List.set_cons_zero, List.set_cons_succ]
  refine wa_tk 10 (some 12) (.int .i64 0) rfl (by kernel_rfl) rfl rfl HT.out (fun w h0 => by go_simp) ?_
  try simp only [Act.put, List.setIfInBounds_toArray, List.set_cons_zero, List.set_cons_succ]
  refine wa_done (by decide +kernel) ?_
  go_upto_region 8 with fail
  go_wp2_with fail
  refine (grade_any _ _ _ _ _ _).mono ?_
  rintro e wn ⟨rfl, hb⟩
  have HT := hid (below_t HT.out hb)
  have HF11 := hid (HF11.out.ups hb)
  clear hb
  go_wp2_with fail
  refine (B2.out _ HT.out).mono ?_
  rintro e wn ⟨⟨u13, rfl, hf13⟩, hb⟩
  have HT := hid (below_t HT.out hb)
  have HF11 := hid (HF11.out.ups hb)
  clear hf13
  clear hb
  go_wp2_with fail
  refine (C1.out _ HT.out).mono ?_
  rintro e wn ⟨u15, rfl, hcs, hb⟩
  have HT := hid (below_t HT.out hb)
  have HF11 := hid (HF11.out.ups hb)
  have HC15 := hid hcs.cg
  clear hcs
  clear hb
  go_upto_region 10 with fail
  go_wp2_with fail
  have hnew := fs_new (Blk.new wn 28 ([(⟨0, 0, 0, 0, 0, 0, 0, 0⟩ : FA)].flatMap fc)) (by simp [maxLen])
  have hbn := (Below.refl wn.heap.size wn).alloc (Nat.le_refl _) (.cells ([(⟨0, 0, 0, 0, 0, 0, 0, 0⟩ : FA)].flatMap fc).toArray 28)
  refine (D1.out _ _ hnew).mono ?_
  rintro e wn ⟨rfl, hb⟩
  have hb := below_t hbn hb
  have HT := hid (below_t HT.out hb)
  have HF11 := hid (HF11.out.ups hb)
  have HC15 := hid (HC15.out.ups hb)
  clear hb hbn hnew
  go_wp2_with fail
  refine (D2.out _ HT.out).mono ?_
  rintro e wn ⟨rfl, hb⟩
  have HT := hid (below_t HT.out hb)
  have HF11 := hid (HF11.out.ups hb)
  have HC15 := hid (HC15.out.ups hb)
  clear hb
  have h1 := HKB.out _ HT.out; have k0 := h1.cell 0 _ rfl; have k1 := h1.cell 1 _ rfl; have k2 := h1.cell 2 _ rfl; clear h1
  go_wp2_with fail
  refine (E1.out _ HT.out).mono ?_
  rintro e wn ⟨u83, rfl, hps, hb⟩
  have HT := hid (below_t HT.out hb)
  have HF11 := hid (HF11.out.ups hb)
  have HC15 := hid (HC15.out.ups hb)
  obtain ⟨p83, c83, hf83⟩ := hps.form
  subst hf83
  clear hps
  clear hb k0 k1 k2
  go_upto_region 12 with fail
  obtain ⟨wd, hwd⟩ : ∃ x, x = wn.drew := ⟨_, rfl⟩
  have hb := (show Below wn.heap.size wn wd by rw [hwd]; exact (Below.refl _ wn).drew)
  have HT := hid (below_t HT.out hb)
  have HF11 := hid (HF11.out.ups hb)
  have HC15 := hid (HC15.out.ups hb)
  clear hb
  refine wa_start (S := fun W => Below Z.heap.size Z W) (by kernel_rfl) (by rw [← hwd]; exact HT.out) ?_
  rw [← hwd]
  clear hwd
  refine wa_tk 0 (some 87) (.int .i64 7) rfl (by kernel_rfl) rfl rfl HT.out (fun w h0 => by go_simp) ?_
  try simp only [Act.put, List.setIfInBounds_toArray, List.set_cons_zero, List.set_cons_succ]
  refine wa_tk 1 (some 88) (.bool true) rfl (by kernel_rfl) rfl rfl HT.out (fun w h0 => by go_simp) ?_
  try simp only [Act.put, List.setIfInBounds_toArray, List.set_cons_zero, List.set_cons_succ]
  refine wa_tk 2 (some 89) (.bool true) rfl (by kernel_rfl) rfl rfl HT.out (fun w h0 => by go_simp) ?_
  try simp only [Act.put, List.setIfInBounds_toArray, List.set_cons_zero, List.set_cons_succ]
  refine wa_tkg 3 (some 90) (.bool true) rfl (by kernel_rfl) rfl rfl HT.out (fun w h0 => by go_simp) ?_
  try simp only [Act.put, List.setIfInBounds_toArray, List.set_cons_zero, List.set_cons_succ]
  refine wa_tk 4 (some 91) (.bool true) rfl (by kernel_rfl) rfl rfl HT.out (fun w h0 => by go_simp) ?_
  try simp only [Act.put, List.setIfInBounds_toArray, List.set_cons_zero, List.set_cons_succ]
  refine wa_tk 5 (some 92) (.bool true) rfl (by kernel_rfl) rfl rfl HT.out (fun w h0 => by go_simp) ?_
  try simp only [Act.put, List.setIfInBounds_toArray, List.set_cons_zero, List.set_cons_succ]
  refine wa_tkg 6 (some 93) (.bool false) rfl (by kernel_rfl) rfl rfl HT.out (fun w h0 => by go_simp) ?_
  try simp only [Act.put, List.setIfInBounds_toArray, List.set_cons_zero, List.set_cons_succ]
  refine wa_tkg 7 (some 94) (.bool true) rfl (by kernel_rfl) rfl rfl HT.out (fun w h0 => by go_simp) ?_
  try simp only [Act.put, List.setIfInBounds_toArray, List.set_cons_zero, List.set_cons_succ]
  refine wa_tk 8 (some 95) (.bool true) rfl (by kernel_rfl) rfl rfl HT.out (fun w h0 => by go_simp) ?_
  try simp only [Act.put, List.setIfInBounds_toArray, List.set_cons_zero, List.set_cons_succ]
  refine wa_tk 9 (some 96) (.bool true) rfl (by kernel_rfl) rfl rfl HT.out (fun w h0 => by go_simp) ?_
  try simp only [Act.put, List.setIfInBounds_toArray, List.set_cons_zero, List.set_cons_succ]
  refine wa_tkg 10 (some 97) (.int .i64 7) rfl (by kernel_rfl) rfl rfl HT.out (fun w h0 => by go_simp) ?_
  try simp only [Act.put, List.setIfInBounds_toArray, List.set_cons_zero, List.set_cons_succ]
  refine wa_tkg 11 (some 98) (.bool true) rfl (by kernel_rfl) rfl rfl HT.out (fun w h0 => by go_simp) ?_
  try simp only [Act.put, List.setIfInBounds_toArray, List.set_cons_zero, List.set_cons_succ]
  refine wa_tk 12 (some 99) (.bool true) rfl (by kernel_rfl) rfl rfl HT.out (fun w h0 => by go_simp) ?_
  try simp only [Act.put, List.setIfInBounds_toArray, List.set_cons_zero, List.set_cons_succ]
  refine wa_tk 13 (some 100) (.bool true) rfl (by kernel_rfl) rfl rfl HT.out (fun w h0 => by go_simp) ?_
  try simp only [Act.put, List.setIfInBounds_toArray, List.set_cons_zero, List.set_cons_succ]
  refine wa_tkg 14 (some 101) (.bool true) rfl (by kernel_rfl) rfl rfl HT.out (fun w h0 => by go_simp) ?_
  try simp only [Act.put, List.setIfInBounds_toArray, List.set_cons_zero, List.set_cons_succ]
  refine wa_tk 15 (some 102) (.bool true) rfl (by kernel_rfl) rfl rfl HT.out (fun w h0 => by go_simp) ?_
  try simp only [Act.put, List.setIfInBounds_toArray, List.set_cons_zero, List.set_cons_succ]
  refine wa_tk 16 (some 103) (.bool true) rfl (by kernel_rfl) rfl rfl HT.out (fun w h0 => by go_simp) ?_
  try simp only [Act.put, List.setIfInBounds_toArray, List.set_cons_zero, List.set_cons_succ]
  refine wa_tkg 17 (some 104) (.bool false) rfl (by kernel_rfl) rfl rfl HT.out (fun w h0 => by go_simp) ?_
  try simp only [Act.put, List.setIfInBounds_toArray, List.set_cons_zero, List.set_cons_succ]
  refine wa_tkg 18 (some 105) (.bool true) rfl (by kernel_rfl) rfl rfl HT.out (fun w h0 => by go_simp) ?_
  try simp only [Act.put, List.setIfInBounds_toArray, List.set_cons_zero, List.set_cons_succ]
  refine wa_tk 19 (some 106) (.bool true) rfl (by kernel_rfl) rfl rfl HT.out (fun w h0 => by go_simp) ?_
  try simp only [Act.put, List.setIfInBounds_toArray, List.set_cons_zero, List.set_cons_succ]
  refine wa_tk 20 (some 107) (.bool true) rfl (by kernel_rfl) rfl rfl HT.out (fun w h0 => by go_simp) ?_
  try simp only [Act.put, List.setIfInBounds_toArray, List.set_cons_zero, List.set_cons_succ]
  refine wa_tkg 21 (some 108) (u11) rfl (by kernel_rfl) rfl rfl HT.out (fun w h0 => by go_simp) ?_
  try simp only [Act.put, List.setIfInBounds_toArray, List.set_cons_zero, List.set_cons_succ]
  refine wa_tkg 22 (some 109) (.slice (some ⟨B, 0, none⟩) 2 2) rfl (by kernel_rfl) rfl rfl HT.out (fun w h0 => by go_simp) ?_
  try simp only [Act.put, List.setIfInBounds_toArray, List.set_cons_zero, List.set_cons_succ]
  refine wa_branch [23] (by decide +kernel) rfl ?_
  refine ar_opg 23 rfl rfl (fun K hK => ?_) ar_nil
  unfold Oper.wp
  go_simp
  go_at_call 17
  refine (CS1.out _ HT.out _ HF11.out).mono ?_
  rintro e wd ⟨rfl, hb⟩
  have HT := hid (below_t HT.out hb)
  have HC15 := hid (HC15.out.ups hb)
  clear hb
  go_simp
  refine hK.out _ _ HT.out ?_
  clear hK K
  try simp only [Act.put, List.setIfInBounds_toArray, List.set_cons_zero, List.set_cons_succ]
  refine wa_tk 24 (some 111) (.bool true) rfl (by kernel_rfl) rfl rfl HT.out (fun w h0 => by go_simp) ?_
  try simp only [Act.put, List.setIfInBounds_toArray, List.set_cons_zero, List.set_cons_succ]
  refine wa_tk 25 (some 112) (.bool true) rfl (by kernel_rfl) rfl rfl HT.out (fun w h0 => by go_simp) ?_
  try simp only [Act.put, List.setIfInBounds_toArray, List.set_cons_zero, List.set_cons_succ]
  refine wa_tkg 26 (some 113) (u15) rfl (by kernel_rfl) rfl rfl HT.out (fun w h0 => by go_simp) ?_
  try simp only [Act.put, List.setIfInBounds_toArray, List.set_cons_zero, List.set_cons_succ]
  refine wa_tkg 27 (some 114) (.agg #[.int .i64 5, .int .i64 4, .int .i64 9]) rfl (by kernel_rfl) rfl rfl HT.out (fun w h0 => by have h1 := HKB.out _ h0; have k0 : w.cell? ⟨B + 1, 0, none⟩ = some (.int .i64 5) := h1.cell 0 _ rfl; have k1 : w.cell? ⟨B + 1, 1, none⟩ = some (.int .i64 4) := h1.cell 1 _ rfl; have k2 : w.cell? ⟨B + 1, 2, none⟩ = some (.int .i64 9) := h1.cell 2 _ rfl; clear h1; go_simp) ?_
  try simp only [Act.put, List.setIfInBounds_toArray, List.set_cons_zero, List.set_cons_succ]
  refine wa_tkg 28 (some 115) (.agg #[.int .i64 3, .int .i64 4]) rfl (by kernel_rfl) rfl rfl HT.out (fun w h0 => by go_simp) ?_
  try simp only [Act.put, List.setIfInBounds_toArray, List.set_cons_zero, List.set_cons_succ]
  refine wa_branch [29] (by decide +kernel) rfl ?_
  refine ar_opg 29 rfl rfl (fun K hK => ?_) ar_nil
  unfold Oper.wp
  go_simp
  obtain ⟨we, hwe⟩ : ∃ x, x = wd.alloc (.cells #[.int .i64 3, .int .i64 4] 26) := ⟨_, rfl⟩
  have hb := (show Below wd.heap.size wd we by rw [hwe]; exact (Below.refl _ wd).alloc (Nat.le_refl _) _)
  have HN5 := hid (show Blk we wd.heap.size 26 [.int .i64 3, .int .i64 4] by rw [hwe]; exact Blk.new wd 26 [.int .i64 3, .int .i64 4])
  rw [← hwe]
  obtain ⟨B5, hB5⟩ : ∃ x, x = wd.heap.size := ⟨_, rfl⟩
  rw [← hB5] at HN5 ⊢
  have HT := hid (below_t HT.out hb)
  have HC15 := hid (HC15.out.ups hb)
  clear hb hB5 hwe
  obtain ⟨wd, hwd⟩ : ∃ x, x = we := ⟨_, rfl⟩
  rw [← hwd] at HT HN5 HC15 ⊢
  clear hwd
  refine hK.out _ _ HT.out ?_
  clear hK K
  try simp only [Act.put, List.setIfInBounds_toArray, List.set_cons_zero, List.set_cons_succ]
  refine wa_tkg 30 (some 117) (.agg #[.int .i64 5, .int .i64 4, .int .i64 9, .slice (some ⟨B5, 0, none⟩) 1 1]) rfl (by kernel_rfl) rfl rfl HT.out (fun w h0 => by go_simp) ?_
  try simp only [Act.put, List.setIfInBounds_toArray, List.set_cons_zero, List.set_cons_succ]
  refine wa_branch [31] (by decide +kernel) rfl ?_
  refine ar_opg 31 rfl rfl (fun K hK => ?_) ar_nil
  unfold Oper.wp
  go_simp
  obtain ⟨we, hwe⟩ : ∃ x, x = wd.alloc (.cells #[.int .i64 5, .int .i64 4, .int .i64 9, .slice (some ⟨B5, 0, none⟩) 1 1] 57) := ⟨_, rfl⟩
  have hb := (show Below wd.heap.size wd we by rw [hwe]; exact (Below.refl _ wd).alloc (Nat.le_refl _) _)
  have HN6 := hid (show Blk we wd.heap.size 57 [.int .i64 5, .int .i64 4, .int .i64 9, .slice (some ⟨B5, 0, none⟩) 1 1] by rw [hwe]; exact Blk.new wd 57 [.int .i64 5, .int .i64 4, .int .i64 9, .slice (some ⟨B5, 0, none⟩) 1 1])
  rw [← hwe]
  obtain ⟨B6, hB6⟩ : ∃ x, x = wd.heap.size := ⟨_, rfl⟩
  rw [← hB6] at HN6 ⊢
  have HT := hid (below_t HT.out hb)
  have HC15 := hid (HC15.out.ups hb)
  have HN5 := hid (HN5.out.below hb HN5.out.lt)
  clear hb hB6 hwe
  obtain ⟨wd, hwd⟩ : ∃ x, x = we := ⟨_, rfl⟩
  rw [← hwd] at HT HN6 HC15 HN5 ⊢
  clear hwd
  refine hK.out _ _ HT.out ?_
  clear hK K
  try simp only [Act.put, List.setIfInBounds_toArray, List.set_cons_zero, List.set_cons_succ]
  refine wa_branch [32] (by decide +kernel) rfl ?_
  refine ar_opg 32 rfl rfl (fun K hK => ?_) ar_nil
  unfold Oper.wp
  go_simp
  go_at_call 23
  refine (CS2.out _ HT.out _ _ HC15.out (cg_lit HN5.out HN6.out)).mono ?_
  rintro e wd ⟨rfl, hb⟩
  have HT := hid (below_t HT.out hb)
  clear hb
  go_simp
  refine hK.out _ _ HT.out ?_
  clear hK K
  try simp only [Act.put, List.setIfInBounds_toArray, List.set_cons_zero, List.set_cons_succ]
  clear HC15 HN5 HN6 HF11
  refine wa_tk 33 (some 120) (.bool true) rfl (by kernel_rfl) rfl rfl HT.out (fun w h0 => by go_simp) ?_
  try simp only [Act.put, List.setIfInBounds_toArray, List.set_cons_zero, List.set_cons_succ]
  refine wa_tk 34 (some 121) (.bool true) rfl (by kernel_rfl) rfl rfl HT.out (fun w h0 => by go_simp) ?_
  try simp only [Act.put, List.setIfInBounds_toArray, List.set_cons_zero, List.set_cons_succ]
  refine wa_tkg 35 (some 122) (.slice (some ⟨B, 0, none⟩) 2 2) rfl (by kernel_rfl) rfl rfl HT.out (fun w h0 => by go_simp) ?_
  try simp only [Act.put, List.setIfInBounds_toArray, List.set_cons_zero, List.set_cons_succ]
  refine wa_branch [36] (by decide +kernel) rfl ?_
  refine ar_opg 36 rfl rfl (fun K hK => ?_) ar_nil
  unfold Oper.wp
  go_simp
  go_at_call 26
  refine (F1.out _ HT.out).mono ?_
  rintro e wd ⟨rfl, hb⟩
  have HT := hid (below_t HT.out hb)
  clear hb
  go_simp
  refine hK.out _ _ HT.out ?_
  clear hK K
  try simp only [Act.put, List.setIfInBounds_toArray, List.set_cons_zero, List.set_cons_succ]
  refine wa_tk 37 (some 124) (.bool true) rfl (by kernel_rfl) rfl rfl HT.out (fun w h0 => by go_simp) ?_
  try simp only [Act.put, List.setIfInBounds_toArray, List.set_cons_zero, List.set_cons_succ]
  refine wa_tk 38 (some 125) (.bool true) rfl (by kernel_rfl) rfl rfl HT.out (fun w h0 => by go_simp) ?_
  try simp only [Act.put, List.setIfInBounds_toArray, List.set_cons_zero, List.set_cons_succ]
  refine wa_tkg 39 (some 126) (.slice (some ⟨B, 0, none⟩) 2 2) rfl (by kernel_rfl) rfl rfl HT.out (fun w h0 => by go_simp) ?_
  try simp only [Act.put, List.setIfInBounds_toArray, List.set_cons_zero, List.set_cons_succ]
  refine wa_tkg 40 (some 127) (.agg #[.int .i64 5, .int .i64 4, .int .i64 9]) rfl (by kernel_rfl) rfl rfl HT.out (fun w h0 => by have h1 := HKB.out _ h0; have k0 : w.cell? ⟨B + 1, 0, none⟩ = some (.int .i64 5) := h1.cell 0 _ rfl; have k1 : w.cell? ⟨B + 1, 1, none⟩ = some (.int .i64 4) := h1.cell 1 _ rfl; have k2 : w.cell? ⟨B + 1, 2, none⟩ = some (.int .i64 9) := h1.cell 2 _ rfl; clear h1; go_simp) ?_
  try simp only [Act.put, List.setIfInBounds_toArray, List.set_cons_zero, List.set_cons_succ]
  refine wa_tkg 41 (some 128) (.agg #[.int .i64 5, .int .i64 4, .int .i64 9, .int .i64 0, .int .i64 9]) rfl (by kernel_rfl) rfl rfl HT.out (fun w h0 => by go_simp) ?_
  try simp only [Act.put, List.setIfInBounds_toArray, List.set_cons_zero, List.set_cons_succ]
  refine wa_branch [42] (by decide +kernel) rfl ?_
  refine ar_opg 42 rfl rfl (fun K hK => ?_) ar_nil
  unfold Oper.wp
  go_simp
  obtain ⟨we, hwe⟩ : ∃ x, x = wd.alloc (.cells #[.int .i64 5, .int .i64 4, .int .i64 9, .int .i64 0, .int .i64 9] 54) := ⟨_, rfl⟩
  have hb := (show Below wd.heap.size wd we by rw [hwe]; exact (Below.refl _ wd).alloc (Nat.le_refl _) _)
  have HN7 := hid (show Blk we wd.heap.size 54 [.int .i64 5, .int .i64 4, .int .i64 9, .int .i64 0, .int .i64 9] by rw [hwe]; exact Blk.new wd 54 [.int .i64 5, .int .i64 4, .int .i64 9, .int .i64 0, .int .i64 9])
  rw [← hwe]
  obtain ⟨B7, hB7⟩ : ∃ x, x = wd.heap.size := ⟨_, rfl⟩
  rw [← hB7] at HN7 ⊢
  have HT := hid (below_t HT.out hb)
  clear hb hB7 hwe
  obtain ⟨wd, hwd⟩ : ∃ x, x = we := ⟨_, rfl⟩
  rw [← hwd] at HT HN7 ⊢
  clear hwd
  refine hK.out _ _ HT.out ?_
  clear hK K
  try simp only [Act.put, List.setIfInBounds_toArray, List.set_cons_zero, List.set_cons_succ]
  refine wa_branch [43] (by decide +kernel) rfl ?_
  refine ar_opg 43 rfl rfl (fun K hK => ?_) ar_nil
  unfold Oper.wp
  go_simp
  go_at_call 26
  refine (F2.out _ HT.out _ (rs_lit HN7.out)).mono ?_
  rintro e wd ⟨rfl, hb⟩
  have HT := hid (below_t HT.out hb)
  clear hb
  go_simp
  refine hK.out _ _ HT.out ?_
  clear hK K
  try simp only [Act.put, List.setIfInBounds_toArray, List.set_cons_zero, List.set_cons_succ]
  clear HN7
  refine wa_tkg 44 (some 131) (.bool true) rfl (by kernel_rfl) rfl rfl HT.out (fun w h0 => by go_simp) ?_
  try simp only [Act.put, List.setIfInBounds_toArray, List.set_cons_zero, List.set_cons_succ]
  refine wa_tk 45 (some 132) (.bool true) rfl (by kernel_rfl) rfl rfl HT.out (fun w h0 => by go_simp) ?_
  try simp only [Act.put, List.setIfInBounds_toArray, List.set_cons_zero, List.set_cons_succ]
  refine wa_tk 46 (some 133) (.bool true) rfl (by kernel_rfl) rfl rfl HT.out (fun w h0 => by go_simp) ?_
  try simp only [Act.put, List.setIfInBounds_toArray, List.set_cons_zero, List.set_cons_succ]
  refine wa_tkg 47 (some 134) (.slice (some ⟨B, 0, none⟩) 2 2) rfl (by kernel_rfl) rfl rfl HT.out (fun w h0 => by go_simp) ?_
  try simp only [Act.put, List.setIfInBounds_toArray, List.set_cons_zero, List.set_cons_succ]
  refine wa_tkg 48 (some 135) (.agg #[.int .i64 5, .int .i64 4, .int .i64 9]) rfl (by kernel_rfl) rfl rfl HT.out (fun w h0 => by have h1 := HKB.out _ h0; have k0 : w.cell? ⟨B + 1, 0, none⟩ = some (.int .i64 5) := h1.cell 0 _ rfl; have k1 : w.cell? ⟨B + 1, 1, none⟩ = some (.int .i64 4) := h1.cell 1 _ rfl; have k2 : w.cell? ⟨B + 1, 2, none⟩ = some (.int .i64 9) := h1.cell 2 _ rfl; clear h1; go_simp) ?_
  try simp only [Act.put, List.setIfInBounds_toArray, List.set_cons_zero, List.set_cons_succ]
  refine wa_branch [49] (by decide +kernel) rfl ?_
  refine ar_opg 49 rfl rfl (fun K hK => ?_) ar_nil
  unfold Oper.wp
  go_simp
  go_at_call 21
  refine (E2.out _ HT.out).mono ?_
  rintro e wd ⟨u136, rfl, hps, hb⟩
  have HT := hid (below_t HT.out hb)
  obtain ⟨p136, c136, hf136⟩ := hps.form
  subst hf136
  clear hps
  clear hb
  go_simp
  refine hK.out _ _ HT.out ?_
  clear hK K
  try simp only [Act.put, List.setIfInBounds_toArray, List.set_cons_zero, List.set_cons_succ]
  refine wa_tkg 50 (some 137) (.int .i64 3) rfl (by kernel_rfl) rfl rfl HT.out (fun w h0 => by go_simp) ?_
  try simp only [Act.put, List.setIfInBounds_toArray, List.set_cons_zero, List.set_cons_succ]
  refine wa_tkg 51 (some 138) (.bool true) rfl (by kernel_rfl) rfl rfl HT.out (fun w h0 => by go_simp) ?_
  try simp only [Act.put, List.setIfInBounds_toArray, List.set_cons_zero, List.set_cons_succ]
  refine wa_tk 52 (some 139) (.bool true) rfl (by kernel_rfl) rfl rfl HT.out (fun w h0 => by go_simp) ?_
  try simp only [Act.put, List.setIfInBounds_toArray, List.set_cons_zero, List.set_cons_succ]
  refine wa_tk 53 (some 140) (.bool true) rfl (by kernel_rfl) rfl rfl HT.out (fun w h0 => by go_simp) ?_
  try simp only [Act.put, List.setIfInBounds_toArray, List.set_cons_zero, List.set_cons_succ]
  refine wa_tkg 54 (some 141) (.slice (some ⟨B, 0, none⟩) 2 2) rfl (by kernel_rfl) rfl rfl HT.out (fun w h0 => by go_simp) ?_
  try simp only [Act.put, List.setIfInBounds_toArray, List.set_cons_zero, List.set_cons_succ]
  refine wa_tkg 56 (some 143) (.slice (some ⟨B, 0, none⟩) 2 2) rfl (by kernel_rfl) rfl rfl HT.out (fun w h0 => by go_simp) ?_
  try simp only [Act.put, List.setIfInBounds_toArray, List.set_cons_zero, List.set_cons_succ]
  refine wa_tkg 57 (some 144) (.slice (some ⟨B, 0, none⟩) 1 2) rfl (by kernel_rfl) rfl rfl HT.out (fun w h0 => by go_simp) ?_
  try simp only [Act.put, List.setIfInBounds_toArray, List.set_cons_zero, List.set_cons_succ]
  refine wa_branch [55] (by decide +kernel) rfl ?_
  refine ar_opg 55 rfl rfl (fun K hK => ?_) ar_nil
  unfold Oper.wp
  go_simp
  go_at_call 28
  refine (H1.out _ HT.out).mono ?_
  rintro e wd ⟨u142, rfl, hfo, hb⟩
  have HT := hid (below_t HT.out hb)
  have HF142 := hid hfo.gs
  clear hfo
  clear hb
  go_simp
  refine hK.out _ _ HT.out ?_
  clear hK K
  try simp only [Act.put, List.setIfInBounds_toArray, List.set_cons_zero, List.set_cons_succ]
  refine wa_branch [58] (by decide +kernel) rfl ?_
  refine ar_opg 58 rfl rfl (fun K hK => ?_) ar_nil
  unfold Oper.wp
  go_simp
  go_at_call 17
  refine (CS3.out _ HT.out _ HF142.out).mono ?_
  rintro e wd ⟨rfl, hb⟩
  have HT := hid (below_t HT.out hb)
  clear hb
  go_simp
  refine hK.out _ _ HT.out ?_
  clear hK K
  try simp only [Act.put, List.setIfInBounds_toArray, List.set_cons_zero, List.set_cons_succ]
  refine wa_tk 59 (some 146) (.bool true) rfl (by kernel_rfl) rfl rfl HT.out (fun w h0 => by go_simp) ?_
  try simp only [Act.put, List.setIfInBounds_toArray, List.set_cons_zero, List.set_cons_succ]
  refine wa_tk 60 (some 0) (.bool true) rfl (by kernel_rfl) rfl rfl HT.out (fun w h0 => by go_simp) ?_
  try simp only [Act.put, List.setIfInBounds_toArray, List.set_cons_zero, List.set_cons_succ]
  refine wa_done (by decide +kernel) ?_
  clear HF142
  go_wp2_with fail
  go_ret
  exact ⟨rfl, below_t HA.out HT.out⟩
end Go.Proofs.Ytbejjindkcjecaa

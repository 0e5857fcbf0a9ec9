/- Contract: the reader's sign. -/
import Derived.Test.YtgckigolbajhoaaDoorH
namespace Go.Proofs.YtgckigolbajhoaaDoor
open Go.RowKit Go
set_option linter.unusedVariables false
set_option linter.unusedSimpArgs false
theorem drop_cons {l : List UInt8} {i : Nat} (h : i < l.length) : ∃ c, l.drop i = c :: l.drop (i + 1) ∧ l[i]? = some c := ⟨l[i], List.drop_eq_getElem_cons h, List.getElem?_eq_getElem h⟩
set_option maxRecDepth 100000 in
set_option maxHeartbeats 8000000 in
theorem sign_any {rb base a : Nat} {s : ByteArray} {v : Value} {l : List Tk} (c : UInt8) (w : World) (h : Rdr w rb base s a v l) (hs : s.size ≤ 70000) (hc : (lst s)[a]? = some c) (hl : l.length ≤ 100000) :
    Calls Tryd.prog 43 #[.pointer (some ⟨rb, 0, none⟩)] w (Scn w rb base s a l (.tok 3 [c] 0 1)) := by
  have hsz : (lst s).length = s.size := rfl
  have ha : a < s.size := by rw [← hsz]; exact (List.getElem?_eq_some_iff.1 hc).1
  obtain ⟨q, hq⟩ : ∃ q, q = s.extract a (a + 1) := ⟨_, rfl⟩
  have hq2 : q = ⟨([c] : List UInt8).toArray⟩ := by
    rw [hq, lst_extract, show a + 1 - a = 1 by omega]
    obtain ⟨h1, h2⟩ := List.getElem?_eq_some_iff.1 hc
    rw [List.drop_eq_getElem_cons h1, h2]; rfl
  have HQ := hid hq
  have HQ2 := hid hq2
  have H1 := hid (show (a : Int) + 1 ≤ s.size by omega)
  have H2 := hid (show (a : Int) ≤ (a : Int) + 1 by omega)
  have H3 := hid (show (0 : Int) ≤ a by omega)
  have HW := hid (wrap_id (x := (a : Int) + 1) (by omega) (by omega))
  have HTK := hid (take_any 3 [c] 0 0 1 w.drew (h.below (Below.refl _ w).drew) (by omega) (by omega) hl)
  have HC1 := hid (h.blk.cell 1 _ rfl)
  have HS1 := hid (show w.drew.cell? ⟨rb, 0, none⟩ = some (.string s) from h.blk.cell 0 _ rfl)
  have HB := hid ((Below.refl w.heap.size w).drew)
  have HLE := hid h.le
  clear hq2 hq h hc hsz
  go_enter Tryd.func43, Tryd.ntmps43
  refine wa_start (S := fun W => W.cell? ⟨rb, 0, none⟩ = some (.string s)) (by kernel_rfl) HS1.out ?_
  refine wa_tk 0 (some 2) (.pointer (some ⟨rb, 0, none⟩)) rfl (by kernel_rfl) rfl rfl HS1.out (fun w h0 => by go_simp) ?_
  try simp only [Act.put, List.setIfInBounds_toArray, List.set_cons_zero, List.set_cons_succ]
  refine wa_tk 1 (some 3) (.pointer (some ⟨rb, 0, none⟩)) rfl (by kernel_rfl) rfl rfl HS1.out (fun w h0 => by go_simp) ?_
  try simp only [Act.put, List.setIfInBounds_toArray, List.set_cons_zero, List.set_cons_succ]
  refine wa_tk 2 (some 4) (.pointer (some ⟨rb, 0, none⟩)) rfl (by kernel_rfl) rfl rfl HS1.out (fun w h0 => by go_simp) ?_
  try simp only [Act.put, List.setIfInBounds_toArray, List.set_cons_zero, List.set_cons_succ]
  refine wa_tk 3 (some 5) (.pointer (some ⟨rb, 0, none⟩)) rfl (by kernel_rfl) rfl rfl HS1.out (fun w h0 => by go_simp) ?_
  try simp only [Act.put, List.setIfInBounds_toArray, List.set_cons_zero, List.set_cons_succ]
  refine wa_tk 4 (some 6) (.string s) rfl (by kernel_rfl) rfl rfl HS1.out (fun w h0 => by have e0 := h0; go_simp) ?_
  try simp only [Act.put, List.setIfInBounds_toArray, List.set_cons_zero, List.set_cons_succ]
  refine wa_tk 5 (some 7) (.pointer (some ⟨rb, 0, none⟩)) rfl (by kernel_rfl) rfl rfl HS1.out (fun w h0 => by go_simp) ?_
  try simp only [Act.put, List.setIfInBounds_toArray, List.set_cons_zero, List.set_cons_succ]
  refine wa_tk 6 (some 8) (.pointer (some ⟨rb, 0, none⟩)) rfl (by kernel_rfl) rfl rfl HS1.out (fun w h0 => by go_simp) ?_
  try simp only [Act.put, List.setIfInBounds_toArray, List.set_cons_zero, List.set_cons_succ]
  refine wa_tk 7 (some 9) (.pointer (some ⟨rb, 1, none⟩)) rfl (by kernel_rfl) rfl rfl HS1.out (fun w h0 => by go_simp) ?_
  try simp only [Act.put, List.setIfInBounds_toArray, List.set_cons_zero, List.set_cons_succ]
  refine wa_tk 9 (some 11) (.pointer (some ⟨rb, 0, none⟩)) rfl (by kernel_rfl) rfl rfl HS1.out (fun w h0 => by go_simp) ?_
  try simp only [Act.put, List.setIfInBounds_toArray, List.set_cons_zero, List.set_cons_succ]
  refine wa_tk 10 (some 12) (.pointer (some ⟨rb, 0, none⟩)) rfl (by kernel_rfl) rfl rfl HS1.out (fun w h0 => by go_simp) ?_
  try simp only [Act.put, List.setIfInBounds_toArray, List.set_cons_zero, List.set_cons_succ]
  refine wa_tk 11 (some 13) (.pointer (some ⟨rb, 1, none⟩)) rfl (by kernel_rfl) rfl rfl HS1.out (fun w h0 => by go_simp) ?_
  try simp only [Act.put, List.setIfInBounds_toArray, List.set_cons_zero, List.set_cons_succ]
  refine wa_branch [8, 12] (by decide +kernel) rfl ?_
  refine ar_op 8 rfl rfl (fun K hK => ?_) (ar_op 12 rfl rfl (fun K hK => ?_) ar_nil)
  · unfold Oper.wp
    have c1 := HC1.out
    go_simp
    refine hK.out _ _ HS1.out ?_
    clear c1 hK K
    try simp only [Act.put, List.setIfInBounds_toArray, List.set_cons_zero, List.set_cons_succ]
    refine wa_branch [12] (by decide +kernel) rfl ?_
    refine ar_op 12 rfl rfl (fun K hK => ?_) ar_nil
    unfold Oper.wp
    have c1 := HC1.out
    go_simp
    refine hK.out _ _ HS1.out ?_
    clear c1 hK K
    try simp only [Act.put, List.setIfInBounds_toArray, List.set_cons_zero, List.set_cons_succ]
    refine wa_tk 13 (some 15) (.int .i64 (a + 1 : Nat)) rfl (by kernel_rfl) rfl rfl HS1.out (fun w h0 => by have hw := HW.out; go_simp) ?_
    try simp only [Act.put, List.setIfInBounds_toArray, List.set_cons_zero, List.set_cons_succ]
    refine wa_tk 14 (some 16) (.string q) rfl (by kernel_rfl) rfl rfl HS1.out (fun w h0 => by have hq := HQ.out; have h1 := H1.out; have h2 := H2.out; have h3 := H3.out; go_simp) ?_
    try simp only [Act.put, List.setIfInBounds_toArray, List.set_cons_zero, List.set_cons_succ]
    refine wa_tk 15 (some 17) (.agg #[.int .i64 3, .string q, .int .i64 0, .int .i64 0]) rfl (by kernel_rfl) rfl rfl HS1.out (fun w h0 => by go_simp) ?_
    try simp only [Act.put, List.setIfInBounds_toArray, List.set_cons_zero, List.set_cons_succ]
    refine wa_branch [16] (by decide +kernel) rfl ?_
    refine ar_op 16 rfl rfl (fun K hK => ?_) ar_nil
    unfold Oper.wp
    go_simp
    go_at_call 52
    rw [HQ2.out]
    refine (HTK.out).mono ?_
    rintro e wz ⟨rfl, ⟨u, hu⟩, hkk⟩
    have HU := hid (show Scn w rb base s a l (L9.Stp.tok 3 [c] 0 1) unit wz from ⟨(Kpb.of (HB.out.mono HLE.out)).trans hkk, rfl, u, hu⟩)
    have hs0 := hu.blk.cell 0 _ rfl
    clear hu hkk
    go_simp
    refine hK.out _ _ hs0 ?_
    clear hK K hs0
    try simp only [Act.put, List.setIfInBounds_toArray, List.set_cons_zero, List.set_cons_succ]
    refine wa_done (by decide +kernel) ?_
    go_wp2
    go_end0
    exact HU.out
  · unfold Oper.wp
    have c1 := HC1.out
    go_simp
    refine hK.out _ _ HS1.out ?_
    clear c1 hK K
    try simp only [Act.put, List.setIfInBounds_toArray, List.set_cons_zero, List.set_cons_succ]
    refine wa_tk 13 (some 15) (.int .i64 (a + 1 : Nat)) rfl (by kernel_rfl) rfl rfl HS1.out (fun w h0 => by have hw := HW.out; go_simp) ?_
    try simp only [Act.put, List.setIfInBounds_toArray, List.set_cons_zero, List.set_cons_succ]
    refine wa_branch [8] (by decide +kernel) rfl ?_
    refine ar_op 8 rfl rfl (fun K hK => ?_) ar_nil
    unfold Oper.wp
    have c1 := HC1.out
    go_simp
    refine hK.out _ _ HS1.out ?_
    clear c1 hK K
    try simp only [Act.put, List.setIfInBounds_toArray, List.set_cons_zero, List.set_cons_succ]
    refine wa_tk 14 (some 16) (.string q) rfl (by kernel_rfl) rfl rfl HS1.out (fun w h0 => by have hq := HQ.out; have h1 := H1.out; have h2 := H2.out; have h3 := H3.out; go_simp) ?_
    try simp only [Act.put, List.setIfInBounds_toArray, List.set_cons_zero, List.set_cons_succ]
    refine wa_tk 15 (some 17) (.agg #[.int .i64 3, .string q, .int .i64 0, .int .i64 0]) rfl (by kernel_rfl) rfl rfl HS1.out (fun w h0 => by go_simp) ?_
    try simp only [Act.put, List.setIfInBounds_toArray, List.set_cons_zero, List.set_cons_succ]
    refine wa_branch [16] (by decide +kernel) rfl ?_
    refine ar_op 16 rfl rfl (fun K hK => ?_) ar_nil
    unfold Oper.wp
    go_simp
    go_at_call 52
    rw [HQ2.out]
    refine (HTK.out).mono ?_
    rintro e wz ⟨rfl, ⟨u, hu⟩, hkk⟩
    have HU := hid (show Scn w rb base s a l (L9.Stp.tok 3 [c] 0 1) unit wz from ⟨(Kpb.of (HB.out.mono HLE.out)).trans hkk, rfl, u, hu⟩)
    have hs0 := hu.blk.cell 0 _ rfl
    clear hu hkk
    go_simp
    refine hK.out _ _ hs0 ?_
    clear hK K hs0
    try simp only [Act.put, List.setIfInBounds_toArray, List.set_cons_zero, List.set_cons_succ]
    refine wa_done (by decide +kernel) ?_
    go_wp2
    go_end0
    exact HU.out
end Go.Proofs.YtgckigolbajhoaaDoor

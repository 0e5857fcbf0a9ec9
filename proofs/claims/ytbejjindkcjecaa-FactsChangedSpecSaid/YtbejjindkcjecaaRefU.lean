/- Contract: Upto of the reference. -/
import Derived.Test.YtbejjindkcjecaaRefCh
import Derived.Test.YtbejjindkcjecaaRefC
namespace Go.Proofs.Ytbejjindkcjecaa
open Go.RowKit Go
set_option linter.unusedVariables false
set_option linter.unusedSimpArgs false
set_option maxRecDepth 100000 in
set_option maxHeartbeats 8000000 in
theorem refUpto_any (v : Value) (L : List FA) (q : Int) (w : World) (hv : FS w v L) (hL : L.length ≤ 1000) :
    Calls Try.prog 29 #[v, .int .i64 q] w fun e w' => ∃ u, e = .returned u ∧ FS w' u (F7.upto q L) ∧ Below w.heap.size w w' := by
  obtain ⟨p, c, hf⟩ := hv.form
  obtain ⟨n, hn⟩ : ∃ n, n = L.length := ⟨_, rfl⟩
  rw [← hn] at hf hL
  subst hf
  have hc1 := hv.cap.2.1
  have HR := hid (show FR p w.heap.size L w from hv.gr 8 fc_len (by omega))
  have HN := hid hn
  clear hv hn
  obtain ⟨Z, hZ⟩ : ∃ Z, Z = w.alloc (.cells #[] 28) := ⟨_, rfl⟩
  have HZ := hid (show Below w.heap.size w Z from by rw [hZ]; exact (Below.refl _ w).alloc (Nat.le_refl _) _)
  have HFO := hid (show FO Z w.heap.size (.slice (some ⟨w.heap.size, 0, none⟩) 0 0) [] from by
    rw [hZ]; exact fo_lit (Blk.new w 28 []) (Nat.le_refl _))
  have HUL := hid (show ∀ i, (F7.upto q (L.take i)).length ≤ 1000 from fun i => by
    unfold F7.upto
    refine Nat.le_trans (List.length_filter_le _ _) ?_
    rw [List.length_take]; have := HN.out; omega)
  obtain ⟨y0, hy0⟩ : ∃ x, x = w.heap.size := ⟨_, rfl⟩
  have HY0 := hid hy0
  rw [← hy0] at HFO
  go_enter Try.func29, Try.ntmps29
  go_upto_region 2 with fail
  rw [← hZ, ← hy0]
  clear hZ hy0
  go_wp2_with fail
  go_loopw [5, 6] (fun u ii wr => ∃ (i : Nat) (pu : Option Addr) (nu cu : Nat), i ≤ n ∧ ii = .int .i64 i ∧ u = .slice pu nu cu ∧ FO wr y0 (.slice pu nu cu) (F7.upto q (L.take i)) ∧ Below y0 Z wr) (fun _ ii _ => n - (intOf ii).toNat)
  case atStart => exact ⟨0, _, _, _, by omega, rfl, rfl, HFO.out, Below.refl _ _⟩
  case round =>
    obtain ⟨i, pu, nu, cu, hi, rfl, rfl, hfo, hbw⟩ := hrel
    have HF := hid hfo
    have HB := hid hbw
    have HWW := hid (show Below w.heap.size w wr from by rw [← HY0.out]; exact (show Below y0 w Z from by rw [HY0.out]; exact HZ.out).trans hbw)
    have HLE := hid (HUL.out i)
    clear hfo hbw
    by_cases hlt : i < n
    · obtain ⟨f, hf⟩ := get_lt (l := L) (i := i) (by rw [← HN.out]; exact hlt)
      obtain ⟨b, o, rfl, hbl, y0', y1, y2, y3, y4, y5, y6, y7⟩ := GR.at8 (HR.out.up HWW.out) hf
      have hsn := upto_snoc q (L.take i) f
      rw [← take_snoc hf] at hsn
      clear hf
      by_cases hk : f.known ≤ q
      · rw [if_pos hk] at hsn
        have HSN := hid hsn
        obtain ⟨g, cap, w9, happ, hf9, hb9⟩ := app_fact' HF.out f (by have := HLE.out; omega) (by have := HWW.out.size; rw [HY0.out]; exact this)
        obtain ⟨nn9, hnn9⟩ : ∃ x, x = (F7.upto q (L.take i)).length + 1 := ⟨_, rfl⟩
        rw [← hnn9] at happ hf9
        have HAPP := hid happ; have HF9 := hid hf9; have HB9 := hid (HB.out.trans hb9)
        clear happ hf9 hb9 hsn hnn9
        go_wp2_with (at_builtin; refine wpList_append_run rfl (.tmp 21) (.tmp 26) 22 22 ?_ _ _ _ ?_ ?_ HAPP.out ?_; exact rfl; exact rfl; exact rfl)
        go_roundw
        case rel => exact ⟨i + 1, _, _, _, by omega, by go_num, rfl, by rw [HSN.out]; exact HF9.out, HB9.out⟩
        case measure => simp [intOf]; omega
      · rw [if_neg hk, List.append_nil] at hsn
        have HSN := hid hsn
        clear hsn
        go_wp2
        go_roundw
        case rel => exact ⟨i + 1, _, _, _, by omega, by go_num, rfl, by rw [HSN.out]; exact HF.out, HB.out⟩
        case measure => simp [intOf]; omega
    · have HRES := hid (show F7.upto q (L.take i) = F7.upto q L by rw [List.take_of_length_le]; have := HN.out; omega)
      go_wp2
      go_ret
      exact ⟨_, rfl, by rw [← HRES.out]; exact HF.out.gs, HWW.out⟩
end Go.Proofs.Ytbejjindkcjecaa

/- The law Changed, walked. -/
import Derived.Test.YtbejjindkcjecaaRefU
import Derived.Test.YtbejjindkcjecaaRefK
import Derived.Test.YtbejjindkcjecaaSane
import Derived.Test.YtbejjindkcjecaaFr
namespace Go.Proofs.Ytbejjindkcjecaa
open Go.RowKit Go
set_option linter.unusedVariables false
set_option linter.unusedSimpArgs false
set_option maxRecDepth 100000 in
set_option maxHeartbeats 8000000 in
theorem changed_law (v vr : Value) (L : List FA) (rs : List RD) (q q' : Int) (w : World) (hv : FS w v L) (hr : RS w vr rs) (hwf : ∀ f ∈ L, fwf f) (hwr : ∀ r ∈ rs, kwf r.1) :
    Calls Try.prog 5 #[v, vr, .int .i64 q, .int .i64 q'] w fun e w' => e = .returned (.bool true) ∧ Below w.heap.size w w' := by
  obtain ⟨p, c, hf⟩ := hv.form
  obtain ⟨pr, cr, hfr⟩ := hr.form
  obtain ⟨n, hn⟩ : ∃ n, n = L.length := ⟨_, rfl⟩
  obtain ⟨m, hm⟩ : ∃ m, m = rs.length := ⟨_, rfl⟩
  rw [← hn] at hf
  rw [← hm] at hfr
  have hl1 := hv.len
  have hl2 := hr.len
  rw [← hn] at hl1
  rw [← hm] at hl2
  unfold maxLen at hl1 hl2
  subst hf; subst hfr
  have HFS := hid (fun (W : World) (hW : Below w.heap.size w W) => hv.ups hW)
  have HRS := hid (fun (W : World) (hW : Below w.heap.size w W) => hr.ups hW)
  have HN := hid hn; have HWK := hid (fwf_wk hwf); have HWR := hid (show WR rs from hwr)
  have SA := hid sane_any
  clear hv hr hn hm hwf hwr
  go_enter Try.func5, Try.ntmps5
  go_wp2_with fail
  refine (SA.out _).mono ?_
  rintro e wn ⟨rfl, hb⟩
  have HT := hid hb
  clear hb SA
  by_cases h14 : 14 < n
  · have h14' : (14 : Int) < (n : Int) := by omega
    go_wp2_with fail
    go_ret
    exact ⟨rfl, HT.out⟩
  have h14' : ¬ ((14 : Int) < (n : Int)) := by omega
  by_cases h6 : 6 < m
  · have h6' : (6 : Int) < (m : Int) := by omega
    go_wp2_with fail
    go_ret
    exact ⟨rfl, HT.out⟩
  have h6' : ¬ ((6 : Int) < (m : Int)) := by omega
  have HN14 := hid (show L.length ≤ 14 by have := HN.out; omega)
  go_wp2_with fail
  refine (changed_any _ L q q' _ (HFS.out _ HT.out) (by have := HN14.out; omega) HWK.out).mono ?_
  rintro e wn ⟨u22, rfl, hcs, hb⟩
  have HT := hid (below_t HT.out hb)
  have H22 := hid hcs.cg
  clear hcs hb h14 h6 h14' h6'
  go_wp2_with fail
  refine (refChanged_any _ L q q' _ (HFS.out _ HT.out) (by have := HN14.out; omega)).mono ?_
  rintro e wn ⟨u26, rfl, hcg, hb⟩
  have HT := hid (below_t HT.out hb)
  have HS := hid (sameChanges_any u22 u26 _ _ _ (H22.out.ups hb) hcg)
  rw [show decide (F7.changes q q' L = F7.changes q q' L) = true from decide_eq_true rfl] at HS
  clear hcg hb H22
  go_wp2_with fail
  refine HS.out.mono ?_
  rintro e wn ⟨rfl, hb⟩
  have HT := hid (below_t HT.out hb)
  clear hb HS
  obtain ⟨A, hA⟩ : ∃ A, A = alk q q' L rs := ⟨_, rfl⟩
  have HAK := hid hA
  clear hA
  have HA1 := hid (alike_any _ _ L rs q q' _ (HFS.out _ HT.out) (HRS.out _ HT.out) (by have := HN14.out; omega) HWK.out HWR.out)
  rw [← HAK.out] at HA1
  go_wp2_with fail
  refine HA1.out.mono ?_
  rintro e wn ⟨rfl, hb⟩
  have HT := hid (below_t HT.out hb)
  clear hb HA1
  have HA2 := hid (refAlike_any _ _ L rs q q' _ (HFS.out _ HT.out) (HRS.out _ HT.out) (by have := HN14.out; omega))
  rw [← HAK.out] at HA2
  go_wp2_with fail
  refine HA2.out.mono ?_
  rintro e wn ⟨rfl, hb⟩
  have HT := hid (below_t HT.out hb)
  clear hb HA2 HAK
  have hAA : (A == A) = true := by cases A <;> rfl
  go_wp2_with fail
  refine (upto_any _ L q _ (HFS.out _ HT.out) (by have := HN14.out; omega)).mono ?_
  rintro e wn ⟨u44, rfl, hfo, hb⟩
  have HT := hid (below_t HT.out hb)
  have H44 := hid hfo.gs
  clear hfo hb
  go_wp2_with fail
  refine (refUpto_any _ L q _ (HFS.out _ HT.out) (by have := HN14.out; omega)).mono ?_
  rintro e wn ⟨u47, rfl, hfu, hb⟩
  have HT := hid (below_t HT.out hb)
  have HS := hid (same_any u44 u47 _ _ _ (H44.out.ups hb) hfu)
  rw [show decide (F7.upto q L = F7.upto q L) = true from decide_eq_true rfl] at HS
  clear hfu hb H44
  go_wp2_with fail
  refine HS.out.mono ?_
  rintro e wn ⟨rfl, hb⟩
  have HT := hid (below_t HT.out hb)
  clear hb HS
  go_wp2_with fail
  go_ret
  exact ⟨rfl, HT.out⟩
section
open Go.ChangeShapes Go.WideShapes Go.ChangeAt
variable {H : Type} {enc : TypeId × Value → H}
set_option maxRecDepth 100000 in
theorem open_r {w : World} {base : Nat} {spare : Nat → Bool} {held : Bool} {fuel : Nat} {cs : List Value} {x : DataW H × List MemPlace} (h : DataW.trod enc Try.prog w base spare held fuel 54 cs = some x) : ∃ f : RD, cs = rc f ∧ kwf f.1 := by
  obtain ⟨xs, n, _, _, hlen, hxl, hf⟩ := DataW.trod_struct Try.underlying54 h
  have hl : cs.length = 5 := hlen.trans (by kernel_rfl)
  have k3 : Try.prog.cellsOf 3 = 1 := by kernel_rfl
  have k24 : Try.prog.cellsOf 24 = 3 := by kernel_rfl
  match cs, hl with
  | [c0, c1, c2, c3, c4], _ =>
    match xs, hxl with
    | [y0, y1, y2], _ =>
      have h0 := hf 0 _ rfl; have h1 := hf 1 _ rfl; have h2 := hf 2 _ rfl
      simp [k3, k24] at h0 h1 h2
      obtain ⟨⟨x0, x1, x2⟩, e0, w0⟩ := open_k h0
      obtain ⟨x3, rfl, w3⟩ := open_i h1
      obtain ⟨x4, rfl, w4⟩ := open_i h2
      simp [kc] at e0
      obtain ⟨rfl, rfl, rfl⟩ := e0
      exact ⟨((x0, x1, x2), (x3, x4)), rfl, w0⟩
instance : Inhabited RD := ⟨((0, 0, 0), (0, 0))⟩
set_option maxRecDepth 100000 in
/-- reads that came in -/
theorem open_reads {W : World} {base : Nat} {v1 : Value} {d1 : DataW H} {p1 : List MemPlace} (hval : Value.okWide Try.prog W .any base 44 v1) (h1 : DataW.Trod enc Try.prog W 0 (fun _ => true) true 44 v1 d1 p1) : ∃ l, RS W v1 l ∧ ∀ r ∈ l, kwf r.1 :=
  open_gs rc 5 (by omega) rc_len (fun r : RD => kwf r.1) Try.underlying44 (by kernel_rfl) (fun h => open_r h) hval h1
end
end Go.Proofs.Ytbejjindkcjecaa

/- The law CodecDecodeSpec, from the contracts. -/
import Derived.Test.YtiklpimnmbjenaaRdM
import Derived.Test.YtiklpimnmbjenaaRdL
namespace Go.Proofs.Ytiklpimnmbjenaa
open Go.RowKit Go
set_option linter.unusedVariables false
set_option linter.unusedSimpArgs false
theorem same_self (t : T) : same t t = true := by
  induction t using T.all with
  | step k n s l ih =>
    rw [same_mk]
    simp only [ne_eq, not_true, if_false]
    clear k n s
    induction l with
    | nil => exact sames_nil _
    | cons t r ihr => rw [sames_cons, ih t (by simp), ihr (fun t h => ih t (by simp [h]))]; rfl
def treeOf (o : Option T) : T := match o with | none => T.mk 0 0 ⟨#[]⟩ [] | some t => t
def codeOf (o : Option T) : Int := match o with | none => 10 | some _ => 0
theorem outD_at {w w' : World} {o : Option T} {e : Ending} (h : OutD w w' o e) :
    ∃ (k n : Int) (s : ByteArray) (p : Option Addr) (len cap : Nat), e = .returned (.tuple #[.agg #[.int .i64 k, .int .i64 n, .string s, .slice p len cap], .int .i64 (codeOf o)]) ∧ At w' w'.heap.size (treeOf o) (.agg #[.int .i64 k, .int .i64 n, .string s, .slice p len cap]) ∧ Below w.heap.size w w' := by
  obtain ⟨hb, h⟩ := h
  cases o with
  | none => exact ⟨0, 0, ⟨#[]⟩, none, 0, 0, h, at_leaf 0 0 ⟨#[]⟩ (by unfold wfI; omega) (by unfold wfI; omega) (Nat.zero_le _), hb⟩
  | some t =>
    obtain ⟨v, h1, h2⟩ := h
    obtain ⟨k, n, s, p, len, cap, rfl⟩ := atp_agg h2
    exact ⟨k, n, s, p, len, cap, h1, AtP.kept (fun k hk => ⟨hk.2, rfl⟩) h2, hb⟩
set_option maxRecDepth 100000 in
set_option maxHeartbeats 1000000 in
theorem declaw_any (l : List Int) (v : Value) (w : World) (hv : InB w v l) : Calls Try.prog 4 #[v] w fun e w' => e = .returned (.bool true) ∧ Below w.heap.size w w' := by
  obtain ⟨p, cap, rfl⟩ : ∃ p cap, v = .slice p l.length cap := by obtain ⟨_, p, cap, h, _⟩ := hv; exact ⟨p, cap, h⟩
  have HI := hid hv; clear hv
  obtain ⟨len, hlen⟩ : ∃ n, n = l.length := ⟨_, rfl⟩
  rw [← hlen] at HI ⊢
  have HL := hid hlen; clear hlen
  go_enter Try.func4, Try.ntmps4
  go_wp2_with fail
  refine (sane_any _).mono ?_
  rintro e w1 ⟨rfl, hb1⟩
  have B1 := hid hb1; clear hb1
  by_cases hlt : 2000 < len
  · go_wp2
    go_ret
    exact ⟨rfl, B1.out⟩
  · go_wp2_with fail
    refine (Decode_any l _ w1 (HI.out.up B1.out) (by rw [← HL.out]; omega)).mono ?_
    intro e w2 h2
    obtain ⟨k, n, s, p2, len2, cap2, rfl, a2, b2⟩ := outD_at h2
    have A2 := hid a2; have B2 := hid (below_tr B1.out b2); clear h2 a2 b2
    go_wp2_with fail
    have hal : Below w.heap.size w (w2.alloc (.cells #[.int .i64 k, .int .i64 n, .string s, .slice p2 len2 cap2] 24)) := below_tr B2.out (below_al _ _)
    refine (refDecode_any l _ _ (HI.out.up hal) (by rw [← HL.out]; omega)).mono ?_
    intro e w3 h3
    obtain ⟨k3, n3, s3, p3, len3, cap3, rfl, a3, b3⟩ := outD_at h3
    obtain ⟨H, hH⟩ : ∃ H, H = w2.heap.size := ⟨_, rfl⟩
    have hs3 : H < w3.heap.size := by have := b3.size; simp at this; omega
    have c0 : w3.cell? ⟨H, 0, none⟩ = some (.int .i64 k) := by rw [hH]; exact cell_up (by simp [go_sem]) b3
    have c1 : w3.cell? ⟨H, 1, none⟩ = some (.int .i64 n) := by rw [hH]; exact cell_up (by simp [go_sem]) b3
    have c2 : w3.cell? ⟨H, 2, none⟩ = some (.string s) := by rw [hH]; exact cell_up (by simp [go_sem]) b3
    have c3 : w3.cell? ⟨H, 3, none⟩ = some (.slice p2 len2 cap2) := by rw [hH]; exact cell_up (by simp [go_sem]) b3
    have A3 := hid a3
    have A23 := hid (at_up (at_up A2.out (below_al w2 (.cells #[.int .i64 k, .int .i64 n, .string s, .slice p2 len2 cap2] 24))) b3)
    have B3 := hid (below_tr hal b3)
    rw [← hH]
    clear h3 a3 b3 hal hH
    have B4 := hid (below_tr B3.out (below_al w3 (.cells #[.int .i64 k3, .int .i64 n3, .string s3, .slice p3 len3 cap3] 24)))
    have A4 := hid (at_up A3.out (below_al w3 (.cells #[.int .i64 k3, .int .i64 n3, .string s3, .slice p3 len3 cap3] 24)))
    have A24 := hid (at_up A23.out (below_al w3 (.cells #[.int .i64 k3, .int .i64 n3, .string s3, .slice p3 len3 cap3] 24)))
    have d0 := cell_up c0 (below_al w3 (.cells #[.int .i64 k3, .int .i64 n3, .string s3, .slice p3 len3 cap3] 24))
    have d1 := cell_up c1 (below_al w3 (.cells #[.int .i64 k3, .int .i64 n3, .string s3, .slice p3 len3 cap3] 24))
    have d2 := cell_up c2 (below_al w3 (.cells #[.int .i64 k3, .int .i64 n3, .string s3, .slice p3 len3 cap3] 24))
    have d3 := cell_up c3 (below_al w3 (.cells #[.int .i64 k3, .int .i64 n3, .string s3, .slice p3 len3 cap3] 24))
    go_wp2_with fail
    refine (rsame_any (treeOf (decB l)) (treeOf (decB l)) _ _ _ _ A24.out A4.out (Nat.le_refl _)).mono ?_
    rintro e w5 ⟨rfl, hb5⟩
    rw [same_self]
    have B5 := hid (below_tr B4.out hb5); clear hb5
    go_wp2
    go_ret
    exact ⟨by simp, B5.out⟩
end Go.Proofs.Ytiklpimnmbjenaa

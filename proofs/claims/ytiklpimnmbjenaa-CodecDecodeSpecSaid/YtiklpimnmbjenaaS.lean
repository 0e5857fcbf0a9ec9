/- Contracts of the functions of the specification's package for encoding: numeral, unsigned, encode. -/
import Derived.Test.YtiklpimnmbjenaaI
import Derived.Test.YtiklpimnmbjenaaLawz
import Derived.Deep.AppendLies
namespace Go.Proofs.Ytiklpimnmbjenaa
open Go.RowKit Go
set_option linter.unusedVariables false
set_option linter.unusedSimpArgs false

/-- v is a slice of the bytes l in a block from base on -/
def Own (w : World) (base : Nat) (v : Value) (l : List Int) : Prop := ∃ g cap, v = .slice (some ⟨g, 0, none⟩) l.length cap ∧ w.ownsRow base 5 1 (.slice (some ⟨g, 0, none⟩) l.length cap) l.length (l.map (Value.int .u8))

theorem Own.below {w w' : World} {base B : Nat} {v : Value} {l : List Int} (h : Own w base v l) (hb : Below B w w') (hB : w.heap.size ≤ B) : Own w' base v l := by
  obtain ⟨g, cap, hv, h⟩ := h
  exact ⟨g, cap, hv, row_below h hb (by have := row_lt h; omega)⟩
theorem Own.cells {w : World} {base g cap n : Nat} {l : List Int} (h : w.ownsRow base 5 1 (.slice (some ⟨g, 0, none⟩) n cap) n (l.map (Value.int .u8))) : ∀ j u, (l.map (Value.int .u8))[j]? = some u → w.cell? ((⟨g, 0, none⟩ : Addr).add j) = some u :=
  World.ownsRow.cells h rfl
theorem one_each (l : List Int) : ∀ u ∈ l.map (Value.int .u8), u.oneCell' = true := by
  intro u hu; simp at hu; obtain ⟨x, _, rfl⟩ := hu; rfl

theorem below_al' (w : World) (o : Obj) : Below w.heap.size w (w.alloc o) := (Below.refl _ _).alloc (Nat.le_refl _) _

theorem refUns_any (a : Int) (w : World) (h : wfI a) : Calls Try.prog 34 #[.int .i64 a] w fun e w' => e = .returned (.int .u64 (uns a : Nat)) ∧ w = w' := by
  obtain ⟨h0, h1⟩ := h
  by_cases hp : 0 ≤ a
  · have e : IntKind.u64.wrap (2 * IntKind.u64.wrap a) = (uns a : Nat) := by rw [wrap_u64', wrap_u64']; unfold uns; rw [if_pos hp]; omega
    have HE := hid e; have H0 := hid h0; have H1 := hid h1; clear e h0 h1
    go_enter Try.func34, Try.ntmps34
    go_wp2
    go_ret
    exact ⟨by simp [HE.out], rfl⟩
  · have e : IntKind.u64.wrap (IntKind.u64.wrap (2 * IntKind.u64.wrap (wrap64 (-wrap64 (a + 1)))) + 1) = (uns a : Nat) := by
      rw [wrap_u64', wrap_u64', wrap_u64', show wrap64 (a + 1) = a + 1 from by unfold wrap64; omega, show wrap64 (-(a + 1)) = -(a + 1) from by unfold wrap64; omega]
      unfold uns; rw [if_neg hp]; omega
    have HE := hid e; have H0 := hid h0; have H1 := hid h1; clear e h0 h1
    go_enter Try.func34, Try.ntmps34
    go_wp2
    go_ret
    exact ⟨by simp [HE.out], rfl⟩

theorem Own.lit (w : World) (x : Int) (base : Nat) (hb : base ≤ w.heap.size) : (w.alloc (.cells #[.int .u8 x] 5)).ownsRow base 5 1 (.slice (some ⟨w.heap.size, 0, none⟩) 1 1) 1 ([x].map (Value.int .u8)) := by
  have := World.ownsRow_lit (e := 5) (size := 1) w #[.int .u8 x] 1 hb (by unfold maxLen; omega) (by simp)
  simpa using this

theorem Own.lit' (w : World) (x : Int) (base g : Nat) (hg : g = w.heap.size) (hb : base ≤ w.heap.size) : (w.alloc (.cells #[.int .u8 x] 5)).drew.ownsRow base 5 1 (.slice (some ⟨g, 0, none⟩) 1 1) 1 ([x].map (Value.int .u8)) := by
  subst hg; exact (Own.lit w x base hb).drew

set_option maxRecDepth 100000 in
set_option maxHeartbeats 1000000 in
theorem refNum_any (n : Nat) : ∀ (u : Nat) (w : World), u < 128 ^ (n + 1) → u < 18446744073709551616 → n ≤ 9 → Calls Try.prog 33 #[.int .u64 u] w fun e w' => ∃ v, e = .returned v ∧ Own w' w.heap.size v (num u) ∧ Below w.heap.size w w' := by
  obtain ⟨i0, hi, hz0, hz1, hz2⟩ := info_parts Try.info5
  induction n with
  | zero =>
    intro u w h _ _
    have hu : u < 128 := by omega
    have HN := hid (num_lt hu)
    clear h
    go_enter Try.func33, Try.ntmps33
    go_wp2
    go_ret
    refine ⟨_, rfl, ⟨w.heap.size, 1, ?_, ?_⟩, below_al' _ _⟩
    · rw [HN.out]; rfl
    · rw [HN.out]; exact Own.lit w _ _ (Nat.le_refl _)
  | succ n ih =>
    intro u w h hm hn
    by_cases hu : u < 128
    · have HN := hid (num_lt hu)
      clear h ih hm
      go_enter Try.func33, Try.ntmps33
      go_wp2
      go_ret
      refine ⟨_, rfl, ⟨w.heap.size, 1, ?_, ?_⟩, below_al' _ _⟩
      · rw [HN.out]; rfl
      · rw [HN.out]; exact Own.lit w _ _ (Nat.le_refl _)
    · have HN := hid (num_ge hu)
      have hih : ∀ w, Calls Try.prog 33 #[.int .u64 ((u : Int) / 128)] w fun e w' => ∃ v, e = .returned v ∧ Own w' w.heap.size v (num (u / 128)) ∧ Below w.heap.size w w' := by
        intro w
        have := ih (u / 128) w (by rw [Nat.div_lt_iff_lt_mul (by omega)]; rw [Nat.pow_succ] at h; omega) (by omega) (by omega)
        rwa [show ((u / 128 : Nat) : Int) = (u : Int) / 128 from by omega] at this
      have hl := num_bits n (u / 128) (by rw [Nat.div_lt_iff_lt_mul (by omega)]; rw [Nat.pow_succ] at h; omega)
      have hp := num_pos (u / 128)
      have hq : (u : Int) / 128 ≤ 144115188075855871 := by omega
      have HI := hid hih; clear h ih hih hm
      go_enter Try.func33, Try.ntmps33
      go_wp2_with fail
      refine (HI.out _).mono ?_
      rintro e w1 ⟨v, rfl, ⟨g, cap, rfl, ho⟩, hb⟩
      have h1 : w1.ownsRow w.heap.size 5 1 (.slice (some ⟨w.heap.size, 0, none⟩) 1 1) 1 ([((u % 128 + 128 : Nat) : Int)].map (Value.int .u8)) := row_below (Own.lit w _ _ (Nat.le_refl _)) hb (by simp)
      have hs := hb.size
      simp at hs
      have H1 := hid h1; have HO := hid ho; have HB := hid hb; clear h1 ho hb
      go_wp2_with (at_builtin; refine wpList_append_lies _ rfl (.tmp 12) (.tmp 15) 27 rfl w.heap.size 5 i0 (.int .u8 0) 1 1 Try.underlying27 hi hz0 hz1 hz2 rfl (by decide) _ 1 _ rfl H1.out ⟨g, 0, none⟩ (num (u / 128)).length cap ((num (u / 128)).map (Value.int .u8)) rfl (by simp) (Own.cells HO.out) (one_each _) (by omega) (by unfold maxLen; omega) (by omega) (by omega) _ rfl ?_; intro g2 cap2 w2 h2 hg2 hor hlt)
      go_ret
      have hlen : (num u).length = 1 + (num (u / 128)).length := by rw [HN.out]; simp; omega
      refine ⟨.slice (some ⟨g2, 0, none⟩) (1 + (num (u / 128)).length) cap2, rfl, ⟨g2, cap2, by rw [hlen], ?_⟩, ?_⟩
      · rw [hlen, HN.out, List.map_cons]; exact h2
      · refine ((below_al' _ _).trans (HB.out.mono (by simp))).trans ?_
        exact below_of_grown hg2 (by simp [Value.ownBlock]) (by omega)
end Go.Proofs.Ytiklpimnmbjenaa

/- Contracts of the functions of package codec and lemmas for them: what each call returns and what becomes of memory, for every input within the bounds that each theorem states. -/
import Derived.Test.YtiklpimnmbjenaaA
import Derived.Test.YtiklpimnmbjenaaNumbers
namespace Go.Proofs.Ytiklpimnmbjenaa
open Go.RowKit Go
set_option linter.unusedVariables false
set_option linter.unusedSimpArgs false

theorem hid {p : Prop} (h : p) : RowKit.Hid p := h

theorem Try.info5 : (Try.prog.info? 5).map (fun i => (i.zero, i.size, i.bytes)) = some (some (.int .u8 0), 1, 1) := by kernel_rfl

abbrev Row (w : World) (g k cap : Nat) (xs : List Int) : Prop := w.ownsRow g 5 1 (.slice (some ⟨g, 0, none⟩) k cap) k (xs.map (Value.int .u8))

theorem grown_trans {w w1 w2 : World} {r : Option Nat} (h : w.grownBy w1 r) (k : w1.grownBy w2 r) : w.grownBy w2 r :=
  ⟨k.os.trans h.os, k.tape.trans h.tape, k.output.trans h.output, Nat.le_trans h.size k.size, fun i hi hr => (k.block i (Nat.lt_of_lt_of_le hi h.size) hr).trans (h.block i hi hr)⟩
theorem grown_alloc (w : World) (o : Obj) (r : Option Nat) : w.grownBy (w.alloc o) r := World.grownBy_alloc w o r

theorem one_cell (w : World) (v : Value) (t : TypeId) : ∀ j u, [v][j]? = some u → (w.alloc (.cells #[v] t)).cell? ((⟨w.heap.size, 0, none⟩ : Addr).add j) = some u := by
  intro j u h
  match j, h with
  | 0, h => simp at h; subst h; simp [Addr.add]
theorem one_one (k : IntKind) (x : Int) : ∀ u ∈ [Value.int k x], u.oneCell' = true := by
  intro u h; simp at h; subst h; rfl
set_option maxRecDepth 100000 in
set_option maxHeartbeats 400000 in
theorem writeNumeral_any (g k cap : Nat) (xs : List Int) (u : Nat) (w : World) (hu : Hid (u < 18446744073709551616)) (hcap : k + (num u).length ≤ cap) (hm : cap ≤ 1000000)
    (hown : Row w g k cap xs) :
    Calls Try.prog 50 #[.slice (some ⟨g, 0, none⟩) k cap, .int .u64 u] w fun e w' => e = .returned (.slice (some ⟨g, 0, none⟩) (k + (num u).length) cap) ∧ Row w' g (k + (num u).length) cap (xs ++ num u) ∧ w.grownBy w' (some g) := by
  obtain ⟨i0, hi, hz0, hz1, hz2⟩ := info_parts Try.info5
  have HN : Hid (num u = [] ++ num u) := rfl
  go_enter Try.func50, Try.ntmps50
  go_wp2
  go_loopw [0, 1] (fun b v wr => ∃ (pre : List Int) (t : Nat), num u = pre ++ num t ∧ t ≤ u ∧ b = .slice (some ⟨g, 0, none⟩) (k + pre.length) cap ∧ v = .int .u64 t ∧ Row wr g (k + pre.length) cap (xs ++ pre) ∧ w.grownBy wr (some g))
     (fun _ v _ => (intOf v).toNat)
  case atStart => exact ⟨[], u, rfl, Nat.le_refl _, rfl, rfl, by simpa using hown, World.grownBy.refl _ _⟩
  case round =>
    obtain ⟨pre, t, hp, htu, rfl, rfl, hr, hg⟩ := hrel
    have HP := hid hp; clear hp
    have hl : (num u).length = pre.length + (num t).length := by rw [HP.out]; simp
    by_cases hlt : t < 128
    · have hone : (num t).length = 1 := by rw [num_lt hlt]; rfl
      have hb : k + pre.length + 1 ≤ cap := by omega
      have HL := hid hl; have HO := hid hone; clear hl hone
      go_wp2_with (at_builtin; refine wpList_append_fits _ rfl (.tmp 15) (.tmp 18) 27 rfl g 5 i0 1 Try.underlying27 hi hz1 g (k + pre.length) cap _ rfl (hr.alloc _) ⟨wr.heap.size, 0, none⟩ 1 1 [.int .u8 t] rfl rfl (one_cell _ _ _) (one_one _ _) (by omega) ?_; intro w1 hown1 hgrow1)
      go_ret
      rw [hid ((HL.out).trans (by rw [HO.out]))]
      refine ⟨rfl, ?_, grown_trans (grown_trans hg (grown_alloc _ _ _)) hgrow1⟩
      rw [HP.out, num_lt hlt]
      unfold Row; simpa [Nat.add_assoc] using hown1
    · have hone : (num t).length = 1 + (num (t / 128)).length := by rw [num_ge hlt]; simp; omega
      have hb : k + pre.length + 1 ≤ cap := by have := num_pos (t / 128); omega
      have hor : bits BinOp.or IntKind.u8 ((t : Int) % 256) 128 = ((t % 128 + 128 : Nat) : Int) := or_128 t
      have HL := hid hl; have HO := hid hone; have HR := hid hor; clear hl hone hor
      go_wp2_with (at_builtin; refine wpList_append_fits _ rfl (.tmp 7) (.tmp 11) 27 rfl g 5 i0 1 Try.underlying27 hi hz1 g (k + pre.length) cap _ rfl (hr.alloc _) ⟨wr.heap.size, 0, none⟩ 1 1 [.int .u8 (bits BinOp.or IntKind.u8 ((t : Int) % 256) 128)] rfl rfl (one_cell _ _ _) (one_one _ _) (by omega) ?_; intro w1 hown1 hgrow1)
      go_roundw
      case rel =>
        refine ⟨pre ++ [((t % 128 + 128 : Nat) : Int)], t / 128, ?_, by omega, ?_, by go_num, ?_, grown_trans (grown_trans hg (grown_alloc _ _ _)) hgrow1⟩
        · rw [HP.out, num_ge hlt]; simp
        · simp [Nat.add_assoc]
        · rw [HR.out] at hown1; unfold Row; simpa [Nat.add_assoc] using hown1
      case measure => simp [intOf]; omega
end Go.Proofs.Ytiklpimnmbjenaa

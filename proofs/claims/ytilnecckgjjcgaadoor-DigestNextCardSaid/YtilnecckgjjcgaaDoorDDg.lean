/- Contract of the list of digests that bytes determine. -/
import Derived.Test.YtilnecckgjjcgaaDoorDAp
namespace Go.Proofs.YtilnecckgjjcgaaDoor.Dg
open Go.RowKit Go
set_option linter.unusedVariables false
set_option linter.unusedSimpArgs false
/-- the digest that a byte at a place determines -/
def dg (c : UInt8) (i : Nat) : List UInt8 := UInt8.ofNat (c.toNat % 4) :: UInt8.ofNat (i / 8) :: List.replicate 30 0
theorem dg_len (c : UInt8) (i : Nat) : (dg c i).length = 32 := by simp [dg]
theorem isD_dg (c : UInt8) (i : Nat) (hi : i < 24) (x y : Int) (hx : x = (c.toNat : Int) % 4) (hy : y = (i : Int) / 8) : IsD (dg c i) (.int .u8 x :: .int .u8 y :: (List.replicate 30 (0 : UInt8)).map vb) := by
  have h := isD_of (dg_len c i)
  have e : (dg c i).map vb = .int .u8 x :: .int .u8 y :: (List.replicate 30 (0 : UInt8)).map vb := by
    rw [dg, List.map_cons, List.map_cons]
    have e1 : vb (UInt8.ofNat (c.toNat % 4)) = .int .u8 x := by rw [vb, hx]; congr 1; rw [byte_ofNat]; push_cast; omega
    have e2 : vb (UInt8.ofNat (i / 8)) = .int .u8 y := by rw [vb, hy]; congr 1; rw [byte_ofNat]; push_cast; omega
    rw [e1, e2]
  rwa [e] at h
def dgs (l : List UInt8) : Nat → List (List UInt8)
  | 0 => []
  | k + 1 => dgs l k ++ [dg (l.getD k 0) k]
theorem dgs_len (l : List UInt8) (k : Nat) : (dgs l k).length = k := by
  induction k with
  | zero => rfl
  | succ k ih => rw [dgs, List.length_append, ih]; rfl
theorem dgs_32 (l : List UInt8) (k : Nat) : ∀ d ∈ dgs l k, d.length = 32 := by
  induction k with
  | zero => intro d hd; simp [dgs] at hd
  | succ k ih =>
    intro d hd
    rw [dgs] at hd
    rcases List.mem_append.1 hd with hd | hd
    · exact ih d hd
    · simp at hd; subst hd; exact dg_len _ _
/-- the whole list -/
def digs (l : List UInt8) : List (List UInt8) := dgs l (min l.length 24)
theorem digs_len (l : List UInt8) : (digs l).length ≤ 24 := by rw [digs, dgs_len]; omega
section
variable {ops : Array Oper} {rest : List Oper} {o : Oper} {a : Act} {w : World} {Q : Exit → Act → World → Prop}
/-- append of digests at the list of a plain region's operations -/
theorem wpl_oe (hg : o.guard = none) (s x : Operand) (hop : o.op = Op.call { callee := Callee.builtin Builtin.append, args := #[s, x], argTypes := #[30, 30] }) (ht : o.type = 30)
    (base : Nat) (ds es : List (List UInt8)) (hs : OE w base (a.eval s) ds) (hx : DA w (a.eval x) es) (hn : ds.length + es.length ≤ 1000000000) (hb : base ≤ w.heap.size)
    (h : ∀ v' W, OE W base v' (ds ++ es) → Below base w W → wpList Tryd.prog ops Q rest (a.put o.dst v') W) : wpList Tryd.prog ops Q (o :: rest) a w := by
  obtain ⟨v', w', h1, h2, h3⟩ := append_oe hs hx hn hb
  exact wpList_append_run hg s x 30 30 hop _ _ v' rfl rfl (by rw [ht]; exact h1) (h v' w' h2 h3)
end
set_option maxRecDepth 100000 in
set_option maxHeartbeats 4000000 in
theorem digestsOf_any (v : Value) (b : List UInt8) (w : World) (hv : BS w v b) : Calls Tryd.prog 14 #[v] w fun e w' => ∃ v', e = .returned v' ∧ OE w' w.heap.size v' (digs b) ∧ Below w.heap.size w w' := by
  have HV := hid hv
  obtain ⟨p, cap, rfl⟩ := hv.form
  have hcl : ∀ k, k < b.length → ∃ a, p = some a ∧ b.length < 9223372036854775808 ∧ ∀ W, Below w.heap.size w W → W.cell? (a.add k) = some (.int .u8 ((b.getD k 0).toNat : Int)) := by
    intro k hk
    rcases hv with ⟨_, h⟩ | ⟨a, c, h1, h2, h3, h4, h5⟩
    · rw [h] at hk; simp at hk
    · simp only [Value.slice.injEq] at h1
      refine ⟨a, h1.1, by unfold maxLen at h3; omega, fun W hb => ?_⟩
      have := (h4.ups hb) k _ (by rw [List.getElem?_map, List.getElem?_eq_getElem hk]; rfl)
      rw [this, vb, List.getD_eq_getElem?_getD, List.getElem?_eq_getElem hk]; rfl
  have hbl : b.length < 9223372036854775808 := by
    rcases HV.out with ⟨_, h⟩ | ⟨a, c, _, h1, h2, _⟩
    · rw [h]; simp
    · unfold maxLen at h2; omega
  have HC := hid hcl
  clear hv hcl
  obtain ⟨n, hn⟩ : ∃ n, n = b.length := ⟨_, rfl⟩
  rw [← hn] at hbl ⊢
  have HN := hid hn
  clear hn
  go_enter Tryd.func14, Tryd.ntmps14
  go_wp2
  go_loopw [3, 4] (fun s i w1 => ∃ k : Nat, k ≤ n ∧ k ≤ 24 ∧ i = .int .i64 k ∧ OE w1 w.heap.size s (dgs b k) ∧ Below w.heap.size w w1) (fun _ i _ => 24 - (intOf i).toNat)
  case atStart => exact ⟨0, by omega, by omega, rfl, .inr ⟨rfl, _, rfl⟩, below_al _ _⟩
  case round =>
    obtain ⟨k, hk, hk24, rfl, hoe, hb⟩ := hrel
    have HOE := hid hoe; have HB := hid hb
    by_cases h1 : k < n
    · by_cases h2 : k < 24
      · obtain ⟨a, rfl, _, hcell⟩ := HC.out k (by rw [← HN.out]; exact h1)
        have hce := hcell wr hb
        clear hoe hb hcell
        go_wp2_with (refine wpl_oe rfl (.tmp 16) (.tmp 26) rfl rfl w.heap.size (dgs b k) [dg (b.getD k 0) k] (HOE.out.ups (below_al _ _)) (isD_da (isD_dg (b.getD k 0) k h2 _ _ (by simp) rfl) (cells_alloc _ _ _)) (by rw [dgs_len]; simp; omega) (by have := HB.out.size; simp; omega) ?_; intro v' W hoe' hb'; have HOE' := hid hoe'; have HB' := hid ((HB.out.trans ((below_al wr _).mono HB.out.size)).trans hb'); clear hoe' hb')
        go_roundw
        case rel => exact ⟨k + 1, by omega, by omega, by go_num, HOE'.out, HB'.out⟩
        case measure => simp [intOf]; omega
      · clear hoe hb
        go_wp2
        go_ret
        refine ⟨_, rfl, ?_, HB.out⟩
        have e : digs b = dgs b k := by rw [digs, ← HN.out]; congr 1; omega
        rw [e]; exact HOE.out
    · clear hoe hb
      go_wp2
      go_ret
      refine ⟨_, rfl, ?_, HB.out⟩
      have e : digs b = dgs b k := by rw [digs, ← HN.out]; congr 1; omega
      rw [e]; exact HOE.out
end Go.Proofs.YtilnecckgjjcgaaDoor.Dg

/- The frames' common part: what the arguments read as. -/
import Derived.Test.YtbejjindkcjecaaO
import Derived.Test.YtbejjindkcjecaaRows
import Derived.ChangeSlices
import Derived.WalkKit
import Derived.ProofKit
import Derived.OpenShut
import Derived.Carry
import Derived.Lib.SmallJoins
import Derived.Deep.SlicePairs
import Derived.Deep.Slices
namespace Go.Proofs.Ytbejjindkcjecaa
open Go Go.ChangeShapes Go.WideShapes Go.ChangeAt Go.RowKit
set_option linter.unusedVariables false
set_option maxRecDepth 100000
set_option linter.unusedSimpArgs false
theorem own : ownKnob Try.prog.godebug = none := by kernel_rfl
theorem shape_lt {w : World} {b : Nat} {x : TypeId × Nat} (h : w.shape? b = some x) : b < w.heap.size := by
  unfold World.shape? at h
  cases hb : w.heap[b]? with
  | none => rw [hb] at h; simp at h
  | some o => exact (Array.getElem?_eq_some_iff.1 hb).1
def fwf (f : FA) : Prop := I64 f.kind ∧ I64 f.subj ∧ I64 f.obj ∧ I64 f.val ∧ I64 f.frm ∧ I64 f.to ∧ I64 f.known ∧ I64 f.no
theorem i64_of {n : Int} (h : (Lit.int .i64 n).wf = true) : I64 n := by
  simp [Lit.wf, IntKind.min, IntKind.max, IntKind.bits, IntKind.signed] at h
  exact h
section
variable {H : Type} {enc : TypeId × Value → H} {w : World} {base : Nat} {spare : Nat → Bool} {held : Bool}
theorem open_i {n : Nat} {c : Value} {y : DataW H × List MemPlace} (h : DataW.trod enc Try.prog w base spare held n 3 [c] = some y) : ∃ x, c = .int .i64 x ∧ I64 x := by
  obtain ⟨x, e0, _, w0⟩ := DataW.trod_int Try.underlying3 h
  exact ⟨x, by simpa using e0, i64_of w0⟩
theorem open_k {fuel : Nat} {cs : List Value} {x : DataW H × List MemPlace} (h : DataW.trod enc Try.prog w base spare held fuel 24 cs = some x) : ∃ k : KE, cs = kc k ∧ kwf k := by
  obtain ⟨xs, n, _, _, hlen, hxl, hf⟩ := DataW.trod_struct Try.underlying24 h
  have hl : cs.length = 3 := hlen.trans (by kernel_rfl)
  have k3 : Try.prog.cellsOf 3 = 1 := by kernel_rfl
  match cs, hl with
  | [c0, c1, c2], _ =>
    match xs, hxl with
    | [y0, y1, y2], _ =>
      have h0 := hf 0 _ rfl; have h1 := hf 1 _ rfl; have h2 := hf 2 _ rfl
      simp [k3] at h0 h1 h2
      obtain ⟨x0, rfl, w0⟩ := open_i h0
      obtain ⟨x1, rfl, w1⟩ := open_i h1
      obtain ⟨x2, rfl, w2⟩ := open_i h2
      exact ⟨(x0, x1, x2), rfl, w0, w1, w2⟩
theorem open_s {fuel : Nat} {cs : List Value} {x : DataW H × List MemPlace} (h : DataW.trod enc Try.prog w base spare held fuel 26 cs = some x) : ∃ k : Int × Int, cs = pc k ∧ I64 k.1 ∧ I64 k.2 := by
  obtain ⟨xs, n, _, _, hlen, hxl, hf⟩ := DataW.trod_struct Try.underlying26 h
  have hl : cs.length = 2 := hlen.trans (by kernel_rfl)
  have k3 : Try.prog.cellsOf 3 = 1 := by kernel_rfl
  match cs, hl with
  | [c0, c1], _ =>
    match xs, hxl with
    | [y0, y1], _ =>
      have h0 := hf 0 _ rfl; have h1 := hf 1 _ rfl
      simp [k3] at h0 h1
      obtain ⟨x0, rfl, w0⟩ := open_i h0
      obtain ⟨x1, rfl, w1⟩ := open_i h1
      exact ⟨(x0, x1), rfl, w0, w1⟩
theorem open_f {fuel : Nat} {cs : List Value} {x : DataW H × List MemPlace} (h : DataW.trod enc Try.prog w base spare held fuel 28 cs = some x) : ∃ f : FA, cs = fc f ∧ fwf f := by
  obtain ⟨xs, n, _, _, hlen, hxl, hf⟩ := DataW.trod_struct Try.underlying28 h
  have hl : cs.length = 8 := hlen.trans (by kernel_rfl)
  have k3 : Try.prog.cellsOf 3 = 1 := by kernel_rfl
  have k24 : Try.prog.cellsOf 24 = 3 := by kernel_rfl
  have k26 : Try.prog.cellsOf 26 = 2 := by kernel_rfl
  match cs, hl with
  | [c0, c1, c2, c3, c4, c5, c6, c7], _ =>
    match xs, hxl with
    | [y0, y1, y2, y3, y4], _ =>
      have h0 := hf 0 _ rfl; have h1 := hf 1 _ rfl; have h2 := hf 2 _ rfl; have h3 := hf 3 _ rfl; have h4 := hf 4 _ rfl
      simp [k3, k24, k26] at h0 h1 h2 h3 h4
      obtain ⟨⟨x0, x1, x2⟩, e0, w0⟩ := open_k h0
      obtain ⟨x3, rfl, w3⟩ := open_i h1
      obtain ⟨⟨x4, x5⟩, e4, w4⟩ := open_s h2
      obtain ⟨x6, rfl, w6⟩ := open_i h3
      obtain ⟨x7, rfl, w7⟩ := open_i h4
      simp [kc] at e0
      simp [pc] at e4
      obtain ⟨rfl, rfl, rfl⟩ := e0
      obtain ⟨rfl, rfl⟩ := e4
      exact ⟨⟨x0, x1, x2, x3, x4, x5, x6, x7⟩, rfl, w0.1, w0.2.1, w0.2.2, w3, w4.1, w4.2, w6, w7⟩
end
theorem flat_inv {α : Type} (enc : α → List Value) (k : Nat) (h0 : 0 < k) (hk : ∀ x, (enc x).length = k) (l : List α) (j : Nat) (v : Value) (h : (l.flatMap enc)[j]? = some v) : ∃ x, l[j / k]? = some x ∧ (enc x)[j % k]? = some v := by
  have hj : j < l.length * k := by
    have := (List.getElem?_eq_some_iff.1 h).1
    rwa [flat_length enc k hk] at this
  obtain ⟨x, hx⟩ := get_lt (l := l) (i := j / k) ((Nat.div_lt_iff_lt_mul h0).2 hj)
  obtain ⟨u, hu⟩ := get_lt (l := enc x) (i := j % k) (by rw [hk]; exact Nat.mod_lt _ h0)
  have hg := flat_get enc k hk l (j / k) (j % k) x u hx hu
  rw [show j / k * k + j % k = j by rw [Nat.mul_comm]; exact Nat.div_add_mod j k, h] at hg
  cases hg
  exact ⟨x, hx, hu⟩
section
variable {H : Type} {enc : TypeId × Value → H}
/-- rows of structs that came in -/
theorem open_gs {α : Type} [Inhabited α] (en : α → List Value) (k : Nat) (h0 : 0 < k) (hk : ∀ x, (en x).length = k) (wf : α → Prop) {t e : TypeId} (hu : Try.prog.underlying t = some (.slice e)) (hC : Try.prog.cellsOf e = k)
    (hop : ∀ {W : World} {n : Nat} {cs : List Value} {x : DataW H × List MemPlace}, DataW.trod enc Try.prog W 0 (fun _ => true) true n e cs = some x → ∃ f : α, cs = en f ∧ wf f)
    {W : World} {base : Nat} {v1 : Value} {d1 : DataW H} {p1 : List MemPlace} (hval : Value.okWide Try.prog W .any base t v1) (h1 : DataW.Trod enc Try.prog W 0 (fun _ => true) true t v1 d1 p1) : ∃ l, GS en W v1 l ∧ ∀ f ∈ l, wf f := by
  obtain ⟨a1, len, cap, rfl⟩ := okWide_slice hu hval
  obtain ⟨fuel, hf⟩ := h1
  rcases Go.Deep.open_slice hu hf with ⟨hcs, hx⟩ | ⟨a, len', cap', m, n, D, Pl, hcs, _, hl, hm, hmm, _, hcell⟩
  · simp [Value.cells] at hcs
    obtain ⟨rfl, rfl, rfl⟩ := hcs
    exact ⟨[], .inl ⟨rfl, rfl⟩, by simp⟩
  · simp [Value.cells] at hcs
    obtain ⟨rfl, rfl, rfl⟩ := hcs
    have hlm : len ≤ m := by rw [hmm]; split <;> omega
    have hh : W.has Try.prog .any base a e cap := by
      unfold Value.okWide at hval
      rw [hu] at hval
      simp only [Cell.okWide, Cell.ok, hu] at hval
      exact hval.2.2
    obtain ⟨_, hsp, row, cells, hsh, _⟩ := hh
    have each : ∀ i, i < len → ∃ f : α, wf f ∧ ∀ c v, (en f)[c]? = some v → W.cell? (a.add (i * k + c)) = some v := by
      intro i hi
      obtain ⟨cs', hc, ht⟩ := hcell i (by omega)
      obtain ⟨f, rfl, hw⟩ := hop ht
      obtain ⟨_, hcl, hat⟩ := World.cells?_some hc
      refine ⟨f, hw, fun c v hv => ?_⟩
      have hlt := (List.getElem?_eq_some_iff.1 hv).1
      rw [hk] at hlt
      have := hat c (by rw [hC]; exact hlt)
      rw [← Go.Deep.add_add, ← hC, this, hv]
    obtain ⟨q, hq⟩ := Go.Deep.choose_lt each
    have hlen : ((List.range len).map q).length = len := by simp
    refine ⟨(List.range len).map q, .inr ⟨a, cap, by rw [hlen], by rw [hlen]; exact hl, hm, ?_, shape_lt hsh⟩, ?_⟩
    · intro j v hj
      obtain ⟨x, hx, hc⟩ := flat_inv en k h0 hk _ j v hj
      have hjl : j / k < len := by
        have := (List.getElem?_eq_some_iff.1 hx).1
        simpa using this
      have hxq : x = q (j / k) := by
        rw [List.getElem?_map, List.getElem?_range hjl] at hx
        simpa using hx.symm
      have := (hq _ hjl).2 (j % k) v (by rw [← hxq]; exact hc)
      rwa [show j / k * k + j % k = j by rw [Nat.mul_comm]; exact Nat.div_add_mod j k] at this
    · intro f hf
      obtain ⟨i, hi, rfl⟩ := List.mem_map.1 hf
      exact (hq i (by simpa using hi)).1
instance : Inhabited FA := ⟨⟨0, 0, 0, 0, 0, 0, 0, 0⟩⟩
/-- facts that came in -/
theorem open_facts {W : World} {base : Nat} {v1 : Value} {d1 : DataW H} {p1 : List MemPlace} (hval : Value.okWide Try.prog W .any base 22 v1) (h1 : DataW.Trod enc Try.prog W 0 (fun _ => true) true 22 v1 d1 p1) : ∃ l, FS W v1 l ∧ ∀ f ∈ l, fwf f :=
  open_gs fc 8 (by omega) fc_len fwf Try.underlying22 (by kernel_rfl) (fun h => open_f h) hval h1
/-- a key that came in -/
theorem open_key {W : World} {base : Nat} {v1 : Value} {d1 : DataW H} {p1 : List MemPlace} (hval : Value.okWide Try.prog W .any base 24 v1) (h1 : DataW.Trod enc Try.prog W 0 (fun _ => true) true 24 v1 d1 p1) : ∃ k : KE, v1 = KV k ∧ kwf k := by
  obtain ⟨cs, rfl, hsz⟩ := okWide_struct Try.underlying24 hval
  obtain ⟨fuel, hf⟩ := h1
  obtain ⟨k, hk, hw⟩ := open_k hf
  refine ⟨k, ?_, hw⟩
  have : cs.toList = kc k := by simpa [Value.cells] using hk
  rw [show cs = (kc k).toArray from by rw [← this]]
  rfl
/-- a fact that came in -/
theorem open_fact {W : World} {base : Nat} {v1 : Value} {d1 : DataW H} {p1 : List MemPlace} (hval : Value.okWide Try.prog W .any base 28 v1) (h1 : DataW.Trod enc Try.prog W 0 (fun _ => true) true 28 v1 d1 p1) : ∃ k : FA, v1 = FV k ∧ fwf k := by
  obtain ⟨cs, rfl, hsz⟩ := okWide_struct Try.underlying28 hval
  obtain ⟨fuel, hf⟩ := h1
  obtain ⟨k, hk, hw⟩ := open_f hf
  refine ⟨k, ?_, hw⟩
  have : cs.toList = fc k := by simpa [Value.cells] using hk
  rw [show cs = (fc k).toArray from by rw [← this]]
  rfl
end
end Go.Proofs.Ytbejjindkcjecaa

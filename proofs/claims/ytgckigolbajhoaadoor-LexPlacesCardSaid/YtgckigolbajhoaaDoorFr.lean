/- The frames' common part: what the arguments read as. -/
import Derived.Test.YtgckigolbajhoaaDoorSane
import Derived.Test.YtgckigolbajhoaaDoorTie
import Derived.LaidMore
import Derived.SizedLaws
import Derived.ChangeMaps5
import Derived.Stop.Joined
import Derived.SevenTiedAt
import Derived.ChangeSlices
import Derived.WalkKit
import Derived.ProofKit
import Derived.OpenShut
import Derived.Carry
import Derived.Lib.SmallJoins
import Derived.Deep.SlicePairs
import Derived.Deep.Slices
namespace Go.Proofs.YtgckigolbajhoaaDoor
open Go Go.ChangeShapes Go.WideShapes Go.ChangeAt Go.RowKit
set_option linter.unusedVariables false
set_option maxRecDepth 100000
set_option linter.unusedSimpArgs false
theorem laidOut : laidOutB Tryd.prog = true := by kernel_rfl
theorem own : ownKnob Tryd.prog.godebug = none := by kernel_rfl
theorem shape_lt {w : World} {b : Nat} {x : TypeId × Nat} (h : w.shape? b = some x) : b < w.heap.size := by
  unfold World.shape? at h
  cases hb : w.heap[b]? with
  | none => rw [hb] at h; simp at h
  | some o => exact (Array.getElem?_eq_some_iff.1 hb).1
section
variable {H : Type} {enc : TypeId × Value → H} {w : World} {base : Nat} {spare : Nat → Bool} {held : Bool}
theorem i64_of {n : Int} (h : (Lit.int .i64 n).wf = true) : I64 n := by
  simp [Lit.wf, IntKind.min, IntKind.max, IntKind.bits, IntKind.signed] at h
  exact h
theorem open_i {n : Nat} {c : Value} {y : DataW H × List MemPlace} (h : DataW.trod enc Tryd.prog w base spare held n 3 [c] = some y) : ∃ x, c = .int .i64 x ∧ I64 x := by
  obtain ⟨x, e0, _, w0⟩ := DataW.trod_int Tryd.underlying3 h
  exact ⟨x, by simpa using e0, i64_of w0⟩
theorem open_st {n : Nat} {c : Value} {y : DataW H × List MemPlace} (h : DataW.trod enc Tryd.prog w base spare held n 9 [c] = some y) : ∃ s : ByteArray, c = .string s ∧ y.1 = .lit (.string s.data.toList) := by
  obtain ⟨s, e0, e1, _⟩ := DataW.trod_string Tryd.underlying9 h
  exact ⟨s, by simpa using e0, by rw [e1]⟩
/-- what a token's datum is -/
def rel (f : Tk) (d : DataW H) : Prop := ∃ a b c, d = .agg [a, .lit (.string f.t), b, c]
theorem open_tok {fuel : Nat} {cs : List Value} {x : DataW H × List MemPlace} (h : DataW.trod enc Tryd.prog w base spare held fuel 35 cs = some x) : ∃ f : Tk, cs = kc f ∧ rel f x.1 := by
  obtain ⟨xs, n, _, hx, hlen, hxl, hf⟩ := DataW.trod_struct Tryd.underlying35 h
  have hl : cs.length = 4 := hlen.trans (by kernel_rfl)
  have k3 : Tryd.prog.cellsOf 3 = 1 := by kernel_rfl
  have k9 : Tryd.prog.cellsOf 9 = 1 := by kernel_rfl
  match cs, hl with
  | [c0, c1, c2, c3], _ =>
    match xs, hxl with
    | [y0, y1, y2, y3], _ =>
      have h0 := hf 0 _ rfl; have h1 := hf 1 _ rfl; have h2 := hf 2 _ rfl; have h3 := hf 3 _ rfl
      simp [k3, k9] at h0 h1 h2 h3
      obtain ⟨x0, rfl, w0⟩ := open_i h0
      obtain ⟨s, rfl, w1⟩ := open_st h1
      obtain ⟨x2, rfl, w2⟩ := open_i h2
      obtain ⟨x3, rfl, w3⟩ := open_i h3
      refine ⟨⟨x0, s.data.toList, x2, x3⟩, by simp [kc], ?_⟩
      rw [hx]
      exact ⟨y0.1, y2.1, y3.1, by simp [w1]⟩
end
theorem flat_inv {α : Type} (enc : α → List Value) (k : Nat) (h0 : 0 < k) (hk : ∀ x, (enc x).length = k) (l : List α) (j : Nat) (v : Value) (h : (l.flatMap enc)[j]? = some v) : ∃ x, l[j / k]? = some x ∧ (enc x)[j % k]? = some v := by
  have hj : j < l.length * k := by
    have := (List.getElem?_eq_some_iff.1 h).1
    rwa [flat_length enc k hk] at this
  obtain ⟨x, hx⟩ := get_lt (l := l) (i := j / k) ((Nat.div_lt_iff_lt_mul h0).2 hj)
  obtain ⟨u, hu⟩ := get_lt (l := enc x) (i := j % k) (by rw [hk]; exact Nat.mod_lt _ h0)
  have hg := flat_get enc k hk l (j / k) (j % k) x u hx hu
  rw [show j / k * k + j % k = j by rw [Nat.mul_comm]; exact Nat.div_add_mod j k, h] at hg
  cases hg
  exact ⟨x, hx, hu⟩
section
variable {H : Type} {enc : TypeId × Value → H}
/-- rows of structs that came in -/
theorem open_gs {α : Type} [Inhabited α] (en : α → List Value) (k : Nat) (h0 : 0 < k) (hk : ∀ x, (en x).length = k) (wf : α → DataW H → Prop) {t e : TypeId} (hu : Tryd.prog.underlying t = some (.slice e)) (hC : Tryd.prog.cellsOf e = k)
    (hop : ∀ {W : World} {n : Nat} {cs : List Value} {x : DataW H × List MemPlace}, DataW.trod enc Tryd.prog W 0 (fun _ => true) true n e cs = some x → ∃ f : α, cs = en f ∧ wf f x.1)
    {W : World} {base : Nat} {v1 : Value} {d1 : DataW H} {p1 : List MemPlace} (hval : Value.okWide Tryd.prog W .any base t v1) (h1 : DataW.Trod enc Tryd.prog W 0 (fun _ => true) true t v1 d1 p1) : ∃ l, GS en W v1 l ∧ ∀ f ∈ l, ∃ E S d, d1 = .slice E S ∧ d ∈ E ∧ wf f d := by
  obtain ⟨a1, len, cap, rfl⟩ := okWide_slice hu hval
  obtain ⟨fuel, hf⟩ := h1
  rcases Go.Deep.open_slice hu hf with ⟨hcs, hx⟩ | ⟨a, len', cap', m, n, D, Pl, hcs, _, hl, hm, hmm, hxd, hcell⟩
  · simp [Value.cells] at hcs
    obtain ⟨rfl, rfl, rfl⟩ := hcs
    exact ⟨[], .inl ⟨rfl, rfl⟩, by simp⟩
  · simp [Value.cells] at hcs
    obtain ⟨rfl, rfl, rfl⟩ := hcs
    have hlm : len ≤ m := by rw [hmm]; split <;> omega
    have hh : W.has Tryd.prog .any base a e cap := by
      unfold Value.okWide at hval
      rw [hu] at hval
      simp only [Cell.okWide, Cell.ok, hu] at hval
      exact hval.2.2
    obtain ⟨_, hsp, row, cells, hsh, _⟩ := hh
    have each : ∀ i, i < len → ∃ f : α, wf f (D i) ∧ ∀ c v, (en f)[c]? = some v → W.cell? (a.add (i * k + c)) = some v := by
      intro i hi
      obtain ⟨cs', hc, ht⟩ := hcell i (by omega)
      obtain ⟨f, rfl, hw⟩ := hop ht
      obtain ⟨_, hcl, hat⟩ := World.cells?_some hc
      refine ⟨f, hw, fun c v hv => ?_⟩
      have hlt := (List.getElem?_eq_some_iff.1 hv).1
      rw [hk] at hlt
      have := hat c (by rw [hC]; exact hlt)
      rw [← Go.Deep.add_add, ← hC, this, hv]
    obtain ⟨q, hq⟩ := Go.Deep.choose_lt each
    have hlen : ((List.range len).map q).length = len := by simp
    refine ⟨(List.range len).map q, .inr ⟨a, cap, by rw [hlen], by rw [hlen]; exact hl, hm, ?_, shape_lt hsh⟩, ?_⟩
    · intro j v hj
      obtain ⟨x, hx, hc⟩ := flat_inv en k h0 hk _ j v hj
      have hjl : j / k < len := by
        have := (List.getElem?_eq_some_iff.1 hx).1
        simpa using this
      have hxq : x = q (j / k) := by
        rw [List.getElem?_map, List.getElem?_range hjl] at hx
        simpa using hx.symm
      have := (hq _ hjl).2 (j % k) v (by rw [← hxq]; exact hc)
      rwa [show j / k * k + j % k = j by rw [Nat.mul_comm]; exact Nat.div_add_mod j k] at this
    · intro f hf
      obtain ⟨i, hi, rfl⟩ := List.mem_map.1 hf
      have hil : i < len := by simpa using hi
      refine ⟨_, _, D i, (by simpa using congrArg Prod.fst hxd), List.mem_map.2 ⟨i, by simpa using hil, rfl⟩, (hq i hil).1⟩
theorem mem_all {e : TypeId} {E : List (DataW H)} {d : DataW H} (hd : d ∈ E) (n : Nat) (hn : n ∈ d.weights Tryd.prog e) : n ∈ DataW.weightsAll Tryd.prog e E := by
  induction E with
  | nil => cases hd
  | cons x r ih =>
    simp only [DataW.weightsAll, List.mem_append]
    rcases List.mem_cons.1 hd with rfl | h
    · exact .inl hn
    · exact .inr (ih h)
instance : Inhabited L9.T := ⟨⟨0, [], 0, 0⟩⟩
/-- tokens that came in, with the bound on their texts -/
theorem open_toks {W : World} {base : Nat} {v1 : Value} {d1 : DataW H} {p1 : List MemPlace} {ts : List TypeId} {ds : List (DataW H)} {j : Nat} (hval : Value.okWide Tryd.prog W .any base 23 v1) (h1 : DataW.Trod enc Tryd.prog W 0 (fun _ => true) true 23 v1 d1 p1)
    (hsz : (DataW.weightsEach Tryd.prog ts ds).all (· ≤ reachBytes) = true) (ht : ts[j]? = some 23) (hd : ds[j]? = some d1) : ∃ l, KS W v1 l ∧ ∀ f ∈ l, f.t.length ≤ reachBytes := by
  obtain ⟨l, hl, hr⟩ := open_gs kc 4 (by omega) kc_len (rel (H := H)) Tryd.underlying23 (by kernel_rfl) (fun h => open_tok h) hval h1
  refine ⟨l, hl, fun f hf => ?_⟩
  obtain ⟨E, S, d, rfl, hdE, a, b, c, rfl⟩ := hr f hf
  have hin : f.t.length ∈ (DataW.slice E S : DataW H).weights Tryd.prog 23 := by
    simp only [DataW.weights, Tryd.underlying23]
    refine List.mem_cons_of_mem _ (List.mem_append_left _ (mem_all hdE _ ?_))
    simp only [DataW.weights, Tryd.underlying35]
    simp [DataW.weightsEach, DataW.weights]
  have := List.all_eq_true.1 hsz _ (DataW.weights_mem_each ht hd _ hin)
  simpa using this
end
theorem gCls : Tryd.prog.globalNamed "sizar/lex.classes" = some 0 := by kernel_rfl
theorem tCls : (Tryd.prog.globals[0]?).map (·.type) = some 60 := by kernel_rfl
theorem tPow : (Tryd.prog.globals[2]?).map (·.type) = some 93 := by kernel_rfl
/-- the listed variables and what they read as -/
def laidC {H : Type} : List (String × DataW H) := [("math/bits.deBruijn32tab", Rows.laid_math_bits_deBruijn32tab), ("math/bits.deBruijn64tab", Rows.laid_math_bits_deBruijn64tab), ("internal/strconv.uint64pow10", Rows.laid_internal_strconv_uint64pow10), ("sizar/lex.classes", Rows.laid_sizar_lex_classes)]
theorem door_met (os : Os) (args : Array Value) : laidMetH Tryd.prog laidC ((World.doorLaid Tryd.prog 4000 os).forCall (fun _ _ => 0) ⟨#[], args, []⟩).memory :=
  laidMetH_of_parts3 (fuel := 8) (laidMet_of_run' 8 (by kernel_rfl) (by kernel_rfl)) (by kernel_rfl) (by kernel_rfl)
def clsTab : List Int := (List.range 128).map cls
theorem dCls : (Rows.laid_sizar_lex_classes : DataW Unit) = Lib.tabData .u8 clsTab := by kernel_rfl
theorem dPow : (Rows.laid_internal_strconv_uint64pow10 : DataW Unit) = Lib.tabData .u64 Lib.pow10Tab := by kernel_rfl
theorem konst_of {W : World} (h : laidMetH Tryd.prog laidC W) : Konst W := by
  unfold laidC at h
  rw [MakeChecks.laidMetH_plain _ _ _ (by kernel_rfl)] at h
  obtain ⟨ps, ⟨_, _, _, _, _, _, _, _, _, _, ⟨_, _, _, _, _, _, _, _, _, _, ⟨g2, t2, cs2, f2, p2, q2, hg2, ht2, hv2, hd2, ⟨g3, t3, cs3, f3, p3, q3, hg3, ht3, hv3, hd3, _, _⟩, _⟩, _⟩, _⟩, _, _⟩ := h
  obtain rfl := Option.some.inj (gPow.symm.trans hg2)
  obtain rfl := Option.some.inj (tPow.symm.trans ht2)
  obtain rfl := Option.some.inj (gCls.symm.trans hg3)
  obtain rfl := Option.some.inj (tCls.symm.trans ht3)
  rw [dPow] at hd2
  rw [dCls] at hd3
  have e2 := Lib.cells_of_tab (k := .u64) Tryd.underlying93 Tryd.underlying84 (by kernel_rfl) (by kernel_rfl) hd2
  have e3 := Lib.cells_of_tab (k := .u8) Tryd.underlying60 Tryd.underlying49 (by kernel_rfl) (by kernel_rfl) hd3
  have hc : Lib.TabIs Tryd.prog W "sizar/lex.classes" .u8 clsTab := by unfold Lib.TabIs; rw [hv3, ← e3]
  have hp : Lib.TabIs Tryd.prog W "internal/strconv.uint64pow10" .u64 Lib.pow10Tab := by unfold Lib.TabIs; rw [hv2, ← e2]
  refine ⟨fun t ht => ?_, by have := tab_lt hp; omega, hp⟩
  have := hc.cell gCls t (by simp [clsTab]; exact ht)
  rw [this]
  simp [clsTab, List.getD, ht]
end Go.Proofs.YtgckigolbajhoaaDoor

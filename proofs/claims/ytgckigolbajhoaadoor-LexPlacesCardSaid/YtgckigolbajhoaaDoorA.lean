/- Rows of structs in memory: what a slice value holds, the cells of its elements, rows of the call's own. -/
import Derived.Test.YtgckigolbajhoaaDoorProg
import Derived.Test.YtgckigolbajhoaaDoorM9
import Derived.Shelf.Abstract
import Derived.OwnWalkIn
import Derived.TacticsInMore
import Derived.LoopNIn
import Derived.LoopIn
import Derived.Laws.EntriesVeiled
import Derived.WalkKit
import Derived.WalkLawsBesides
import Derived.Deep.DeepCutAuto
import Derived.Deep.CutBlock
import Derived.Deep.RegionWith
import Derived.Deep.Quiet
import Derived.Deep.QuietTactic
import Derived.Laws.BitsAllLaws
import Derived.Laws.AppendOwn
import Derived.Laws.MakeOwn
import Derived.Deep.AppendLies
import Derived.Lib.Hide
import Derived.Shelf.Strconv.Itoa3
namespace Go.Proofs.YtgckigolbajhoaaDoor
open Go.RowKit Go
set_option linter.unusedVariables false
set_option linter.unusedSimpArgs false
theorem hid {p : Prop} (h : p) : Hid p := Lib.hid h
def I64 (n : Int) : Prop := -9223372036854775808 ≤ n ∧ n ≤ 9223372036854775807
/-- from a on the cells hold vs -/
def Cells (w : World) (a : Addr) (vs : List Value) : Prop := ∀ j v, vs[j]? = some v → w.cell? (a.add j) = some v
theorem add_block (a : Addr) (m : Nat) : (a.add m).block = a.block := by unfold Addr.add; split <;> rfl
theorem add_plain (b o m : Nat) : (⟨b, o, none⟩ : Addr).add m = ⟨b, o + m, none⟩ := by
  unfold Addr.add; split
  · rename_i h; subst h; rfl
  · rfl
theorem Cells.up {w w' : World} {B : Nat} {a : Addr} {vs : List Value} (h : Cells w a vs) (hb : Below B w w') (ha : a.block < B) : Cells w' a vs :=
  fun j v hj => (hb.cell (p := a.add j) (by rw [add_block]; exact ha)).trans (h j v hj)
theorem Cells.spot {w : World} {a : Addr} {v : Value} {vs : List Value} (h : Cells w a (v :: vs)) : a = ⟨a.block, a.off, none⟩ := by
  have h0 := h 0 v rfl
  have h1 : a.add 0 = a := rfl
  rw [h1] at h0
  have := World.cell?_spot h0
  cases a; simp_all
section
variable {α : Type}
theorem flat_length (enc : α → List Value) (k : Nat) (hk : ∀ x, (enc x).length = k) (l : List α) : (l.flatMap enc).length = l.length * k := by
  induction l with
  | nil => simp
  | cons x r ih => rw [List.flatMap_cons, List.length_append, ih, hk, List.length_cons, Nat.add_mul, Nat.one_mul, Nat.add_comm]
theorem flat_get (enc : α → List Value) (k : Nat) (hk : ∀ x, (enc x).length = k) : ∀ (l : List α) (i c : Nat) (x : α) (v : Value), l[i]? = some x → (enc x)[c]? = some v → (l.flatMap enc)[i * k + c]? = some v
  | [], i, c, x, v, h, _ => by simp at h
  | y :: r, i, c, x, v, h, hc => by
    have hck : c < k := by rw [← hk x]; exact (List.getElem?_eq_some_iff.1 hc).1
    rw [List.flatMap_cons]
    cases i with
    | zero =>
      simp at h; subst h
      rw [Nat.zero_mul, Nat.zero_add, List.getElem?_append_left (by rw [hk]; exact hck)]
      exact hc
    | succ i =>
      rw [List.getElem?_append_right (by rw [hk, Nat.add_mul]; omega), hk, show (i + 1) * k + c - k = i * k + c by rw [Nat.add_mul]; omega]
      exact flat_get enc k hk r i c x v (by simpa using h) hc
/-- a slice value that holds the elements l -/
def GS (enc : α → List Value) (w : World) (v : Value) (l : List α) : Prop := (v = .slice none 0 0 ∧ l = []) ∨ ∃ a cap, v = .slice (some a) l.length cap ∧ l.length ≤ cap ∧ cap ≤ maxLen ∧ Cells w a (l.flatMap enc) ∧ a.block < w.heap.size
/-- the elements' cells can be read -/
def GR (enc : α → List Value) (k : Nat) (p : Option Addr) (n0 : Nat) (l : List α) (W : World) : Prop := ∀ i x, l[i]? = some x → ∃ b o, p = some ⟨b, o, none⟩ ∧ b < n0 ∧ ∀ c v, (enc x)[c]? = some v → W.cell? ⟨b, o + i * k + c, none⟩ = some v
/-- a row of the call's own that append makes longer -/
def GO (e k : TypeId) (enc : α → List Value) (w : World) (base : Nat) (v : Value) (l : List α) : Prop := w.ownsRow base e k v l.length (l.flatMap enc)
variable {enc : α → List Value}
theorem GS.ups {w w' : World} {v : Value} {l : List α} (h : GS enc w v l) (hb : Below w.heap.size w w') : GS enc w' v l := by
  rcases h with h | ⟨a, cap, h1, h2, h3, h4, h5⟩
  · exact .inl h
  · exact .inr ⟨a, cap, h1, h2, h3, h4.up hb h5, Nat.lt_of_lt_of_le h5 hb.size⟩
theorem GS.form {w : World} {v : Value} {l : List α} (h : GS enc w v l) : ∃ p cap, v = .slice p l.length cap := by
  rcases h with ⟨rfl, rfl⟩ | ⟨a, cap, rfl, _⟩
  · exact ⟨_, _, rfl⟩
  · exact ⟨_, _, rfl⟩
theorem GS.len {w : World} {v : Value} {l : List α} (h : GS enc w v l) : l.length ≤ maxLen := by
  rcases h with ⟨rfl, rfl⟩ | ⟨a, cap, rfl, h1, h2, _⟩
  · simp
  · omega
theorem GS.cap {w : World} {p : Option Addr} {n cap : Nat} {l : List α} (h : GS enc w (.slice p n cap) l) : n = l.length ∧ n ≤ cap ∧ cap ≤ maxLen := by
  rcases h with ⟨h1, rfl⟩ | ⟨a, cap', h1, h2, h3, _⟩
  · cases h1; simp
  · cases h1; exact ⟨rfl, h2, h3⟩
theorem GS.gr {w : World} {p : Option Addr} {cap n : Nat} {l : List α} (k : Nat) (hk : ∀ x, (enc x).length = k) (h0 : 0 < k) (h : GS enc w (.slice p n cap) l) : GR enc k p w.heap.size l w := by
  intro i x hi
  rcases h with ⟨_, rfl⟩ | ⟨a, cap', h1, _, _, h4, h5⟩
  · simp at hi
  · injection h1 with e1 e2 e3
    have ha : a = ⟨a.block, a.off, none⟩ := by
      have hlt : 0 < (l.flatMap enc).length := by
        rw [flat_length enc k hk]
        have := (List.getElem?_eq_some_iff.1 hi).1
        exact Nat.mul_pos (by omega) h0
      obtain ⟨v, vs, hv⟩ : ∃ v vs, l.flatMap enc = v :: vs := by
        cases hh : l.flatMap enc with
        | nil => rw [hh] at hlt; simp at hlt
        | cons v vs => exact ⟨v, vs, rfl⟩
      rw [hv] at h4
      exact h4.spot
    refine ⟨a.block, a.off, by rw [e1, ← ha], h5, fun c v hc => ?_⟩
    have c1 := h4 _ _ (flat_get enc k hk l i c x v hi hc)
    rw [ha, add_plain, ← Nat.add_assoc] at c1
    exact c1
theorem GR.up {k : Nat} {p : Option Addr} {n0 : Nat} {l : List α} {W W' : World} (h : GR enc k p n0 l W) (hb : Below n0 W W') : GR enc k p n0 l W' := fun i x hi => by
  obtain ⟨b, o, e, hl, h1⟩ := h i x hi
  exact ⟨b, o, e, hl, fun c v hc => (hb.cell (p := ⟨b, o + i * k + c, none⟩) hl).trans (h1 c v hc)⟩
variable {e k : Nat}
theorem go_nil (w : World) (base : Nat) : GO e k enc w base (.slice none 0 0) ([] : List α) := ⟨by simp, .inl ⟨rfl, rfl⟩⟩
theorem GO.gs {w : World} {base : Nat} {v : Value} {l : List α} (h : GO e k enc w base v l) : GS enc w v l := by
  rcases h.2 with ⟨rfl, hl⟩ | ⟨g, cap, cur, rfl, hb, hg, hn, hm, hs, ht⟩
  · exact .inl ⟨rfl, List.eq_nil_of_length_eq_zero hl⟩
  · exact .inr ⟨_, cap, rfl, hn, hm, fun j v hj => World.ownsRow.cells h rfl j v hj, (Array.getElem?_eq_some_iff.1 hg).1⟩
theorem GO.alloc {w : World} {base : Nat} {v : Value} {l : List α} (h : GO e k enc w base v l) (o : Obj) : GO e k enc (w.alloc o) base v l := World.ownsRow.alloc h o
theorem grown_of_below {w w' : World} {r : Option Nat} (hb : Below w.heap.size w w') : w.grownBy w' r := ⟨hb.os, hb.tape, hb.output, hb.size, fun k hk _ => hb.block k hk⟩
theorem GO.ups {w w' : World} {base : Nat} {v : Value} {l : List α} (h : GO e k enc w base v l) (hb : Below w.heap.size w w') : GO e k enc w' base v l :=
  World.ownsRow.kept h (grown_of_below (r := none) hb) (by
    cases v.ownBlock with
    | none => exact .inl rfl
    | some k => exact .inr (by simp))
theorem GO.kept {w w' : World} {base : Nat} {v : Value} {l : List α} {r : Option Nat} (h : GO e k enc w base v l) (hg : w.grownBy w' r) (hne : ∀ j, v.ownBlock = some j → r ≠ some j) : GO e k enc w' base v l :=
  World.ownsRow.kept h hg (by
    cases hv : v.ownBlock with
    | none => exact .inl rfl
    | some j => exact .inr (fun h => hne j hv h.symm))
theorem cells_new (w : World) (xs : List Value) (e : TypeId) : Cells (w.alloc (.cells xs.toArray e)) ⟨w.heap.size, 0, none⟩ xs := by
  intro j v hj
  rw [add_plain, Nat.zero_add]
  simp only [World.cell?, heap_alloc_new]
  simpa using hj
/-- an element that has just been laid is appended -/
theorem app_one {t : TypeId} {bytes : Nat} (hu : Tryd.prog.underlying t = some (.slice e)) (hinfo : (Tryd.prog.info? e).map (fun i => (i.zero.map (fun z => z.cells.size), i.size, i.bytes)) = some (some k, k, bytes)) (hk : ∀ x, (enc x).length = k) (h0 : 0 < k) (hby : bytes ≤ 64)
    (hone : ∀ x, ∀ u ∈ enc x, u.oneCell' = true) {w : World} {base : Nat} {v : Value} {l : List α} (h : GO e k enc w base v l) (x : α) (hn : l.length ≤ 1000000) (hb : base ≤ w.heap.size) :
    ∃ g cap w', (Builtin.append_ #[t, t] t #[v, .slice (some ⟨w.heap.size, 0, none⟩) 1 1]).run Tryd.prog (w.alloc (.cells (enc x).toArray e)) = .ok (.slice (some ⟨g, 0, none⟩) (l.length + 1) cap) w' ∧
      GO e k enc w' base (.slice (some ⟨g, 0, none⟩) (l.length + 1) cap) (l ++ [x]) ∧ (w.alloc (.cells (enc x).toArray e)).grownBy w' v.ownBlock := by
  obtain ⟨i, hi, hf⟩ := Option.map_eq_some_iff.1 hinfo
  simp only [Prod.mk.injEq] at hf
  obtain ⟨hz, hs, hbyt⟩ := hf
  obtain ⟨z, hz, hzs⟩ := Option.map_eq_some_iff.1 hz
  obtain ⟨g, cap, w', h6, h7, h8, h9, h10⟩ := run_append_lies (P := Tryd.prog) (w := w.alloc (.cells (enc x).toArray e)) t t base e i z k bytes hu hi hz hs hbyt hzs h0 v l.length _ (h.alloc _) ⟨w.heap.size, 0, none⟩ 1 1 (enc x) (by rw [hk, Nat.one_mul])
    (cells_new w (enc x) e) (hone x) (by omega) (by unfold maxLen; omega) (by
      have : (l.length + 1) * bytes ≤ 1000001 * 64 := Nat.mul_le_mul (by omega) hby
      omega) (by simp; omega) _ rfl
  refine ⟨g, cap, w', h6, ?_, h8⟩
  unfold GO
  rw [List.length_append, List.length_singleton, List.flatMap_append, List.flatMap_singleton]
  exact h7
theorem GO.lt {w : World} {base : Nat} {v : Value} {l : List α} (h : GO e k enc w base v l) (j : Nat) (hj : v.ownBlock = some j) : base ≤ j ∧ j < w.heap.size := World.ownsRow.lt h j hj
/-- so: as Below -/
theorem app_one' {t : TypeId} {bytes : Nat} (hu : Tryd.prog.underlying t = some (.slice e)) (hinfo : (Tryd.prog.info? e).map (fun i => (i.zero.map (fun z => z.cells.size), i.size, i.bytes)) = some (some k, k, bytes)) (hk : ∀ x, (enc x).length = k) (h0 : 0 < k) (hby : bytes ≤ 64)
    (hone : ∀ x, ∀ u ∈ enc x, u.oneCell' = true) {w : World} {base : Nat} {v : Value} {l : List α} (h : GO e k enc w base v l) (x : α) (hn : l.length ≤ 1000000) (hb : base ≤ w.heap.size) :
    ∃ g cap w', (Builtin.append_ #[t, t] t #[v, .slice (some ⟨w.heap.size, 0, none⟩) 1 1]).run Tryd.prog (w.alloc (.cells (enc x).toArray e)) = .ok (.slice (some ⟨g, 0, none⟩) (l.length + 1) cap) w' ∧
      GO e k enc w' base (.slice (some ⟨g, 0, none⟩) (l.length + 1) cap) (l ++ [x]) ∧ Below base w w' := by
  obtain ⟨g, cap, w', h1, h2, h3⟩ := app_one hu hinfo hk h0 hby hone h x hn hb
  exact ⟨g, cap, w', h1, h2, ((Below.refl base w).alloc hb _).grown h3 (by simp; omega) (fun j hj => (h.lt j hj).1)⟩
end
theorem get_lt {α : Type} {l : List α} {i : Nat} (h : i < l.length) : ∃ x, l[i]? = some x := ⟨l[i], List.getElem?_eq_getElem h⟩
theorem take_snoc {α : Type} {l : List α} {i : Nat} {x : α} (h : l[i]? = some x) : l.take (i + 1) = l.take i ++ [x] := by rw [List.take_add_one, h]; rfl
/-- the step of an append whose run is known -/
theorem wpList_append_run {P : Program} {w w' : World} {ops : Array Oper} {rest : List Oper} {o : Oper} {a : Act} {Q : Exit → Act → World → Prop}
    (hg : o.guard = none) (s x : Operand) (t u : TypeId) (hop : o.op = Op.call { callee := Callee.builtin Builtin.append, args := #[s, x], argTypes := #[t, u] })
    (vs vx r : Value) (hs : a.eval s = vs) (hx : a.eval x = vx) (hrun : (Builtin.append_ #[t, u] o.type #[vs, vx]).run P w = .ok r w') (hK : wpList P ops Q rest (a.put o.dst r) w') :
    wpList P ops Q (o :: rest) a w := by
  refine wpList_plain hg fun K hK' => ?_
  unfold Oper.wp
  simp [execOp, hop, resolve, invoke, builtin, hs, hx, hrun, Result.andThen]
  exact hK' _ _ hK
/-- a token's cells -/
abbrev Tk := L9.T
abbrev lst (b : ByteArray) : List UInt8 := b.data.toList
theorem mk_lst (b : ByteArray) : (⟨(lst b).toArray⟩ : ByteArray) = b := by cases b; simp
theorem lst_mk (l : List UInt8) : lst ⟨l.toArray⟩ = l := by simp
def kc (k : Tk) : List Value := [.int .i64 k.k, .string ⟨k.t.toArray⟩, .int .i64 k.n, .int .i64 k.a]
theorem kc_len (f : Tk) : (kc f).length = 4 := rfl
theorem kc_one (f : Tk) : ∀ u ∈ kc f, u.oneCell' = true := by intro u hu; simp [kc] at hu; rcases hu with h | h | h | h <;> subst h <;> rfl
abbrev KS (w : World) (v : Value) (l : List Tk) : Prop := GS kc w v l
abbrev KR (p : Option Addr) (n0 : Nat) (l : List Tk) (W : World) : Prop := GR kc 4 p n0 l W
abbrev KO (w : World) (base : Nat) (v : Value) (l : List Tk) : Prop := GO 35 4 kc w base v l
theorem info35 : (Tryd.prog.info? 35).map (fun i => (i.zero.map (fun z => z.cells.size), i.size, i.bytes)) = some (some 4, 4, 40) := by kernel_rfl
theorem app_key' {w : World} {base : Nat} {v : Value} {l : List (Tk)} (h : KO w base v l) (x : Tk) (hn : l.length ≤ 1000000) (hb : base ≤ w.heap.size) :
    ∃ g cap w', (Builtin.append_ #[23, 23] 23 #[v, .slice (some ⟨w.heap.size, 0, none⟩) 1 1]).run Tryd.prog (w.alloc (.cells #[.int .i64 x.k, .string ⟨x.t.toArray⟩, .int .i64 x.n, .int .i64 x.a] 35)) = .ok (.slice (some ⟨g, 0, none⟩) (l.length + 1) cap) w' ∧
      KO w' base (.slice (some ⟨g, 0, none⟩) (l.length + 1) cap) (l ++ [x]) ∧ Below base w w' :=
  app_one' (t := 23) Tryd.underlying23 info35 kc_len (by omega) (by omega) kc_one h x hn hb
/-- a token's cells -/
def At4 (W : World) (b o : Nat) (f : Tk) : Prop := W.cell? ⟨b, o, none⟩ = some (.int .i64 f.k) ∧ W.cell? ⟨b, o + 1, none⟩ = some (.string ⟨f.t.toArray⟩) ∧ W.cell? ⟨b, o + 2, none⟩ = some (.int .i64 f.n) ∧ W.cell? ⟨b, o + 3, none⟩ = some (.int .i64 f.a)
theorem KR.at4 {p : Option Addr} {n0 : Nat} {l : List Tk} {W : World} (h : KR p n0 l W) {i : Nat} {f : Tk} (hi : l[i]? = some f) : ∃ b o, p = some ⟨b, o, none⟩ ∧ b < n0 ∧ At4 W b (o + i * 4) f := by
  obtain ⟨b, o, e, hl, h1⟩ := h i f hi
  exact ⟨b, o, e, hl, h1 0 _ rfl, h1 1 _ rfl, h1 2 _ rfl, h1 3 _ rfl⟩
theorem cell_lit (w : World) (vs : Array Value) (e : TypeId) (j : Nat) (v : Value) (h : vs[j]? = some v) : (w.alloc (.cells vs e)).cell? ⟨w.heap.size, j, none⟩ = some v := by
  simp only [World.cell?, heap_alloc_new]
  exact h
theorem cell_alloc_l {w : World} {a : Addr} {v : Value} (o : Obj) (h : w.cell? a = some v) : (w.alloc o).cell? a = some v := by
  have hlt : a.block < w.heap.size := by
    rcases Nat.lt_or_ge a.block w.heap.size with hh | hh
    · exact hh
    · simp [World.cell?, Array.getElem?_eq_none hh] at h
  exact (((Below.refl _ w).alloc (Nat.le_refl _) o).cell hlt).trans h
theorem below_t {a b c : World} (h : Below a.heap.size a b) (h2 : Below b.heap.size b c) : Below a.heap.size a c := h.trans (h2.mono h.size)
/-- the table of classes -/
def cls (n : Nat) : Int :=
  if n = 9 ∨ n = 10 ∨ n = 13 ∨ n = 32 then 1
  else if (65 ≤ n ∧ n ≤ 90) ∨ (97 ≤ n ∧ n ≤ 122) then 2
  else if 48 ≤ n ∧ n ≤ 57 then 3
  else if n = 95 then 4
  else if n = 47 then 6
  else if n = 123 ∨ n = 125 ∨ n = 40 ∨ n = 41 ∨ n = 59 ∨ n = 44 ∨ n = 61 ∨ n = 35 ∨ n = 60 ∨ n = 33 ∨ n = 45 ∨ n = 46 then 5
  else 0
/-- the listed tables -/
structure Konst (W : World) : Prop where
  c : ∀ t, t < 128 → W.cell? ⟨0, t, none⟩ = some (.int .u8 (cls t))
  lt : 0 < W.heap.size
  p : Lib.TabIs Tryd.prog W "internal/strconv.uint64pow10" .u64 Lib.pow10Tab
theorem gPow : Tryd.prog.globalNamed "internal/strconv.uint64pow10" = some 2 := by kernel_rfl
theorem tab_up {w w' : World} {zs : List Int} (h : Lib.TabIs Tryd.prog w "internal/strconv.uint64pow10" .u64 zs) (hb : Below w.heap.size w w') : Lib.TabIs Tryd.prog w' "internal/strconv.uint64pow10" .u64 zs := by
  unfold Lib.TabIs World.var? at h ⊢
  rw [gPow] at h ⊢
  simp only [Option.bind_some] at h ⊢
  have hlt : 2 < w.heap.size := by
    rcases Nat.lt_or_ge 2 w.heap.size with h' | h'
    · exact h'
    · rw [Array.getElem?_eq_none h'] at h; cases h
  rw [hb.block 2 hlt]
  exact h
theorem Konst.up {W W' : World} (h : Konst W) (hb : Below W.heap.size W W') : Konst W' :=
  ⟨fun t ht => (hb.cell (p := ⟨0, t, none⟩) h.lt).trans (h.c t ht), Nat.lt_of_lt_of_le h.lt hb.size, tab_up h.p hb⟩
theorem tab_lt {w : World} {zs : List Int} (h : Lib.TabIs Tryd.prog w "internal/strconv.uint64pow10" .u64 zs) : 2 < w.heap.size := by
  unfold Lib.TabIs World.var? at h
  rw [gPow] at h
  simp only [Option.bind_some] at h
  rcases Nat.lt_or_ge 2 w.heap.size with h' | h'
  · exact h'
  · rw [Array.getElem?_eq_none h'] at h; cases h
theorem Konst.three {w : World} (h : Konst w) : 3 ≤ w.heap.size := tab_lt h.p
theorem Konst.upn {W W' : World} {n : Nat} (h : Konst W) (hb : Below n W W') (hn : 3 ≤ n) : Konst W' := by
  refine ⟨fun t ht => (hb.cell (p := ⟨0, t, none⟩) (show 0 < n by omega)).trans (h.c t ht), Nat.lt_of_lt_of_le h.lt hb.size, ?_⟩
  have hp := h.p
  unfold Lib.TabIs World.var? at hp ⊢
  rw [gPow] at hp ⊢
  simp only [Option.bind_some] at hp ⊢
  rw [hb.block 2 (by omega)]
  exact hp
end Go.Proofs.YtgckigolbajhoaaDoor

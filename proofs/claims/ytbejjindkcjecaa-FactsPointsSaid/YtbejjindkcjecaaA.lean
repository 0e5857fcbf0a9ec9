/- Rows of structs in memory: what a slice value holds, the cells of its elements, rows of the call's own. -/
import Derived.Test.YtbejjindkcjecaaProg
import Derived.Test.YtbejjindkcjecaaF7
import Derived.Shelf.Abstract
import Derived.OwnWalkIn
import Derived.TacticsInMore
import Derived.LoopNIn
import Derived.LoopIn
import Derived.Laws.EntriesVeiled
import Derived.WalkKit
import Derived.WalkLawsBesides
import Derived.Deep.DeepCutAuto
import Derived.Deep.CutBlock
import Derived.Deep.RegionWith
import Derived.Deep.Quiet
import Derived.Deep.QuietTactic
import Derived.Laws.BitsAllLaws
import Derived.Laws.AppendOwn
import Derived.Laws.MakeOwn
import Derived.Deep.AppendLies
import Derived.Lib.Hide
namespace Go.Proofs.Ytbejjindkcjecaa
open Go.RowKit Go
set_option linter.unusedVariables false
set_option linter.unusedSimpArgs false
theorem hid {p : Prop} (h : p) : Hid p := Lib.hid h
def I64 (n : Int) : Prop := -9223372036854775808 ≤ n ∧ n ≤ 9223372036854775807
/-- from a on the cells hold vs -/
def Cells (w : World) (a : Addr) (vs : List Value) : Prop := ∀ j v, vs[j]? = some v → w.cell? (a.add j) = some v
theorem add_block (a : Addr) (m : Nat) : (a.add m).block = a.block := by unfold Addr.add; split <;> rfl
theorem add_plain (b o m : Nat) : (⟨b, o, none⟩ : Addr).add m = ⟨b, o + m, none⟩ := by
  unfold Addr.add; split
  · rename_i h; subst h; rfl
  · rfl
theorem Cells.up {w w' : World} {B : Nat} {a : Addr} {vs : List Value} (h : Cells w a vs) (hb : Below B w w') (ha : a.block < B) : Cells w' a vs :=
  fun j v hj => (hb.cell (p := a.add j) (by rw [add_block]; exact ha)).trans (h j v hj)
theorem Cells.spot {w : World} {a : Addr} {v : Value} {vs : List Value} (h : Cells w a (v :: vs)) : a = ⟨a.block, a.off, none⟩ := by
  have h0 := h 0 v rfl
  have h1 : a.add 0 = a := rfl
  rw [h1] at h0
  have := World.cell?_spot h0
  cases a; simp_all
section
variable {α : Type}
theorem flat_length (enc : α → List Value) (k : Nat) (hk : ∀ x, (enc x).length = k) (l : List α) : (l.flatMap enc).length = l.length * k := by
  induction l with
  | nil => simp
  | cons x r ih => rw [List.flatMap_cons, List.length_append, ih, hk, List.length_cons, Nat.add_mul, Nat.one_mul, Nat.add_comm]
theorem flat_get (enc : α → List Value) (k : Nat) (hk : ∀ x, (enc x).length = k) : ∀ (l : List α) (i c : Nat) (x : α) (v : Value), l[i]? = some x → (enc x)[c]? = some v → (l.flatMap enc)[i * k + c]? = some v
  | [], i, c, x, v, h, _ => by simp at h
  | y :: r, i, c, x, v, h, hc => by
    have hck : c < k := by rw [← hk x]; exact (List.getElem?_eq_some_iff.1 hc).1
    rw [List.flatMap_cons]
    cases i with
    | zero =>
      simp at h; subst h
      rw [Nat.zero_mul, Nat.zero_add, List.getElem?_append_left (by rw [hk]; exact hck)]
      exact hc
    | succ i =>
      rw [List.getElem?_append_right (by rw [hk, Nat.add_mul]; omega), hk, show (i + 1) * k + c - k = i * k + c by rw [Nat.add_mul]; omega]
      exact flat_get enc k hk r i c x v (by simpa using h) hc
/-- a slice value that holds the elements l -/
def GS (enc : α → List Value) (w : World) (v : Value) (l : List α) : Prop := (v = .slice none 0 0 ∧ l = []) ∨ ∃ a cap, v = .slice (some a) l.length cap ∧ l.length ≤ cap ∧ cap ≤ maxLen ∧ Cells w a (l.flatMap enc) ∧ a.block < w.heap.size
/-- the elements' cells can be read -/
def GR (enc : α → List Value) (k : Nat) (p : Option Addr) (n0 : Nat) (l : List α) (W : World) : Prop := ∀ i x, l[i]? = some x → ∃ b o, p = some ⟨b, o, none⟩ ∧ b < n0 ∧ ∀ c v, (enc x)[c]? = some v → W.cell? ⟨b, o + i * k + c, none⟩ = some v
/-- a row of the call's own that append makes longer -/
def GO (e k : TypeId) (enc : α → List Value) (w : World) (base : Nat) (v : Value) (l : List α) : Prop := w.ownsRow base e k v l.length (l.flatMap enc)
variable {enc : α → List Value}
theorem GS.ups {w w' : World} {v : Value} {l : List α} (h : GS enc w v l) (hb : Below w.heap.size w w') : GS enc w' v l := by
  rcases h with h | ⟨a, cap, h1, h2, h3, h4, h5⟩
  · exact .inl h
  · exact .inr ⟨a, cap, h1, h2, h3, h4.up hb h5, Nat.lt_of_lt_of_le h5 hb.size⟩
theorem GS.form {w : World} {v : Value} {l : List α} (h : GS enc w v l) : ∃ p cap, v = .slice p l.length cap := by
  rcases h with ⟨rfl, rfl⟩ | ⟨a, cap, rfl, _⟩
  · exact ⟨_, _, rfl⟩
  · exact ⟨_, _, rfl⟩
theorem GS.len {w : World} {v : Value} {l : List α} (h : GS enc w v l) : l.length ≤ maxLen := by
  rcases h with ⟨rfl, rfl⟩ | ⟨a, cap, rfl, h1, h2, _⟩
  · simp
  · omega
theorem GS.cap {w : World} {p : Option Addr} {n cap : Nat} {l : List α} (h : GS enc w (.slice p n cap) l) : n = l.length ∧ n ≤ cap ∧ cap ≤ maxLen := by
  rcases h with ⟨h1, rfl⟩ | ⟨a, cap', h1, h2, h3, _⟩
  · cases h1; simp
  · cases h1; exact ⟨rfl, h2, h3⟩
theorem GS.gr {w : World} {p : Option Addr} {cap n : Nat} {l : List α} (k : Nat) (hk : ∀ x, (enc x).length = k) (h0 : 0 < k) (h : GS enc w (.slice p n cap) l) : GR enc k p w.heap.size l w := by
  intro i x hi
  rcases h with ⟨_, rfl⟩ | ⟨a, cap', h1, _, _, h4, h5⟩
  · simp at hi
  · injection h1 with e1 e2 e3
    have ha : a = ⟨a.block, a.off, none⟩ := by
      have hlt : 0 < (l.flatMap enc).length := by
        rw [flat_length enc k hk]
        have := (List.getElem?_eq_some_iff.1 hi).1
        exact Nat.mul_pos (by omega) h0
      obtain ⟨v, vs, hv⟩ : ∃ v vs, l.flatMap enc = v :: vs := by
        cases hh : l.flatMap enc with
        | nil => rw [hh] at hlt; simp at hlt
        | cons v vs => exact ⟨v, vs, rfl⟩
      rw [hv] at h4
      exact h4.spot
    refine ⟨a.block, a.off, by rw [e1, ← ha], h5, fun c v hc => ?_⟩
    have c1 := h4 _ _ (flat_get enc k hk l i c x v hi hc)
    rw [ha, add_plain, ← Nat.add_assoc] at c1
    exact c1
theorem GR.up {k : Nat} {p : Option Addr} {n0 : Nat} {l : List α} {W W' : World} (h : GR enc k p n0 l W) (hb : Below n0 W W') : GR enc k p n0 l W' := fun i x hi => by
  obtain ⟨b, o, e, hl, h1⟩ := h i x hi
  exact ⟨b, o, e, hl, fun c v hc => (hb.cell (p := ⟨b, o + i * k + c, none⟩) hl).trans (h1 c v hc)⟩
variable {e k : Nat}
theorem go_nil (w : World) (base : Nat) : GO e k enc w base (.slice none 0 0) ([] : List α) := ⟨by simp, .inl ⟨rfl, rfl⟩⟩
theorem GO.gs {w : World} {base : Nat} {v : Value} {l : List α} (h : GO e k enc w base v l) : GS enc w v l := by
  rcases h.2 with ⟨rfl, hl⟩ | ⟨g, cap, cur, rfl, hb, hg, hn, hm, hs, ht⟩
  · exact .inl ⟨rfl, List.eq_nil_of_length_eq_zero hl⟩
  · exact .inr ⟨_, cap, rfl, hn, hm, fun j v hj => World.ownsRow.cells h rfl j v hj, (Array.getElem?_eq_some_iff.1 hg).1⟩
theorem GO.alloc {w : World} {base : Nat} {v : Value} {l : List α} (h : GO e k enc w base v l) (o : Obj) : GO e k enc (w.alloc o) base v l := World.ownsRow.alloc h o
theorem grown_of_below {w w' : World} {r : Option Nat} (hb : Below w.heap.size w w') : w.grownBy w' r := ⟨hb.os, hb.tape, hb.output, hb.size, fun k hk _ => hb.block k hk⟩
theorem GO.ups {w w' : World} {base : Nat} {v : Value} {l : List α} (h : GO e k enc w base v l) (hb : Below w.heap.size w w') : GO e k enc w' base v l :=
  World.ownsRow.kept h (grown_of_below (r := none) hb) (by
    cases v.ownBlock with
    | none => exact .inl rfl
    | some k => exact .inr (by simp))
theorem GO.kept {w w' : World} {base : Nat} {v : Value} {l : List α} {r : Option Nat} (h : GO e k enc w base v l) (hg : w.grownBy w' r) (hne : ∀ j, v.ownBlock = some j → r ≠ some j) : GO e k enc w' base v l :=
  World.ownsRow.kept h hg (by
    cases hv : v.ownBlock with
    | none => exact .inl rfl
    | some j => exact .inr (fun h => hne j hv h.symm))
theorem cells_new (w : World) (xs : List Value) (e : TypeId) : Cells (w.alloc (.cells xs.toArray e)) ⟨w.heap.size, 0, none⟩ xs := by
  intro j v hj
  rw [add_plain, Nat.zero_add]
  simp only [World.cell?, heap_alloc_new]
  simpa using hj
/-- an element that has just been laid is appended -/
theorem app_one {t : TypeId} {bytes : Nat} (hu : Try.prog.underlying t = some (.slice e)) (hinfo : (Try.prog.info? e).map (fun i => (i.zero.map (fun z => z.cells.size), i.size, i.bytes)) = some (some k, k, bytes)) (hk : ∀ x, (enc x).length = k) (h0 : 0 < k) (hby : bytes ≤ 64)
    (hone : ∀ x, ∀ u ∈ enc x, u.oneCell' = true) {w : World} {base : Nat} {v : Value} {l : List α} (h : GO e k enc w base v l) (x : α) (hn : l.length ≤ 1000000) (hb : base ≤ w.heap.size) :
    ∃ g cap w', (Builtin.append_ #[t, t] t #[v, .slice (some ⟨w.heap.size, 0, none⟩) 1 1]).run Try.prog (w.alloc (.cells (enc x).toArray e)) = .ok (.slice (some ⟨g, 0, none⟩) (l.length + 1) cap) w' ∧
      GO e k enc w' base (.slice (some ⟨g, 0, none⟩) (l.length + 1) cap) (l ++ [x]) ∧ (w.alloc (.cells (enc x).toArray e)).grownBy w' v.ownBlock := by
  obtain ⟨i, hi, hf⟩ := Option.map_eq_some_iff.1 hinfo
  simp only [Prod.mk.injEq] at hf
  obtain ⟨hz, hs, hbyt⟩ := hf
  obtain ⟨z, hz, hzs⟩ := Option.map_eq_some_iff.1 hz
  obtain ⟨g, cap, w', h6, h7, h8, h9, h10⟩ := run_append_lies (P := Try.prog) (w := w.alloc (.cells (enc x).toArray e)) t t base e i z k bytes hu hi hz hs hbyt hzs h0 v l.length _ (h.alloc _) ⟨w.heap.size, 0, none⟩ 1 1 (enc x) (by rw [hk, Nat.one_mul])
    (cells_new w (enc x) e) (hone x) (by omega) (by unfold maxLen; omega) (by
      have : (l.length + 1) * bytes ≤ 1000001 * 64 := Nat.mul_le_mul (by omega) hby
      omega) (by simp; omega) _ rfl
  refine ⟨g, cap, w', h6, ?_, h8⟩
  unfold GO
  rw [List.length_append, List.length_singleton, List.flatMap_append, List.flatMap_singleton]
  exact h7
theorem GO.lt {w : World} {base : Nat} {v : Value} {l : List α} (h : GO e k enc w base v l) (j : Nat) (hj : v.ownBlock = some j) : base ≤ j ∧ j < w.heap.size := World.ownsRow.lt h j hj
/-- so: as Below -/
theorem app_one' {t : TypeId} {bytes : Nat} (hu : Try.prog.underlying t = some (.slice e)) (hinfo : (Try.prog.info? e).map (fun i => (i.zero.map (fun z => z.cells.size), i.size, i.bytes)) = some (some k, k, bytes)) (hk : ∀ x, (enc x).length = k) (h0 : 0 < k) (hby : bytes ≤ 64)
    (hone : ∀ x, ∀ u ∈ enc x, u.oneCell' = true) {w : World} {base : Nat} {v : Value} {l : List α} (h : GO e k enc w base v l) (x : α) (hn : l.length ≤ 1000000) (hb : base ≤ w.heap.size) :
    ∃ g cap w', (Builtin.append_ #[t, t] t #[v, .slice (some ⟨w.heap.size, 0, none⟩) 1 1]).run Try.prog (w.alloc (.cells (enc x).toArray e)) = .ok (.slice (some ⟨g, 0, none⟩) (l.length + 1) cap) w' ∧
      GO e k enc w' base (.slice (some ⟨g, 0, none⟩) (l.length + 1) cap) (l ++ [x]) ∧ Below base w w' := by
  obtain ⟨g, cap, w', h1, h2, h3⟩ := app_one hu hinfo hk h0 hby hone h x hn hb
  exact ⟨g, cap, w', h1, h2, ((Below.refl base w).alloc hb _).grown h3 (by simp; omega) (fun j hj => (h.lt j hj).1)⟩
end
theorem get_lt {α : Type} {l : List α} {i : Nat} (h : i < l.length) : ∃ x, l[i]? = some x := ⟨l[i], List.getElem?_eq_getElem h⟩
theorem take_snoc {α : Type} {l : List α} {i : Nat} {x : α} (h : l[i]? = some x) : l.take (i + 1) = l.take i ++ [x] := by rw [List.take_add_one, h]; rfl
/-- the step of an append whose run is known -/
theorem wpList_append_run {P : Program} {w w' : World} {ops : Array Oper} {rest : List Oper} {o : Oper} {a : Act} {Q : Exit → Act → World → Prop}
    (hg : o.guard = none) (s x : Operand) (t u : TypeId) (hop : o.op = Op.call { callee := Callee.builtin Builtin.append, args := #[s, x], argTypes := #[t, u] })
    (vs vx r : Value) (hs : a.eval s = vs) (hx : a.eval x = vx) (hrun : (Builtin.append_ #[t, u] o.type #[vs, vx]).run P w = .ok r w') (hK : wpList P ops Q rest (a.put o.dst r) w') :
    wpList P ops Q (o :: rest) a w := by
  refine wpList_plain hg fun K hK' => ?_
  unfold Oper.wp
  simp [execOp, hop, resolve, invoke, builtin, hs, hx, hrun, Result.andThen]
  exact hK' _ _ hK
/-- a fact's cells, a key's, a point's, a span's, a read's, a number's -/
abbrev FA := F7.Fact
abbrev KE := F7.Key
def fc (f : FA) : List Value := [.int .i64 f.kind, .int .i64 f.subj, .int .i64 f.obj, .int .i64 f.val, .int .i64 f.frm, .int .i64 f.to, .int .i64 f.known, .int .i64 f.no]
def kc (k : KE) : List Value := [.int .i64 k.1, .int .i64 k.2.1, .int .i64 k.2.2]
def pc (p : Int × Int) : List Value := [.int .i64 p.1, .int .i64 p.2]
def ic (n : Int) : List Value := [.int .i64 n]
abbrev FV (f : FA) : Value := .agg #[.int .i64 f.kind, .int .i64 f.subj, .int .i64 f.obj, .int .i64 f.val, .int .i64 f.frm, .int .i64 f.to, .int .i64 f.known, .int .i64 f.no]
abbrev KV (k : KE) : Value := .agg #[.int .i64 k.1, .int .i64 k.2.1, .int .i64 k.2.2]
theorem fc_len (f : FA) : (fc f).length = 8 := rfl
theorem kc_len (f : KE) : (kc f).length = 3 := rfl
theorem pc_len (f : Int × Int) : (pc f).length = 2 := rfl
theorem ic_len (f : Int) : (ic f).length = 1 := rfl
theorem fc_one (f : FA) : ∀ u ∈ fc f, u.oneCell' = true := by intro u hu; simp [fc] at hu; rcases hu with h | h | h | h | h | h | h | h <;> subst h <;> rfl
theorem kc_one (f : KE) : ∀ u ∈ kc f, u.oneCell' = true := by intro u hu; simp [kc] at hu; rcases hu with h | h | h <;> subst h <;> rfl
theorem pc_one (f : Int × Int) : ∀ u ∈ pc f, u.oneCell' = true := by intro u hu; simp [pc] at hu; rcases hu with h | h <;> subst h <;> rfl
theorem ic_one (f : Int) : ∀ u ∈ ic f, u.oneCell' = true := by intro u hu; simp [ic] at hu; subst hu; rfl
abbrev FS (w : World) (v : Value) (l : List FA) : Prop := GS fc w v l
abbrev FR (p : Option Addr) (n0 : Nat) (l : List FA) (W : World) : Prop := GR fc 8 p n0 l W
abbrev FO (w : World) (base : Nat) (v : Value) (l : List FA) : Prop := GO 28 8 fc w base v l
abbrev KS (w : World) (v : Value) (l : List KE) : Prop := GS kc w v l
abbrev KR (p : Option Addr) (n0 : Nat) (l : List KE) (W : World) : Prop := GR kc 3 p n0 l W
abbrev KO (w : World) (base : Nat) (v : Value) (l : List KE) : Prop := GO 24 3 kc w base v l
/-- points -/
abbrev PS (w : World) (v : Value) (l : List (Int × Int)) : Prop := GS pc w v l
abbrev PR (p : Option Addr) (n0 : Nat) (l : List (Int × Int)) (W : World) : Prop := GR pc 2 p n0 l W
abbrev PO (w : World) (base : Nat) (v : Value) (l : List (Int × Int)) : Prop := GO 60 2 pc w base v l
/-- spans -/
abbrev SO (w : World) (base : Nat) (v : Value) (l : List (Int × Int)) : Prop := GO 26 2 pc w base v l
abbrev IS (w : World) (v : Value) (l : List Int) : Prop := GS ic w v l
theorem info28 : (Try.prog.info? 28).map (fun i => (i.zero.map (fun z => z.cells.size), i.size, i.bytes)) = some (some 8, 8, 64) := by kernel_rfl
theorem info24 : (Try.prog.info? 24).map (fun i => (i.zero.map (fun z => z.cells.size), i.size, i.bytes)) = some (some 3, 3, 24) := by kernel_rfl
theorem info60 : (Try.prog.info? 60).map (fun i => (i.zero.map (fun z => z.cells.size), i.size, i.bytes)) = some (some 2, 2, 16) := by kernel_rfl
theorem info26 : (Try.prog.info? 26).map (fun i => (i.zero.map (fun z => z.cells.size), i.size, i.bytes)) = some (some 2, 2, 16) := by kernel_rfl
theorem info57 : (Try.prog.info? 57).map (fun i => (i.zero.map (fun z => z.cells.size), i.size, i.bytes)) = some (some 4, 4, 48) := by kernel_rfl
theorem app_fact {w : World} {base : Nat} {v : Value} {l : List (FA)} (h : FO w base v l) (x : FA) (hn : l.length ≤ 1000000) (hb : base ≤ w.heap.size) :
    ∃ g cap w', (Builtin.append_ #[22, 22] 22 #[v, .slice (some ⟨w.heap.size, 0, none⟩) 1 1]).run Try.prog (w.alloc (.cells #[.int .i64 x.kind, .int .i64 x.subj, .int .i64 x.obj, .int .i64 x.val, .int .i64 x.frm, .int .i64 x.to, .int .i64 x.known, .int .i64 x.no] 28)) = .ok (.slice (some ⟨g, 0, none⟩) (l.length + 1) cap) w' ∧
      FO w' base (.slice (some ⟨g, 0, none⟩) (l.length + 1) cap) (l ++ [x]) ∧ (w.alloc (.cells #[.int .i64 x.kind, .int .i64 x.subj, .int .i64 x.obj, .int .i64 x.val, .int .i64 x.frm, .int .i64 x.to, .int .i64 x.known, .int .i64 x.no] 28)).grownBy w' v.ownBlock :=
  app_one (t := 22) Try.underlying22 info28 fc_len (by omega) (by omega) fc_one h x hn hb
theorem app_fact' {w : World} {base : Nat} {v : Value} {l : List (FA)} (h : FO w base v l) (x : FA) (hn : l.length ≤ 1000000) (hb : base ≤ w.heap.size) :
    ∃ g cap w', (Builtin.append_ #[22, 22] 22 #[v, .slice (some ⟨w.heap.size, 0, none⟩) 1 1]).run Try.prog (w.alloc (.cells #[.int .i64 x.kind, .int .i64 x.subj, .int .i64 x.obj, .int .i64 x.val, .int .i64 x.frm, .int .i64 x.to, .int .i64 x.known, .int .i64 x.no] 28)) = .ok (.slice (some ⟨g, 0, none⟩) (l.length + 1) cap) w' ∧
      FO w' base (.slice (some ⟨g, 0, none⟩) (l.length + 1) cap) (l ++ [x]) ∧ Below base w w' :=
  app_one' (t := 22) Try.underlying22 info28 fc_len (by omega) (by omega) fc_one h x hn hb
theorem app_key {w : World} {base : Nat} {v : Value} {l : List (KE)} (h : KO w base v l) (x : KE) (hn : l.length ≤ 1000000) (hb : base ≤ w.heap.size) :
    ∃ g cap w', (Builtin.append_ #[37, 37] 37 #[v, .slice (some ⟨w.heap.size, 0, none⟩) 1 1]).run Try.prog (w.alloc (.cells #[.int .i64 x.1, .int .i64 x.2.1, .int .i64 x.2.2] 24)) = .ok (.slice (some ⟨g, 0, none⟩) (l.length + 1) cap) w' ∧
      KO w' base (.slice (some ⟨g, 0, none⟩) (l.length + 1) cap) (l ++ [x]) ∧ (w.alloc (.cells #[.int .i64 x.1, .int .i64 x.2.1, .int .i64 x.2.2] 24)).grownBy w' v.ownBlock :=
  app_one (t := 37) Try.underlying37 info24 kc_len (by omega) (by omega) kc_one h x hn hb
theorem app_point' {w : World} {base : Nat} {v : Value} {l : List (Int × Int)} (h : PO w base v l) (x : Int × Int) (hn : l.length ≤ 1000000) (hb : base ≤ w.heap.size) :
    ∃ g cap w', (Builtin.append_ #[41, 41] 41 #[v, .slice (some ⟨w.heap.size, 0, none⟩) 1 1]).run Try.prog (w.alloc (.cells #[.int .i64 x.1, .int .i64 x.2] 60)) = .ok (.slice (some ⟨g, 0, none⟩) (l.length + 1) cap) w' ∧
      PO w' base (.slice (some ⟨g, 0, none⟩) (l.length + 1) cap) (l ++ [x]) ∧ Below base w w' :=
  app_one' (t := 41) Try.underlying41 info60 pc_len (by omega) (by omega) pc_one h x hn hb
theorem app_span' {w : World} {base : Nat} {v : Value} {l : List (Int × Int)} (h : SO w base v l) (x : Int × Int) (hn : l.length ≤ 1000000) (hb : base ≤ w.heap.size) :
    ∃ g cap w', (Builtin.append_ #[55, 55] 55 #[v, .slice (some ⟨w.heap.size, 0, none⟩) 1 1]).run Try.prog (w.alloc (.cells #[.int .i64 x.1, .int .i64 x.2] 26)) = .ok (.slice (some ⟨g, 0, none⟩) (l.length + 1) cap) w' ∧
      SO w' base (.slice (some ⟨g, 0, none⟩) (l.length + 1) cap) (l ++ [x]) ∧ Below base w w' :=
  app_one' (t := 55) Try.underlying55 info26 pc_len (by omega) (by omega) pc_one h x hn hb
/-- a fact's cells -/
def At8 (W : World) (b o : Nat) (f : FA) : Prop := W.cell? ⟨b, o, none⟩ = some (.int .i64 f.kind) ∧ W.cell? ⟨b, o + 1, none⟩ = some (.int .i64 f.subj) ∧ W.cell? ⟨b, o + 2, none⟩ = some (.int .i64 f.obj) ∧ W.cell? ⟨b, o + 3, none⟩ = some (.int .i64 f.val) ∧
  W.cell? ⟨b, o + 4, none⟩ = some (.int .i64 f.frm) ∧ W.cell? ⟨b, o + 5, none⟩ = some (.int .i64 f.to) ∧ W.cell? ⟨b, o + 6, none⟩ = some (.int .i64 f.known) ∧ W.cell? ⟨b, o + 7, none⟩ = some (.int .i64 f.no)
theorem GR.at8 {p : Option Addr} {n0 : Nat} {l : List FA} {W : World} (h : FR p n0 l W) {i : Nat} {f : FA} (hi : l[i]? = some f) : ∃ b o, p = some ⟨b, o, none⟩ ∧ b < n0 ∧ At8 W b (o + i * 8) f := by
  obtain ⟨b, o, e, hl, h1⟩ := h i f hi
  exact ⟨b, o, e, hl, h1 0 _ rfl, h1 1 _ rfl, h1 2 _ rfl, h1 3 _ rfl, h1 4 _ rfl, h1 5 _ rfl, h1 6 _ rfl, h1 7 _ rfl⟩
end Go.Proofs.Ytbejjindkcjecaa

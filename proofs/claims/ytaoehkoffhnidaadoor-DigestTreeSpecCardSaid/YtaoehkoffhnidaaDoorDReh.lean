/- Steps of a region that makes memory in an order of its own: new variables for digests, digests written, lists begun, lengthened. -/
import Derived.Test.YtaoehkoffhnidaaDoorDSq
namespace Go.Proofs.YtaoehkoffhnidaaDoor.Dg
open Go.RowKit Go
set_option linter.unusedVariables false
set_option linter.unusedSimpArgs false
theorem grown_some {w w' : World} {r : Option Nat} {g : Nat} (h : w.grownBy w' r) (hr : r = none ∨ r = some g) : w.grownBy w' (some g) := by
  rcases hr with rfl | rfl
  · exact ⟨h.os, h.tape, h.output, h.size, fun k hk _ => h.block k hk (by simp)⟩
  · exact h
theorem Room.grown {w w' : World} {g : Nat} {r : Option Nat} (h : Room w g) (hg : w.grownBy w' r) (hr : r ≠ some g) : Room w' g := by
  obtain ⟨⟨zs, h1, h2⟩, h3, h4⟩ := h
  cases r with
  | none =>
    have hb : Below w.heap.size w w' := ⟨hg.os, hg.tape, hg.output, hg.size, fun k hk => hg.block k hk (by simp)⟩
    exact Room.ups ⟨⟨zs, h1, h2⟩, h3, h4⟩ hb
  | some k => exact ⟨⟨zs, h1.grown hg (by intro e; exact hr (by rw [← e])), h2⟩, h3.grown hg (by intro e; exact hr (by rw [e])) h4, Nat.lt_of_lt_of_le h4 hg.size⟩
/-- the row's block lies between -/
def Betw (v : Value) (lo hi : Nat) : Prop := ∀ k, v.ownBlock = some k → lo ≤ k ∧ k < hi
/-- a list of digests in a row of its own between lo and hi, or nothing yet -/
def OF (w : World) (lo hi : Nat) (v : Value) (ds : List (List UInt8)) : Prop := (OD w lo v ds ∧ Betw v lo hi) ∨ (ds = [] ∧ ∃ ad, v = .slice (some ad) 0 0)
theorem OF.ups {w w' : World} {lo hi : Nat} {v : Value} {ds : List (List UInt8)} (h : OF w lo hi v ds) (hb : Below w.heap.size w w') : OF w' lo hi v ds := by
  rcases h with ⟨h, h2⟩ | h
  · exact .inl ⟨h.ups hb, h2⟩
  · exact .inr h
theorem OF.ds {w : World} {lo hi : Nat} {v : Value} {ds : List (List UInt8)} (h : OF w lo hi v ds) : DS w v ds := by
  rcases h with ⟨h, _⟩ | ⟨rfl, ad, rfl⟩
  · exact h.ds
  · exact ⟨by simp, .inl ⟨rfl, some ad, 0, rfl, by omega⟩⟩
theorem append_first {w : World} {u : Value} {es : List (List UInt8)} {ad : Addr} (hv : DA w u es) (hn : es.length ≤ 1000000000) :
    ∃ v' w', (Builtin.append_ #[46, 46] 46 #[.slice (some ad) 0 0, u]).run Tryd.prog w = .ok v' w' ∧ OF w' w.heap.size w'.heap.size v' es ∧ Below w.heap.size w w' := by
  obtain ⟨v', w', h1, h2, h3⟩ := append_oe (w := w) (base := w.heap.size) (v := .slice (some ad) 0 0) (ds := []) (.inr ⟨rfl, ad, rfl⟩) hv (by simpa using hn) (Nat.le_refl _)
  rw [List.nil_append] at h2
  refine ⟨v', w', h1, ?_, h3⟩
  rcases h2 with h2 | h2
  · exact .inl ⟨h2, fun k hk => World.ownsRow.lt h2.2 k hk⟩
  · exact .inr h2
theorem append_more {w : World} {lo hi : Nat} {v u : Value} {ds es : List (List UInt8)} (h : OF w lo hi v ds) (hv : DA w u es) (hn : ds.length + es.length ≤ 1000000000) (hb : lo ≤ w.heap.size) :
    ∃ v' w', (Builtin.append_ #[46, 46] 46 #[v, u]).run Tryd.prog w = .ok v' w' ∧ OE w' lo v' (ds ++ es) ∧ Below lo w w' ∧ ∀ g, (g < lo ∨ hi ≤ g) → Room w g → Room w' g := by
  rcases h with ⟨h, h2⟩ | h
  · rcases hv with ⟨rfl, rfl⟩ | ⟨a, cap, rfl, h6, h4⟩
    · obtain ⟨v', w', h7, h8, h9⟩ := append_oe (es := []) (.inl h) (.inl ⟨rfl, rfl⟩) hn hb
      have hr := run_append_owned_none (P := Tryd.prog) (w := w) lo 46 46 35 _ 32 Tryd.underlying46 (Option.map_eq_some_iff.1 info26s).choose_spec.1 _ _ _ h.2
      rw [hr] at h7
      simp only [Result.ok.injEq] at h7
      obtain ⟨rfl, rfl⟩ := h7
      exact ⟨_, _, hr, h8, h9, fun g _ hg => hg⟩
    · obtain ⟨i, hi', hf⟩ := Option.map_eq_some_iff.1 info26s
      simp only [Prod.mk.injEq] at hf
      obtain ⟨hz, hs, hby⟩ := hf
      obtain ⟨z, hz, hzs⟩ := Option.map_eq_some_iff.1 hz
      obtain ⟨v', w', e1, e2, e3, e4⟩ := run_append_own (P := Tryd.prog) w lo 46 46 35 i z 32 32 Tryd.underlying46 hi' hz hs hby hzs (by omega) v ds.length _ h.2 a es.length cap (es.flatten.map vb) (by rw [List.length_map, flat_length es h6]) h4 (one_vb _) (by unfold maxLen; omega) (by omega) hb
      refine ⟨v', w', e1, .inl ⟨?_, ?_⟩, ?_, ?_⟩
      · intro d hd
        rcases List.mem_append.1 hd with hd | hd
        · exact h.1 d hd
        · exact h6 d hd
      · rw [List.length_append, List.flatten_append, List.map_append]; exact e2
      · exact (Below.refl lo w).grown e3 hb (fun k hk => (h2 k hk).1)
      · intro g hg hr
        refine hr.grown e3 ?_
        intro e
        have := h2 g e
        omega
  · obtain ⟨rfl, ad, rfl⟩ := h
    obtain ⟨v', w', h7, h8, h9⟩ := append_first (ad := ad) hv (by omega)
    refine ⟨v', w', h7, ?_, h9.mono hb, fun g _ hg => hg.ups h9⟩
    rw [List.nil_append]
    rcases h8 with ⟨h8, _⟩ | h8
    · exact .inl (h8.mono hb)
    · exact .inr h8
section
variable {ops : Array Oper} {o : Oper} {a : Act} {w : World} {K : Act → World → Prop} {Q : Exit → Act → World → Prop}
theorem st_run (dt : Option Tmp) (hd : o.dst = dt) (v : Value) (w' : World) (hrun : (execOp a.eval o).run Tryd.prog w = .ok (.value v) w') (h : K (a.put dt v) w') : Oper.wp Tryd.prog o a w K Q := by
  subst hd
  unfold Oper.wp
  rw [hrun, Oper.upon_value]
  exact h
/-- a new variable for a digest -/
theorem st_alloc (dt : Option Tmp) (hd : o.dst = dt) (ho : o.op = .alloc 35)
    (h : ∀ W g, g = w.heap.size → Room W g → Below w.heap.size w W → W.heap.size = w.heap.size + 1 → K (a.put dt (.pointer (some ⟨g, 0, none⟩))) W) : Oper.wp Tryd.prog o a w K Q := by
  subst hd
  have hh := h (w.alloc (.cells (zerosD.map vb).toArray 35)) _ rfl (Room.mk (cells_alloc _ _ _) (by simp [zerosD]) (free_alloc _ _ _) (by simp)) (below_al _ _) (by simp)
  unfold Oper.wp
  go_simp
  exact hh
/-- an empty list begins -/
theorem st_begin (dt : Option Tmp) (hd : o.dst = dt) (ho : o.op = .buildSlice 46 0 #[])
    (h : ∀ W ad, Below w.heap.size w W → K (a.put dt (.slice (some ad) 0 0)) W) : Oper.wp Tryd.prog o a w K Q := by
  subst hd
  have hh := h (w.alloc (.cells #[] 35)) ⟨w.heap.size, 0, none⟩ (below_al _ _)
  unfold Oper.wp
  go_simp
  exact hh
/-- a list of one digest -/
theorem st_one (dt : Option Tmp) (hd : o.dst = dt) (x : Operand) (ho : o.op = .buildSlice 46 1 #[(0, x)]) (us : List Value) (l : List UInt8) (hx : a.eval x = .agg us.toArray) (hl : IsD l us)
    (h : ∀ W g, DA W (.slice (some ⟨g, 0, none⟩) 1 1) [l] → Below w.heap.size w W → K (a.put dt (.slice (some ⟨g, 0, none⟩) 1 1)) W) : Oper.wp Tryd.prog o a w K Q := by
  subst hd
  obtain ⟨i, hi, hf⟩ := Option.map_eq_some_iff.1 info26s
  simp only [Prod.mk.injEq] at hf
  obtain ⟨hz, hs, hby⟩ := hf
  obtain ⟨z, hz, hzs⟩ := Option.map_eq_some_iff.1 hz
  have hlen := hl.len'
  refine wp_buildSlice 46 35 1 _ ho us.toArray i z Tryd.underlying46 hi hz (by rw [hs]; omega) (by rw [hs]; omega) ?_ (h _ _ (isD_da hl (cells_alloc _ _ _)) (below_al _ _))
  rw [hs]
  have := Great.fill_whole (s := 32) (by omega) [Value.agg us.toArray] ((Array.range (1 * 32)).map (z.cells[· % z.cells.size]!)) (by intro v hv; simp at hv; subst hv; simpa [Value.cells] using hlen) (by simp)
  simpa [Value.cells, hx] using this
/-- the first append to a list that has just begun -/
theorem st_first (dt : Option Tmp) (hd : o.dst = dt) (s x : Operand) (hop : o.op = Op.call { callee := Callee.builtin Builtin.append, args := #[s, x], argTypes := #[46, 46] }) (ht : o.type = 46) (ad : Addr) (hs : a.eval s = .slice (some ad) 0 0)
    (es : List (List UInt8)) (hx : DA w (a.eval x) es) (hn : es.length ≤ 1000000000) (h : ∀ v' W lo hi, lo = w.heap.size → hi = W.heap.size → OF W lo hi v' es → Below w.heap.size w W → K (a.put dt v') W) : Oper.wp Tryd.prog o a w K Q := by
  subst hd
  obtain ⟨v', w', h1, h2, h3⟩ := append_first (ad := ad) hx hn
  have hk := h v' w' _ _ rfl rfl h2 h3
  unfold Oper.wp
  simp [execOp, hop, resolve, invoke, builtin, hs, h1, ht, Result.andThen]
  exact hk
/-- a further append -/
theorem st_more (dt : Option Tmp) (hd : o.dst = dt) (s x : Operand) (hop : o.op = Op.call { callee := Callee.builtin Builtin.append, args := #[s, x], argTypes := #[46, 46] }) (ht : o.type = 46) (lo hi : Nat) (ds es : List (List UInt8))
    (hs : OF w lo hi (a.eval s) ds) (hx : DA w (a.eval x) es) (hn : ds.length + es.length ≤ 1000000000) (hb : lo ≤ w.heap.size)
    (h : ∀ v' W, OE W lo v' (ds ++ es) → Below lo w W → (∀ g, (g < lo ∨ hi ≤ g) → Room w g → Room W g) → K (a.put dt v') W) : Oper.wp Tryd.prog o a w K Q := by
  subst hd
  obtain ⟨v', w', h1, h2, h3, h4⟩ := append_more hs hx hn hb
  have hk := h v' w' h2 h3 h4
  unfold Oper.wp
  simp [execOp, hop, resolve, invoke, builtin, h1, ht, Result.andThen]
  exact hk
/-- a digest is written -/
theorem st_put (dt : Option Tmp) (hd : o.dst = dt) (p x : Operand) (ho : o.op = .store 35 p x) (g : Nat) (us : List Value) (l : List UInt8) (hp : a.eval p = .pointer (some ⟨g, 0, none⟩)) (hx : a.eval x = .agg us.toArray) (hr : Room w g) (hl : IsD l us)
    (h : ∀ W, Cells W ⟨g, 0, none⟩ us → Room W g → Only g w W → K (a.put dt undef) W) : Oper.wp Tryd.prog o a w K Q := by
  subst hd
  obtain ⟨h1, h2, _⟩ := hr.put hl
  exact wp_store_mid 35 p x ho g 0 us.toArray hp hx (by rw [List.size_toArray, hl.len']; exact hr.there) (by rw [List.size_toArray]; exact info26 hl.len') hl.one (h _ h1 h2 (only_sets us 0))
/-- the load of a digest at the list of a plain region's operations, guarded or not -/
theorem wpl_load {P : Program} {rest : List Oper} (hw : Region.wanted o (yielded ops a.tmps) = true) (ty : TypeId) (x : Operand) (ho : o.op = .load ty x)
    (b oo : Nat) (hx : a.eval x = .pointer (some ⟨b, oo, none⟩)) (cs : List Value) (d : TypeDesc) (hc : w.rangeAt b oo cs)
    (hu : P.underlying ty = some d) (hd : d.isRow = true) (hi : (P.info? ty).map (·.size) = some cs.length)
    (h : wpList P ops Q rest (a.put o.dst (.agg cs.toArray)) w) : wpList P ops Q (o :: rest) a w := by
  unfold wpList
  rw [if_pos hw]
  exact .inl (wp_load_mid ty x ho b oo hx cs d hc hu hd hi h)
end
section
variable {P : Program} {ops : Array Oper} {Q : Exit → Act → World → Prop} {S : World → Prop} {fuel : Nat} {listed : Array Bool} {a : Act} {w : World}
/-- a component of a tuple -/
theorem tk_ext (i : Nat) (dt : Option Tmp) {oi : Oper} (x : Operand) (k : Nat) (vs : Array Value) (v : Value) (hi : ops[i]? = some oi) (ho : oi.op = .extract x k) (hx : a.eval x = .tuple vs) (hv : vs[k]? = some v) (hb : (Region.noSelect ops && Region.free .any ops listed i && (Region.ready .any ops listed).contains i) = true)
    (hg : oi.guard = none) (hdt : oi.dst = dt) (hS : S w)
    (h : wpAnyH P .any ops (NoPanic Q) S fuel (listed.setIfInBounds i true) (a.put dt v) w) : wpAnyH P .any ops (NoPanic Q) S (fuel + 1) listed a w :=
  tk i dt v hi hb hg hdt hS (fun w _ => by unfold execOp; simp only [ho, hx]; simp [Instr.extract, hv]) h
/-- an assignment to a variable of the frame -/
theorem tk_asg (i : Nat) (dt : Option Tmp) {oi : Oper} (x : Operand) (v : Value) (hi : ops[i]? = some oi) (ho : oi.op = .assign x) (hx : a.eval x = v) (hb : (Region.noSelect ops && Region.free .any ops listed i && (Region.ready .any ops listed).contains i) = true)
    (hg : oi.guard = none) (hdt : oi.dst = dt) (hS : S w)
    (h : wpAnyH P .any ops (NoPanic Q) S fuel (listed.setIfInBounds i true) (a.put dt v) w) : wpAnyH P .any ops (NoPanic Q) S (fuel + 1) listed a w :=
  tk i dt v hi hb hg hdt hS (fun w _ => by simp [execOp, ho, hx]) h
/-- one of those that may come up -/
theorem arc (i : Nat) {o : Oper} {rs : List Nat} (ho : ops[i]? = some o) (hg : o.guard = none)
    (h : ∀ K : Act → World → Prop, Shut (∀ a w, S w → wpAnyH P .any ops (NoPanic Q) S fuel (listed.setIfInBounds i true) a w → K a w) → Oper.wp P o a w K (NoPanic Q))
    (hs : AllReadyH P .any ops (NoPanic Q) S fuel listed a w rs) : AllReadyH P .any ops (NoPanic Q) S fuel listed a w (i :: rs) := by
  refine AllReadyH.cons ho (fun K hK => ?_) hs
  rw [if_pos (by simp [Region.wanted, hg])]
  exact h K (fun a w hS hW => hK a w hS (fun _ => hW))
end
end Go.Proofs.YtaoehkoffhnidaaDoor.Dg
namespace Go.Proofs.YtaoehkoffhnidaaDoor.Dg
open Go.RowKit Go
set_option linter.unusedVariables false
set_option linter.unusedSimpArgs false
structure WA (P : Program) (ops : Array Oper) (Q : Exit → Act → World → Prop) (S : World → Prop) (fuel : Nat) (listed : Array Bool) (a : Act) (w : World) : Prop where
  out : wpAnyH P .any ops (NoPanic Q) S fuel listed a w
structure AR (P : Program) (ops : Array Oper) (Q : Exit → Act → World → Prop) (S : World → Prop) (fuel : Nat) (listed : Array Bool) (a : Act) (w : World) (rs : List Nat) : Prop where
  out : AllReadyH P .any ops (NoPanic Q) S fuel listed a w rs
section
variable {P : Program} {ops : Array Oper} {Q : Exit → Act → World → Prop} {S : World → Prop} {fuel : Nat} {listed : Array Bool} {a : Act} {w : World}
theorem wa_start {id : Nat} (hm : P.follows .mixedOrders = true) (hS : S w.drew)
    (h : WA P ops Q S ops.size (Array.replicate ops.size false) a w.drew) : (Code.region id ops true).wp P Q a w :=
  wp_region_noPanic (wp_region_held_drew hm hS (fun _ => h.out))
theorem wa_done (hr : (Region.ready .any ops listed).isEmpty = true) (h : Q .normal a w) : WA P ops Q S fuel listed a w :=
  ⟨wpAnyH_done (by simpa using hr) (NoPanic.normal h) _⟩
theorem wa_branch (rs : List Nat) (hr : Region.ready .any ops listed = rs) (hne : rs.isEmpty = false) (h : AR P ops Q S fuel listed a w rs) : WA P ops Q S (fuel + 1) listed a w :=
  ⟨wpAnyH_ready hr (by intro e; rw [e] at hne; simp at hne) h.out⟩
theorem ar_nil : AR P ops Q S fuel listed a w [] := ⟨AllReadyH.nil⟩
theorem ar_op (i : Nat) {o : Oper} {rs : List Nat} (ho : ops[i]? = some o) (hg : o.guard = none)
    (h : ∀ K : Act → World → Prop, Shut (∀ a w, S w → WA P ops Q S fuel (listed.setIfInBounds i true) a w → K a w) → Oper.wp P o a w K (NoPanic Q))
    (hs : AR P ops Q S fuel listed a w rs) : AR P ops Q S fuel listed a w (i :: rs) :=
  ⟨arc i ho hg (fun K hK => h K (fun a w hS hW => hK a w hS hW.out)) hs.out⟩
theorem wa_tk (i : Nat) (dt : Option Tmp) {oi : Oper} (v : Value) (hi : ops[i]? = some oi) (hb : (Region.noSelect ops && Region.free .any ops listed i && (Region.ready .any ops listed).contains i) = true)
    (hg : oi.guard = none) (hdt : oi.dst = dt) (hS : S w) (hy : ∀ w, S w → (execOp a.eval oi).run P w = .ok (.value v) w)
    (h : WA P ops Q S fuel (listed.setIfInBounds i true) (a.put dt v) w) : WA P ops Q S (fuel + 1) listed a w := ⟨tk i dt v hi hb hg hdt hS hy h.out⟩
theorem wa_move (i : Nat) (dt : Option Tmp) {oi : Oper} (x : Operand) (v : Value) (hi : ops[i]? = some oi) (ho : oi.op = .move x) (hx : a.eval x = v) (hb : (Region.noSelect ops && Region.free .any ops listed i && (Region.ready .any ops listed).contains i) = true)
    (hg : oi.guard = none) (hdt : oi.dst = dt) (hS : S w)
    (h : WA P ops Q S fuel (listed.setIfInBounds i true) (a.put dt v) w) : WA P ops Q S (fuel + 1) listed a w := ⟨tk_move i dt x v hi ho hx hb hg hdt hS h.out⟩
theorem wa_load (i : Nat) (dt : Option Tmp) {oi : Oper} (ty : TypeId) (x : Operand) (hi : ops[i]? = some oi) (ho : oi.op = .load ty x) (b o : Nat) (hx : a.eval x = .pointer (some ⟨b, o, none⟩)) (cs : List Value) (d : TypeDesc) (hc : ∀ w, S w → w.rangeAt b o cs)
    (hu : P.underlying ty = some d) (hd : d.isRow = true) (hs : (P.info? ty).map (·.size) = some cs.length) (hb : (Region.noSelect ops && Region.free .any ops listed i && (Region.ready .any ops listed).contains i) = true)
    (hg : oi.guard = none) (hdt : oi.dst = dt) (hS : S w)
    (h : WA P ops Q S fuel (listed.setIfInBounds i true) (a.put dt (.agg cs.toArray)) w) : WA P ops Q S (fuel + 1) listed a w := ⟨tk_load i dt ty x hi ho b o hx cs d hc hu hd hs hb hg hdt hS h.out⟩
theorem wa_ext (i : Nat) (dt : Option Tmp) {oi : Oper} (x : Operand) (k : Nat) (vs : Array Value) (v : Value) (hi : ops[i]? = some oi) (ho : oi.op = .extract x k) (hx : a.eval x = .tuple vs) (hv : vs[k]? = some v) (hb : (Region.noSelect ops && Region.free .any ops listed i && (Region.ready .any ops listed).contains i) = true)
    (hg : oi.guard = none) (hdt : oi.dst = dt) (hS : S w)
    (h : WA P ops Q S fuel (listed.setIfInBounds i true) (a.put dt v) w) : WA P ops Q S (fuel + 1) listed a w := ⟨tk_ext i dt x k vs v hi ho hx hv hb hg hdt hS h.out⟩
theorem wa_asg (i : Nat) (dt : Option Tmp) {oi : Oper} (x : Operand) (v : Value) (hi : ops[i]? = some oi) (ho : oi.op = .assign x) (hx : a.eval x = v) (hb : (Region.noSelect ops && Region.free .any ops listed i && (Region.ready .any ops listed).contains i) = true)
    (hg : oi.guard = none) (hdt : oi.dst = dt) (hS : S w)
    (h : WA P ops Q S fuel (listed.setIfInBounds i true) (a.put dt v) w) : WA P ops Q S (fuel + 1) listed a w := ⟨tk_asg i dt x v hi ho hx hb hg hdt hS h.out⟩
end
end Go.Proofs.YtaoehkoffhnidaaDoor.Dg

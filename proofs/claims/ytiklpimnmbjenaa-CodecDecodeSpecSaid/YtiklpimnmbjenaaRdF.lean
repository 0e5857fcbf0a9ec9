/- The values that the reference's Value has read of a list: a row of the call's own. -/
import Derived.Test.YtiklpimnmbjenaaRdE
import Derived.Deep.AppendLies
namespace Go.Proofs.Ytiklpimnmbjenaa
open Go.RowKit Go
set_option linter.unusedVariables false
set_option linter.unusedSimpArgs false
/-- values in a row of the call's own, through blocks from 'base' on -/
def Vs (w : World) (base : Nat) (v : Value) (ts : List T) : Prop :=
  ∃ cs : List Value, w.ownsRow base 24 4 v ts.length cs ∧ ∀ i t, ts[i]? = some t → ∃ c0 c1 c2 c3, cs[i * 4]? = some c0 ∧ cs[i * 4 + 1]? = some c1 ∧ cs[i * 4 + 2]? = some c2 ∧ cs[i * 4 + 3]? = some c3 ∧
    AtP w (fun k => base ≤ k ∧ k < w.heap.size ∧ v.ownBlock ≠ some k) t (.agg #[c0, c1, c2, c3])
theorem Vs.nil (w : World) (base : Nat) : Vs w base (.slice none 0 0) [] := ⟨[], World.ownsRow_nil w base 24 4, by intro i t h; simp at h⟩
theorem Vs.grown {w w' : World} {base b : Nat} {v : Value} {ts : List T} (h : Vs w base v ts) (hg : w.grownBy w' (some b)) (hb : b < base) : Vs w' base v ts := by
  obtain ⟨cs, h1, h2⟩ := h
  refine ⟨cs, h1.kept hg ?_, fun i t ht => ?_⟩
  · cases hv : v.ownBlock with
    | none => exact .inl rfl
    | some k => right; have := (h1.lt k hv).1; simp; omega
  · obtain ⟨c0, c1, c2, c3, e0, e1, e2, e3, ha⟩ := h2 i t ht
    exact ⟨c0, c1, c2, c3, e0, e1, e2, e3, AtP.kept (fun k hk => ⟨⟨hk.1, Nat.lt_of_lt_of_le hk.2.1 hg.size, hk.2.2⟩, hg.block k hk.2.1 (by simp; omega)⟩) ha⟩
theorem Vs.lt {w : World} {base : Nat} {v : Value} {ts : List T} (h : Vs w base v ts) : ∀ k, v.ownBlock = some k → base ≤ k ∧ k < w.heap.size := by
  obtain ⟨cs, h1, _⟩ := h
  exact h1.lt
theorem Vs.form {w : World} {base : Nat} {v : Value} {ts : List T} (h : Vs w base v ts) : ∃ p cap, v = .slice p ts.length cap := by
  obtain ⟨cs, h1, _⟩ := h
  rcases h1.2 with ⟨rfl, h⟩ | ⟨g, cap, cur, rfl, _⟩
  · exact ⟨none, 0, by rw [h]⟩
  · exact ⟨_, _, rfl⟩
theorem Vs.at {w : World} {base : Nat} {p : Option Addr} {len cap : Nat} {ts : List T} (h : Vs w base (.slice p len cap) ts) {P : Nat → Prop} (hP : ∀ k, base ≤ k → k < w.heap.size → P k) :
    AtP w P (T.mk 3 0 ⟨#[]⟩ ts) (.agg #[.int .i64 3, .int .i64 0, .string ⟨#[]⟩, .slice p len cap]) := by
  have hlt := h.lt
  obtain ⟨cs, h1, h2⟩ := h
  have hc := fun g (hg : (Value.slice p len cap).ownBlock = some g) => h1.cells hg
  rw [AtP]
  refine ⟨⟨by unfold wfI; omega, by unfold wfI; omega⟩, Nat.zero_le _, ?_⟩
  rcases h1.2 with ⟨hv, hl⟩ | ⟨g, cap', cur, hv, hb, hg, hn, hm, hs, htk⟩
  · simp only [Value.slice.injEq] at hv
    obtain ⟨rfl, rfl, rfl⟩ := hv
    exact ⟨none, 0, by rw [hl], by omega, by omega, 0, 0, fun hne => absurd (List.eq_nil_of_length_eq_zero hl) hne, fun i hi => by omega⟩
  · simp only [Value.slice.injEq] at hv
    obtain ⟨rfl, rfl, rfl⟩ := hv
    refine ⟨some ⟨g, 0, none⟩, cap, rfl, hn, by unfold maxLen at hm; omega, g, 0, fun _ => ⟨rfl, hP g hb (hlt g rfl).2⟩, fun i hi => ?_⟩
    obtain ⟨c0, c1, c2, c3, e0, e1, e2, e3, ha⟩ := h2 i ts[i] (List.getElem?_eq_getElem hi)
    have hcc : ∀ j u, cs[j]? = some u → w.cell? ⟨g, 0 + j, none⟩ = some u := by
      intro j u hj
      have := hc g rfl j u hj
      have hadd : (⟨g, 0, none⟩ : Addr).add j = ⟨g, 0 + j, none⟩ := by unfold Addr.add; split <;> simp_all
      rw [← hadd]; exact this
    exact ⟨c0, c1, c2, c3, AtP.kept (fun k hk => ⟨hP k hk.1 hk.2.1, rfl⟩) ha, hcc _ _ e0, hcc _ _ e1, hcc _ _ e2, hcc _ _ e3⟩
theorem info24s : (Try.prog.info? 24).map (fun i => (i.zero.map (fun z => z.cells.size), i.size, i.bytes)) = some (some 4, 4, 56) := by kernel_rfl
theorem Vs.push {w : World} {base : Nat} {v : Value} {ts : List T} {k' n' : Int} {s : ByteArray} {p : Option Addr} {len cap : Nat} (h : Vs w base v ts)
    (hn : ts.length ≤ 100000000) (hb : base ≤ w.heap.size) :
    ∃ g cap2 w', (Builtin.append_ #[22, 22] 22 #[v, .slice (some ⟨w.heap.size, 0, none⟩) 1 1]).run Try.prog (w.alloc (.cells #[.int .i64 k', .int .i64 n', .string s, .slice p len cap] 24)) = .ok (.slice (some ⟨g, 0, none⟩) (ts.length + 1) cap2) w' ∧
      (∀ t, AtP w (fun k => base ≤ k ∧ k < w.heap.size ∧ v.ownBlock ≠ some k) t (.agg #[.int .i64 k', .int .i64 n', .string s, .slice p len cap]) → Vs w' base (.slice (some ⟨g, 0, none⟩) (ts.length + 1) cap2) (ts ++ [t])) ∧ Below base w w' := by
  obtain ⟨cs, h1, h2⟩ := h
  have hlt := h1.lt
  obtain ⟨i, hi, hf⟩ := Option.map_eq_some_iff.1 info24s
  simp only [Prod.mk.injEq] at hf
  obtain ⟨hz, hs, hby⟩ := hf
  obtain ⟨z, hz, hzs⟩ := Option.map_eq_some_iff.1 hz
  obtain ⟨W, hW⟩ : ∃ W, W = w.alloc (.cells #[.int .i64 k', .int .i64 n', .string s, .slice p len cap] 24) := ⟨_, rfl⟩
  have hgW : w.grownBy W none := by rw [hW]; exact World.grownBy_alloc _ _ _
  have hblk : W.heap[w.heap.size]? = some (.cells #[.int .i64 k', .int .i64 n', .string s, .slice p len cap] 24) := by rw [hW]; exact heap_alloc_new w _
  rw [← hW]
  have hsz : W.heap.size = w.heap.size + 1 := by rw [hW]; simp
  have hown : W.ownsRow base 24 4 v ts.length cs := h1.kept hgW (by cases v.ownBlock <;> simp)
  obtain ⟨g, cap2, w', hr, h3, h4, h5, h6⟩ := run_append_lies (P := Try.prog) W 22 22 base 24 i z 4 56 Try.underlying22 hi hz hs hby hzs (by omega) v ts.length cs hown ⟨w.heap.size, 0, none⟩ 1 1 [.int .i64 k', .int .i64 n', .string s, .slice p len cap] rfl
    (by
      intro j u hj
      have hadd : (⟨w.heap.size, 0, none⟩ : Addr).add j = ⟨w.heap.size, j, none⟩ := by unfold Addr.add; split <;> simp_all
      rw [hadd]
      simp only [World.cell?, hblk]
      simpa using hj)
    (by intro u hu; simp at hu; rcases hu with rfl | rfl | rfl | rfl <;> rfl) (by omega) (by unfold maxLen; omega) (by omega) (by omega) _ rfl
  have hkeep : ∀ k, k < w.heap.size → v.ownBlock ≠ some k → w'.heap[k]? = w.heap[k]? := fun k hk hne => (h4.block k (by omega) (fun e => hne e.symm)).trans (hgW.block k hk (by simp))
  have hcl := h1.1
  have hnew : ∀ k, k < w.heap.size → v.ownBlock ≠ some k → (Value.slice (some ⟨g, 0, none⟩) (ts.length + 1) cap2).ownBlock ≠ some k := by
    intro k hk hne
    show some g ≠ some k
    rcases h5 with h5 | h5
    · rw [← h5]; exact hne
    · simp; omega
  have hup : ∀ {t v'}, AtP w (fun k => base ≤ k ∧ k < w.heap.size ∧ v.ownBlock ≠ some k) t v' → AtP w' (fun k => base ≤ k ∧ k < w'.heap.size ∧ (Value.slice (some ⟨g, 0, none⟩) (ts.length + 1) cap2).ownBlock ≠ some k) t v' :=
    fun ha => AtP.kept (fun k hk => ⟨⟨hk.1, by have := h4.size; omega, hnew k hk.2.1 hk.2.2⟩, hkeep k hk.2.1 hk.2.2⟩) ha
  refine ⟨g, cap2, w', hr, fun t ha => ⟨cs ++ [.int .i64 k', .int .i64 n', .string s, .slice p len cap], by simpa using h3, ?_⟩, ?_⟩
  · intro j u hj
    by_cases hlt : j < ts.length
    · rw [List.getElem?_append_left hlt] at hj
      obtain ⟨c0, c1, c2, c3, e0, e1, e2, e3, hu⟩ := h2 j u hj
      refine ⟨c0, c1, c2, c3, ?_, ?_, ?_, ?_, hup hu⟩
      all_goals rw [List.getElem?_append_left (by omega)]; assumption
    · have hjl : j = ts.length := by
        have := (List.getElem?_eq_some_iff.1 hj).1
        simp at this; omega
      subst hjl
      simp at hj; subst hj
      refine ⟨.int .i64 k', .int .i64 n', .string s, .slice p len cap, ?_, ?_, ?_, ?_, hup ha⟩
      all_goals rw [List.getElem?_append_right (by omega), hcl]
      · simp
      · rw [show ts.length * 4 + 1 - ts.length * 4 = 1 from by omega]; rfl
      · rw [show ts.length * 4 + 2 - ts.length * 4 = 2 from by omega]; rfl
      · rw [show ts.length * 4 + 3 - ts.length * 4 = 3 from by omega]; rfl
  · exact ((Below.refl base w).grown hgW hb (by simp)).grown h4 (by omega) (fun k hk => (hlt k hk).1)
end Go.Proofs.Ytiklpimnmbjenaa

/- Contracts: maps.Keys and its iterator; slices.Collect and slices.SortedFunc of keys. -/
import Derived.Test.YtbejjindkcjecaaP
import Derived.Shelf.SlIter.Stops
import Derived.Shelf.SlSortCmp.NoneTotal
namespace Go.Proofs.Ytbejjindkcjecaa
open Go.RowKit Go Go.Shelf
set_option linter.unusedVariables false
set_option linter.unusedSimpArgs false
attribute [local go_sem] Oper.semAt_some
/-- the keys that have come -/
def Coll (D : DataW Value) (left : Lit → Bool) (ss : List KE) : Prop := ss.Nodup ∧ (∀ k ∈ ss, kwf k) ∧ ∀ k l, keyOf Try.prog 24 (KV k) = some l → (k ∈ ss ↔ Go.Maps.has D l = true ∧ left l = false)
theorem coll_start (D : DataW Value) : Coll D (Go.Maps.has D) [] := ⟨List.nodup_nil, fun _ h => by simp at h, fun k l _ => by simp⟩
theorem kv_inj {a b : KE} (h : KV a = KV b) : a = b := by
  simp only [Value.agg.injEq, Array.mk.injEq, List.cons.injEq, Value.int.injEq, true_and, and_true] at h
  exact Prod.ext h.1 (Prod.ext h.2.1 h.2.2)
theorem coll_step {D : DataW Value} {left : Lit → Bool} {ss : List KE} {x : KE} {kl : Lit} (h : Coll D left ss) (hk : keyOf Try.prog 24 (KV x) = some kl) (hl : left kl = true) (hh : Go.Maps.has D kl = true) :
    Coll D (fun z => left z && !z.sameKey kl) (ss ++ [x]) := by
  obtain ⟨h1, h2, h3⟩ := h
  have hx : x ∉ ss := fun e => by
    have := ((h3 x kl hk).1 e).2
    rw [hl] at this; cases this
  refine ⟨List.nodup_append.2 ⟨h1, by simp, fun a ha b hb e => by simp at hb; subst hb; subst e; exact hx ha⟩, fun k hk' => ?_, fun k l hkl => ?_⟩
  · rcases List.mem_append.1 hk' with e | e
    · exact h2 k e
    · simp at e; subst e
      obtain ⟨k', e1, e2⟩ := key_inv hk
      rw [kv_inj e1]; exact e2
  · rw [List.mem_append, h3 k l hkl]
    by_cases e : k = x
    · subst e
      rw [hk] at hkl; cases hkl
      constructor
      · intro _
        exact ⟨hh, by show (left kl && !kl.sameKey kl) = false; rw [WideAt.sameKey_self (keyed24.key hk)]; simp⟩
      · intro _; exact .inr (by simp)
    · have hne : l ≠ kl := fun e2 => e (key_inj hkl (by rw [e2]; exact hk))
      have hs : l.sameKey kl = false := Go.Maps.sameKey_ne hne
      show _ ↔ Go.Maps.has D l = true ∧ (left l && !l.sameKey kl) = false
      simp only [List.mem_singleton, e, or_false, hs, Bool.not_false, Bool.and_true]
set_option maxRecDepth 100000 in
set_option maxHeartbeats 2000000 in
theorem keys1_in (n : Nat) (hn : 1 ≤ n) (l Bm b nn : Nat) (D0 : DataW Value) (J Jx : List KE → World → Prop)
    (hY : ∀ pre x W, J pre W → pre.length < Go.Maps.size D0 → YieldAt Fence.wide (n - 1) Try.prog l #[KV x] W fun e W' =>
      (e = .returned (.bool true) ∧ J (pre ++ [x]) W' ∧ KeepsWalks W W') ∨ (e = .returned (.bool false) ∧ Jx (pre ++ [x]) W'))
    (W : World) (hJ : AbidesFrom W.heap.size J) (hm : W.cell? ⟨Bm, 0, none⟩ = some (.map (some b))) (hown : W.ownsMap Try.prog 24 R0 b nn D0) (h0 : J [] W) :
    CallsIn Fence.wide n Try.prog 57 #[.func (.yield l) #[] #[], .pointer (some ⟨Bm, 0, none⟩)] W fun e W' => (∃ v, e = .returned v) ∧
      ((∃ ss : List KE, (ss.Nodup ∧ (∀ k ∈ ss, kwf k) ∧ ∀ k l, keyOf Try.prog 24 (KV k) = some l → (k ∈ ss ↔ Go.Maps.has D0 l = true)) ∧ J ss W') ∨ (∃ pre : List KE, True ∧ Jx pre W')) := by
  refine callsIn_of_wp Try.func57 rfl trivial ?_ rfl
  simp only [Try.ntmps57, List.size_toArray, List.length_cons, List.length_nil, Nat.reduceAdd, Nat.reduceSub, Array.replicate_succ, Array.replicate_zero, List.push_toArray, List.append_toArray, List.nil_append, List.cons_append]
  gi_wp2_with (first
    | (gi_at_range; refine wpListIn_range_own _ rfl _ 71 rfl 24 22 keyed24 Try.underlying71 _ b nn _ rfl hown ?_; intro w0 hrg0 hg0 hs0)
    | gi_in)
  go_frame
  gi_loopw [3] (fun _ wr => ∃ (left : Lit → Bool) (cnt : Nat) (ss : List KE), wr.ranges Try.prog 24 R0 b W.heap.size nn D0 left cnt ∧ ss.length + cnt ≤ Go.Maps.size D0 ∧ Coll D0 left ss ∧ J ss wr)
    (fun _ wr => wr.rangeLeft b W.heap.size)
  case atStart =>
    exact ⟨_, _, [], hrg0, by simp, coll_start D0, hJ [] W w0 none h0 hg0 (fun r e => by cases e)⟩
  case round =>
    obtain ⟨left, cnt, ss, hrg, hcs, hC, hJs⟩ := hrel
    gi_wp2_with (first
      | (gi_at_next; refine wpListIn_next_ranges _ rfl _ rfl 24 keyed24 R0 (fun k : KE => KV k) id (fun key kl hk => by obtain ⟨x, hx, _⟩ := key_inv hk; exact ⟨x, hx⟩) (fun v _ _ => ⟨v, rfl⟩) b W.heap.size nn _ _ _ rfl hrg ?_ ?_)
      | gi_in)
    · intro hc0 hl0
      gi_wp2
      go_end0
      exact ⟨⟨_, rfl⟩, .inl ⟨ss, ⟨hC.1, hC.2.1, fun k l hk => by rw [hC.2.2 k l hk, hl0]; simp⟩, hJs⟩⟩
    · intro x1 x2 x3 c kl yd yp w2 cnt2 hkey hlk hv hat hrg2 hlt hg2 hs2 hen
      have hJ2 : J ss w2 := hJ ss wr w2 (some W.heap.size) hJs hg2 (fun r e => by cases e; exact ⟨Nat.le_refl _, hrg.iter_walk⟩)
      have hJ3 : J ss (w2.alloc (.cells #[.int .i64 x1, .int .i64 x2, .int .i64 x3] 24)) := hJ ss w2 _ none hJ2 (World.grownBy_alloc w2 _ none) (fun r e => by cases e)
      obtain ⟨fn, tmps, assign, body, hy, hR⟩ := hY ss (x1, x2, x3) _ hJ3 (by omega)
      have HR := hid hR
      have hC2 := hid (coll_step hC hkey hlk (Go.Maps.has_true_of_atKey hat))
      have hrg3 := hid (hrg2.alloc (.cells #[.int .i64 x1, .int .i64 x2, .int .i64 x3] 24))
      clear hs2 hR
      gi_wp2
      refine HR.out.mono ?_
      rintro e W3 (⟨rfl, hJ3, hk3⟩ | ⟨rfl, hJx3⟩)
      · have hrg4 := hrg3.out.of_walks hk3
        have HJ3 := hid hJ3
        clear hJ3 hk3
        gi_wp2
        go_roundw
        case rel => exact ⟨_, cnt2, ss ++ [(x1, x2, x3)], hrg4, by simp; omega, hC2.out, HJ3.out⟩
        case measure => rw [hrg4.left_eq, hrg.left_eq]; exact hlt
      · gi_wp2
        refine bodyPost_ret (results_none rfl _ _ _) rfl ?_
        exact ⟨⟨_, rfl⟩, .inr ⟨ss ++ [(x1, x2, x3)], trivial, hJx3⟩⟩
/-- a list of just the keys that the map holds -/
def KeysOf (M : KE → Option Value) (ks : List KE) : Prop := ks.Nodup ∧ (∀ k ∈ ks, kwf k) ∧ ∀ k, kwf k → (k ∈ ks ↔ M k ≠ none)
theorem keys_stops (n : Nat) (hn : 1 ≤ n) (Bm b nn : Nat) (M : KE → Option Value) (w : World) (hBm : Bm < w.heap.size) (hm : w.cell? ⟨Bm, 0, none⟩ = some (.map (some b))) (hown : MK w b nn M) :
    SeqStopsK Fence.wide n Try.prog 57 #[.pointer (some ⟨Bm, 0, none⟩)] (fun x : KE => #[KV x]) KeepsWalks (fun ss => KeysOf M ss) (fun _ => True) nn w := fun l J Jx W hW hJ _ hY h0 => by
  obtain ⟨D, h1, h2⟩ := hown
  have hown' : W.ownsMap Try.prog 24 R0 b nn D := by
    have hbl := h1.lt
    obtain ⟨es, clock, hb, Ft, hs, hD⟩ := h1
    exact ⟨es, clock, (hW.block b hbl).trans hb, Ft, hs, hD⟩
  refine (keys1_in n hn l Bm b nn D J Jx (fun pre x W' h3 h4 => hY pre x W' h3 (Nat.lt_of_lt_of_le h4 hown'.size_le)) W hJ ((hW.cell (p := ⟨Bm, 0, none⟩) hBm).trans hm) hown' h0).mono ?_
  rintro e W' ⟨h3, ⟨ss, ⟨h4, h5, h6⟩, h7⟩ | ⟨pre, _, h7⟩⟩
  · refine ⟨h3, .inl ⟨ss, ⟨h4, h5, fun k hk => ?_⟩, h7⟩⟩
    obtain ⟨l', hl'⟩ := key_of hk
    rw [h6 k l' hl']
    rcases h2 k l' hl' with ⟨h8, h9⟩ | ⟨u, h8, h9, _⟩
    · rw [h8, h9]; simp
    · rw [h8, h9]; simp
  · exact ⟨h3, .inr ⟨pre, trivial, h7⟩⟩
theorem keys_any (b : Nat) (w : World) : Calls Try.prog 41 #[.map (some b)] w fun e w' => e = .returned (.func (.func 57) #[] #[.pointer (some ⟨w.heap.size, 0, none⟩)]) ∧ w' = w.alloc (.cells #[.map (some b)] 71) := by
  have hmf : ∀ (fn : Fn) (first cap : Array Value) (w : World), (Instr.makeFunc fn first cap).run Try.prog w = .ok (.func fn first cap) w := fun _ _ _ _ => rfl
  go_enter Try.func41, Try.ntmps41
  go_wp2
  go_ret
  exact ⟨rfl, rfl⟩
theorem collect_keys (Bm b nn : Nat) (M : KE → Option Value) (w : World) (hBm : Bm < w.heap.size) (hm : w.cell? ⟨Bm, 0, none⟩ = some (.map (some b))) (hown : MK w b nn M) (hnn : nn ≤ 1000000) :
    Calls Try.prog 55 #[.func (.func 57) #[] #[.pointer (some ⟨Bm, 0, none⟩)]] w fun e w' => ∃ v ks, e = .returned v ∧ KeysOf M ks ∧ KO w' w.heap.size v ks ∧ Below w.heap.size w w' := by
  have hc := appendSeq_keys 57 #[.pointer (some ⟨Bm, 0, none⟩)] KeepsWalks (fun ss => KeysOf M ss) (fun _ => True) nn w
    (fun n hn => keys_stops n hn Bm b nn M (w.alloc (.cells #[.slice none 0 0] 37)) (by simp; omega) (cell_alloc_l _ hm) (hown.alloc _))
    walksK_t (fun W l o o' h1 h2 h3 h4 => walksK_b (w := w) W l o o' h1 h2 h3 h4) (fun W W' h _ => h.walks) (enters_of Try.func57 (by kernel_rfl) rfl) hnn
  have HC := hid hc
  clear hc hm hown
  go_enter Try.func55, Try.ntmps55
  go_wp2_with fail
  refine HC.out.mono ?_
  rintro e w1 ⟨v, ks, rfl, h0, h1, h2⟩
  have H0 := hid h0; have H1 := hid h1; have H2 := hid h2
  clear h0 h1 h2
  go_wp2
  go_ret
  exact ⟨v, ks, rfl, H0.out, H1.out, H2.out⟩
theorem okey_lt {a b : KE} : okey a b < 0 ↔ F7.kl a b := by
  obtain ⟨a1, a2, a3⟩ := a
  obtain ⟨b1, b2, b3⟩ := b
  unfold okey F7.kl orl orl orl orl cmpI
  dsimp only
  repeat' split
  all_goals omega
theorem lt_okey {a b : KE} : Go.Proofs.ltOf okey a b = true ↔ F7.kl a b := by unfold Go.Proofs.ltOf; rw [decide_eq_true_iff]; exact okey_lt
theorem lt_okey' {a b : KE} : Go.Proofs.ltOf okey a b = false ↔ ¬ F7.kl a b := by rw [← lt_okey]; simp
theorem okey_swo : Go.Sort.SWO (Go.Proofs.ltOf okey) where
  irrefl x := by rw [lt_okey']; exact F7.kl_irrefl x
  trans x y z h1 h2 := by rw [lt_okey] at *; exact F7.kl_trans h1 h2
  ntrans x y z h1 h2 := by
    rw [lt_okey'] at *
    intro h3
    rcases F7.kl_total x y with e | e | e
    · exact h1 e
    · subst e; exact h2 h3
    · exact h2 (F7.kl_trans e h3)
theorem cmp_keys (blk off size : Nat) (w : World) : Go.Proofs.CmpLays Try.prog 42 #[] kc 3 okey blk off size w := fun _ _ _ _ x y => okey_any x y _
theorem sortKeys_any (v : Value) (ks : List KE) (w : World) (base : Nat) (h : KO w base v ks) (hb : base ≤ w.heap.size) (hn : ks.length ≤ 1000000) (hnd : ks.Nodup) :
    Calls Try.prog 56 #[v, .func (.func 42) #[] #[]] w fun e w' => e = .returned (.tuple #[]) ∧ ∃ ks', KS w' v ks' ∧ ks'.Perm ks ∧ ks'.Pairwise F7.kl ∧ Below base w w' := by
  have h2 := h.2
  rcases h2 with ⟨rfl, hl⟩ | ⟨g, cap, cur, rfl, hbg, hg, hnc, hm, hs, ht⟩
  · obtain rfl := List.eq_nil_of_length_eq_zero hl
    refine (AnyF.slices_SortFunc_none { Try.sortK with } none 0 _ w).mono ?_
    rintro e w' ⟨rfl, hw⟩
    subst hw
    exact ⟨rfl, [], .inl ⟨rfl, rfl⟩, List.Perm.refl _, List.Pairwise.nil, Below.refl _ _⟩
  · have hlt : g < w.heap.size := (Array.getElem?_eq_some_iff.1 hg).1
    have hsz : ks.toArray.size = ks.length := by simp
    have hc := AnyQ.slices_SortFunc Try.sortK 3 Try.isAgg24 Try.sizeOf24 kc kc_len kc_one okey okey_swo 42 #[] g 0 cap ks.toArray w (enters_of Try.func42 (by kernel_rfl) rfl) (cmp_keys _ _ _ _) (h.holds kc_len) hlt (by omega)
    change Calls Try.prog 56 _ _ _ at hc
    rw [hsz] at hc
    refine hc.mono ?_
    rintro e w' ⟨rfl, d', m, os, hp, hso, rfl⟩
    have hds : d'.size = ks.length := by rw [hp.1, hsz]
    obtain ⟨g1, g2⟩ := sorted_gs kc_len h hb m d' os hds
    have hperm : d'.toList.Perm ks := by
      have h3 := hp.2.2
      rw [Array.extract_eq_self_of_le (by omega), Array.extract_eq_self_of_le (by omega)] at h3
      simpa using h3
    refine ⟨rfl, d'.toList, g1, hperm, ?_, g2⟩
    have hnd' := hperm.symm.nodup hnd
    rw [List.pairwise_iff_getElem]
    intro i j hi hj hij
    have hi' : i < d'.size := by simpa using hi
    have hj' : j < d'.size := by simpa using hj
    have h4 := hso i j (Nat.zero_le _) hij (by omega)
    rw [getElem!_pos d' i hi', getElem!_pos d' j hj', lt_okey'] at h4
    have h5 : d'[i] ≠ d'[j] := fun e => by
      have := List.pairwise_iff_getElem.1 hnd' i j hi hj hij
      exact this (by simpa using e)
    rcases F7.kl_total d'[i] d'[j] with e | e | e
    · simpa using e
    · exact absurd e h5
    · exact absurd e h4
/-- slices.SortedFunc of a map's keys -/
theorem sortedKeys_any (Bm b nn : Nat) (M : KE → Option Value) (w : World) (hBm : Bm < w.heap.size) (hm : w.cell? ⟨Bm, 0, none⟩ = some (.map (some b))) (hown : MK w b nn M) (hnn : nn ≤ 1000000) (hks : ∀ ks, KeysOf M ks → ks.length ≤ 1000000) :
    Calls Try.prog 40 #[.func (.func 57) #[] #[.pointer (some ⟨Bm, 0, none⟩)], .func (.func 42) #[] #[]] w fun e w' =>
      ∃ v ks, e = .returned v ∧ KS w' v ks ∧ ks.Pairwise F7.kl ∧ (∀ k ∈ ks, kwf k) ∧ (∀ k, kwf k → (k ∈ ks ↔ M k ≠ none)) ∧ Below w.heap.size w w' := by
  have HC := hid (collect_keys Bm b nn M w hBm hm hown (by omega))
  have HK := hid hks
  clear hm hown hks
  go_enter Try.func40, Try.ntmps40
  go_wp2_with fail
  refine HC.out.mono ?_
  rintro e w1 ⟨v, ks, rfl, h0, h1, h2⟩
  have H0 := hid h0; have H1 := hid h1; have H2 := hid h2
  clear h0 h1 h2
  go_wp2_with fail
  refine (sortKeys_any v ks w1 w.heap.size H1.out H2.out.size (HK.out _ H0.out) H0.out.1).mono ?_
  rintro e w2 ⟨rfl, ks', g1, g2, g3, g4⟩
  have G1 := hid g1; have G2 := hid g2; have G3 := hid g3; have G4 := hid g4
  clear g1 g2 g3 g4
  go_wp2
  go_ret
  exact ⟨v, ks', rfl, G1.out, G3.out, fun k hk => H0.out.2.1 k (G2.out.mem_iff.1 hk), fun k hk => (G2.out.mem_iff).trans (H0.out.2.2 k hk), H2.out.trans G4.out⟩
end Go.Proofs.Ytbejjindkcjecaa

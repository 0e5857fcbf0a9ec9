/- Contracts: slices.Collect of facts; the sort by insertion, the stable sort of at most 20 facts; slices.SortedStableFunc. -/
import Derived.Test.YtbejjindkcjecaaI
import Derived.Test.YtbejjindkcjecaaSp
import Derived.Test.YtbejjindkcjecaaShelf
namespace Go.Proofs.Ytbejjindkcjecaa
open Go.RowKit Go Go.Shelf
set_option linter.unusedVariables false
set_option linter.unusedSimpArgs false
theorem collect_facts (B1 B2 B3 : Nat) (p : Option Addr) (c m : Nat) (L : List FA) (hL : m = L.length) (hm : m ≤ 1000000) (k : KE) (q : Int) (w : World) (k1 : B1 < w.heap.size) (k2 : B2 < w.heap.size) (k3 : B3 < w.heap.size)
    (c1 : w.cell? ⟨B1, 0, none⟩ = some (.slice p m c)) (c2 : Kq B2 B3 k q w) (hR : FR p w.heap.size L w) :
    Calls Try.prog 61 #[.func (.func 52) #[] #[.pointer (some ⟨B1, 0, none⟩), .pointer (some ⟨B2, 0, none⟩), .pointer (some ⟨B3, 0, none⟩)]] w fun e w' => ∃ v, e = .returned v ∧ FO w' w.heap.size v (sel k q L) ∧ Below w.heap.size w w' := by
  have hc := appendSeq_facts 52 #[.pointer (some ⟨B1, 0, none⟩), .pointer (some ⟨B2, 0, none⟩), .pointer (some ⟨B3, 0, none⟩)] (KpN (fun j => j < w.heap.size)) (fun zs => zs = sel k q L) (fun pre => pre <+: sel k q L) m w
    (fun n hn => of_stops n hn B1 B2 B3 w.heap.size (fun j => j < w.heap.size) (fun j hj => hj) p c m L hL (by omega) k q (w.alloc (.cells #[.slice none 0 0] 22)) (by simp; omega) (by simp; omega) (by simp; omega) k2 k3 (by simp) (cell_alloc_l _ c1) (c2.alloc _)
      (hR.up ((Below.refl _ w).alloc (Nat.le_refl _) _)))
    kpN_t (fun W l o o' h1 h2 h3 h4 => kpN_b (w := w) W l o o' h1 h2 h3 h4) (fun W W' _ hb => ⟨fun a v ha h => (hb.cell (p := a) ha).trans h, hb.size⟩) (enters_of Try.func52 (by kernel_rfl) rfl) hm
  have HC := hid hc
  clear hc c1 c2 hR
  go_enter Try.func61, Try.ntmps61
  go_wp2_with fail
  refine HC.out.mono ?_
  rintro e w1 ⟨v, xs, rfl, rfl, h1, h2⟩
  have H1 := hid h1; have H2 := hid h2
  clear h1 h2
  go_wp2
  go_ret
  exact ⟨v, rfl, H1.out, H2.out⟩
section
variable {α : Type} [Inhabited α] {enc : α → List Value} {e k : Nat}
theorem flatK_get (hk : ∀ x, (enc x).length = k) (l : List α) (j : Nat) (h : j < l.length * k) : (l.flatMap enc)[j]? = some (Go.Sort.flatK enc k l.toArray)[j]! := by
  have h0 : 0 < k := by rcases Nat.eq_zero_or_pos k with h0 | h0; · subst h0; simp at h
                        · exact h0
  rw [Go.Sort.get_flatK enc k l.toArray j (by simpa using h)]
  have hd : j / k < l.length := (Nat.div_lt_iff_lt_mul h0).2 h
  have hmod : j % k < k := Nat.mod_lt _ h0
  have e1 : l.toArray[j / k]! = l[j / k] := by rw [getElem!_pos l.toArray (j / k) (by simpa using hd)]; simp
  have e2 : (enc l[j / k])[j % k]? = some (enc l[j / k])[j % k]! := by
    rw [getElem!_pos (enc l[j / k]) (j % k) (by rw [hk]; exact hmod), List.getElem?_eq_getElem (by rw [hk]; exact hmod)]
  have := flat_get enc k hk l (j / k) (j % k) l[j / k] _ (List.getElem?_eq_getElem hd) e2
  rw [Nat.div_add_mod'] at this
  rw [e1]; exact this
theorem GO.holds (hk : ∀ x, (enc x).length = k) {w : World} {base g n cap : Nat} {l : List α} (h : GO e k enc w base (.slice (some ⟨g, 0, none⟩) n cap) l) : Go.Sort.HoldsK enc k w g 0 l.toArray := by
  intro j hj
  have hj' : j < l.length * k := by simpa using hj
  have hc := World.ownsRow.cells h rfl j _ (flatK_get hk l j hj')
  rw [add_plain] at hc
  refine ⟨hc, ?_⟩
  rcases h.2 with ⟨h1, _⟩ | ⟨g', cap', cur, h1, hb, hg, hn, hm, hs, ht⟩
  · cases h1
  · simp only [Value.slice.injEq, Option.some.injEq, Addr.mk.injEq, and_true, true_and] at h1
    obtain ⟨rfl, rfl, rfl⟩ := h1
    simp [World.frozen?, hg]
theorem below_sorted {w : World} {base g n : Nat} {d : Array α} {os : Array Obj} (hg : base ≤ g) (hb : base ≤ w.heap.size) : Below base w (Go.Proofs.sortWorldK enc k w g 0 n d os) := by
  refine ⟨rfl, rfl, rfl, by simp [Go.Proofs.sortWorldK, Go.Sort.putRowK, Go.Sort.putRow, Go.Sort.mapBlock, Go.Sort.ahead], fun j hj => ?_⟩
  unfold Go.Proofs.sortWorldK
  rw [Go.Sort.heap_grow_old _ _ (by simp [Go.Sort.putRowK, Go.Sort.putRow, Go.Sort.mapBlock, Go.Sort.ahead]; omega)]
  simp only [Go.Sort.putRowK, Go.Sort.putRow, Go.Sort.mapBlock, Go.Sort.heap_ahead]
  rw [Array.getElem?_modify, if_neg (by omega)]
theorem sorted_gs (hk : ∀ x, (enc x).length = k) {w : World} {base g n cap : Nat} {l : List α} (h : GO e k enc w base (.slice (some ⟨g, 0, none⟩) n cap) l) (hb : base ≤ w.heap.size) (m : Nat) (d : Array α) (os : Array Obj) (hs : d.size = l.length) :
    GS enc (Go.Proofs.sortWorldK enc k w g 0 m d os) (.slice (some ⟨g, 0, none⟩) n cap) d.toList ∧ Below base w (Go.Proofs.sortWorldK enc k w g 0 m d os) := by
  have hg := h.lt g rfl
  refine ⟨.inr ⟨⟨g, 0, none⟩, cap, ?_, ?_, ?_, ?_, ?_⟩, below_sorted hg.1 hb⟩
  · have := h.gs.cap.1; rw [this]; simp [hs]
  · have := h.gs.cap; simp [hs]; omega
  · exact h.gs.cap.2.2
  · intro j u hj
    rw [add_plain]
    have hlt : j < d.toList.length * k := by
      have := (List.getElem?_eq_some_iff.1 hj).1
      rwa [flat_length enc k hk] at this
    rw [flatK_get hk d.toList j hlt] at hj
    have hh := Go.Sort.holdsK_putRowK enc k (Go.Sort.ahead w m) g 0 l.toArray d (Go.Sort.holdsK_ahead enc k w m g 0 _ (h.holds hk)) (by simp [hs])
    have hc := (hh j (by rw [Go.Sort.size_flatK]; simpa using hlt)).1
    unfold Go.Proofs.sortWorldK
    rw [Go.Sort.cell?_grow _ _ _ (by simp [Go.Sort.putRowK, Go.Sort.putRow, Go.Sort.mapBlock, Go.Sort.ahead]; exact hg.2)]
    refine hc.trans ?_
    simpa using hj
  · show g < _
    have : w.heap.size ≤ (Go.Proofs.sortWorldK enc k w g 0 m d os).heap.size := (below_sorted (n := m) (d := d) (os := os) (enc := enc) (k := k) hg.1 hb).size
    omega
end
theorem cmp_facts (blk off size : Nat) (w : World) : Go.Proofs.CmpLays Try.prog 33 #[] fc 8 ord blk off size w := fun _ _ _ _ x y => order_any x y _
theorem enters33 : ∀ args w, (callFunc 33 args).run Try.prog w = .ok (.enter 33 args) w := enters_of Try.func33 (by kernel_rfl) rfl
/-- the sort by insertion -/
theorem ins_any (blk cap a b : Nat) (d : Array FA) (w : World) (hH : Go.Sort.HoldsK fc 8 w blk 0 d) (hblk : blk < w.heap.size) (hab : a ≤ b) (hb : b ≤ d.size) (hsz : d.size ≤ 1000000) :
    Calls Try.prog 80 #[.slice (some ⟨blk, 0, none⟩) d.size cap, .int .i64 a, .int .i64 b, .func (.func 33) #[] #[]] w fun e w' =>
      e = .returned (.tuple #[]) ∧ ∃ n os, w' = Go.Proofs.sortWorldK fc 8 w blk 0 n (Go.Sort.insertionSort (Go.Proofs.ltOf ord) d a b) os :=
  AnyQ.insertionSortCmpFunc Try.insF 8 Try.isAgg28 Try.sizeOf28 fc fc_len fc_one ord 33 #[] blk 0 cap a b d w enters33 (cmp_facts _ _ _ _) hH hblk hab hb (by omega)
set_option maxRecDepth 100000 in
set_option maxHeartbeats 2000000 in
/-- the stable sort of fewer than 20 -/
theorem stable_small (blk cap n : Nat) (d : Array FA) (w : World) (hn : n = d.size) (hH : Go.Sort.HoldsK fc 8 w blk 0 d) (hblk : blk < w.heap.size) (h20 : n < 20) :
    Calls Try.prog 69 #[.slice (some ⟨blk, 0, none⟩) n cap, .int .i64 n, .func (.func 33) #[] #[]] w fun e w' =>
      e = .returned (.tuple #[]) ∧ ∃ m os, w' = Go.Proofs.sortWorldK fc 8 w blk 0 m (Go.Sort.insertionSort (Go.Proofs.ltOf ord) d 0 d.size) os := by
  have h := ins_any blk cap 0 d.size d w hH hblk (Nat.zero_le _) (Nat.le_refl _) (by omega)
  rw [← hn] at h
  have HI := hid h; have HN := hid hn
  rw [← hn]
  clear hH h hn
  have h1 : decide ((20 : Int) ≤ (n : Int)) = false := decide_eq_false (by omega)
  have h2 : decide ((20 : Int) < (n : Int)) = false := decide_eq_false (by omega)
  go_enter Try.func69, Try.ntmps69
  go_wp2
  refine wp_loop_rounds 1 ?_
  rw [rounds_succ]
  go_wp2_with fail
  refine HI.out.mono ?_
  rintro e w1 ⟨rfl, m, os, rfl⟩
  go_wp2
  refine wp_loop_rounds 1 ?_
  rw [rounds_succ]
  go_wp2
  go_end0
  exact ⟨rfl, m, os, rfl⟩
/-- what the stable sort of a list leaves -/
theorem stable_any (blk cap n : Nat) (l : List FA) (w : World) (base : Nat) (hn : n = l.length) (h : FO w base (.slice (some ⟨blk, 0, none⟩) n cap) l) (hb : base ≤ w.heap.size) (h20 : n ≤ 19) :
    Calls Try.prog 69 #[.slice (some ⟨blk, 0, none⟩) n cap, .int .i64 n, .func (.func 33) #[] #[]] w fun e w' =>
      e = .returned (.tuple #[]) ∧ ∃ l', FS w' (.slice (some ⟨blk, 0, none⟩) n cap) l' ∧ Eqv l l' ∧ Srt l' ∧ Below base w w' ∧ base ≤ blk := by
  refine (stable_small blk cap n l.toArray w (by simpa using hn) (h.holds fc_len) (h.lt blk rfl).2 (by omega)).mono ?_
  rintro e w' ⟨rfl, m, os, rfl⟩
  obtain ⟨e1, e2⟩ := ins_eqv l.toArray 0 l.toArray.size (Nat.le_refl _)
  obtain ⟨g1, g2⟩ := sorted_gs fc_len h hb m (Go.Sort.insertionSort (Go.Proofs.ltOf ord) l.toArray 0 l.toArray.size) os (by rw [e2]; simp)
  exact ⟨rfl, _, g1, by simpa using e1, ins_sorted _, g2, (h.lt blk rfl).1⟩
theorem ins_none (w : World) : Calls Try.prog 80 #[.slice none 0 0, .int .i64 0, .int .i64 0, .func (.func 33) #[] #[]] w fun e w' => e = .returned (.tuple #[]) ∧ w = w' := by
  go_enter Try.func80, Try.ntmps80
  go_wp2
  refine wp_loop_rounds 1 ?_
  rw [rounds_succ]
  go_wp2
  go_end0
  exact ⟨rfl, rfl⟩
set_option maxRecDepth 100000 in
theorem stable_none (w : World) : Calls Try.prog 69 #[.slice none 0 0, .int .i64 0, .func (.func 33) #[] #[]] w fun e w' => e = .returned (.tuple #[]) ∧ Below w.heap.size w w' := by
  go_enter Try.func69, Try.ntmps69
  go_wp2
  refine wp_loop_rounds 1 ?_
  rw [rounds_succ]
  go_wp2_with fail
  refine (ins_none _).mono ?_
  rintro e w1 ⟨rfl, rfl⟩
  go_wp2
  refine wp_loop_rounds 1 ?_
  rw [rounds_succ]
  go_wp2
  go_end0
  exact ⟨rfl, Below.refl _ _⟩
/-- slices.SortStableFunc -/
theorem sortStable_any (v : Value) (l : List FA) (w : World) (base : Nat) (h : FO w base v l) (hb : base ≤ w.heap.size) (h20 : l.length ≤ 19) :
    Calls Try.prog 62 #[v, .func (.func 33) #[] #[]] w fun e w' => e = .returned (.tuple #[]) ∧ ∃ l', FS w' v l' ∧ Eqv l l' ∧ Srt l' ∧ Below base w w' ∧ (∀ j, v.ownBlock = some j → base ≤ j) := by
  have h2 := h.2
  rcases h2 with ⟨rfl, hl⟩ | ⟨g, cap, cur, rfl, hbg, hg, hnc, hm, hs, ht⟩
  · obtain rfl := List.eq_nil_of_length_eq_zero hl
    have HN := hid stable_none
    clear h
    go_enter Try.func62, Try.ntmps62
    go_wp2_with fail
    refine (HN.out _).mono ?_
    rintro e w1 ⟨rfl, h1⟩
    have H1 := hid h1
    clear h1
    go_wp2
    go_end0
    exact ⟨rfl, [], .inl ⟨rfl, rfl⟩, Eqv.refl _, List.Pairwise.nil, H1.out.mono hb, fun j hj => by simp [Value.ownBlock] at hj⟩
  · obtain ⟨n, hn⟩ : ∃ n, n = l.length := ⟨_, rfl⟩
    have HS := hid (stable_any g cap n l w base hn (by rw [hn]; exact h) hb (by omega))
    have hlt : n ≤ 19 := by omega
    rw [← hn]
    clear h hg hbg hnc hm hs ht hn h20
    go_enter Try.func62, Try.ntmps62
    go_wp2_with fail
    refine HS.out.mono ?_
    rintro e w1 ⟨rfl, l', h1⟩
    have H1 := hid h1
    clear h1
    go_wp2
    go_end0
    exact ⟨rfl, l', H1.out.1, H1.out.2.1, H1.out.2.2.1, H1.out.2.2.2.1, fun j hj => by simp [Value.ownBlock] at hj; rw [← hj]; exact H1.out.2.2.2.2⟩
/-- slices.SortedStableFunc of the facts of a key -/
theorem sortedStable_any (B1 B2 B3 : Nat) (p : Option Addr) (c m : Nat) (L : List FA) (hL : m = L.length) (hm : m ≤ 1000000) (k : KE) (q : Int) (w : World) (k1 : B1 < w.heap.size) (k2 : B2 < w.heap.size) (k3 : B3 < w.heap.size)
    (c1 : w.cell? ⟨B1, 0, none⟩ = some (.slice p m c)) (c2 : Kq B2 B3 k q w) (hR : FR p w.heap.size L w) (h20 : (sel k q L).length ≤ 19) :
    Calls Try.prog 54 #[.func (.func 52) #[] #[.pointer (some ⟨B1, 0, none⟩), .pointer (some ⟨B2, 0, none⟩), .pointer (some ⟨B3, 0, none⟩)], .func (.func 33) #[] #[]] w fun e w' =>
      ∃ v l', e = .returned v ∧ FS w' v l' ∧ Eqv (sel k q L) l' ∧ Srt l' ∧ Below w.heap.size w w' ∧ (∀ j, v.ownBlock = some j → w.heap.size ≤ j) := by
  have HC := hid (collect_facts B1 B2 B3 p c m L hL hm k q w k1 k2 k3 c1 c2 hR)
  have H20 := hid h20
  clear c1 c2 hR hL hm h20
  go_enter Try.func54, Try.ntmps54
  go_wp2_with fail
  refine HC.out.mono ?_
  rintro e w1 ⟨v, rfl, h1, h2⟩
  have H1 := hid h1; have H2 := hid h2
  clear h1 h2
  go_wp2_with fail
  refine (sortStable_any v _ w1 w.heap.size H1.out H2.out.size H20.out).mono ?_
  rintro e w2 ⟨rfl, l', g1, g2, g3, g4, g5⟩
  have G5 := hid g5
  have G1 := hid g1; have G2 := hid g2; have G3 := hid g3; have G4 := hid g4
  clear g1 g2 g3 g4 g5
  go_wp2
  go_ret
  exact ⟨v, l', rfl, G1.out, G2.out, G3.out, H2.out.trans G4.out, G5.out⟩
end Go.Proofs.Ytbejjindkcjecaa

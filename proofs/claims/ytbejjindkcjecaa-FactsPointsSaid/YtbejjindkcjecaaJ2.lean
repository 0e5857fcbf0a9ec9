/- slices.SortedStableFunc of up to 39 facts. -/
import Derived.Test.YtbejjindkcjecaaSy9
namespace Go.Proofs.Ytbejjindkcjecaa
open Go.RowKit Go Go.Shelf
set_option linter.unusedVariables false
set_option linter.unusedSimpArgs false
/-- what the stable sort of a list leaves -/
theorem stable_any2 (blk cap n : Nat) (l : List FA) (w : World) (base : Nat) (hn : n = l.length) (h : FO w base (.slice (some ⟨blk, 0, none⟩) n cap) l) (hb : base ≤ w.heap.size) (h20 : n ≤ 39) :
    Calls Try.prog 69 #[.slice (some ⟨blk, 0, none⟩) n cap, .int .i64 n, .func (.func 33) #[] #[]] w fun e w' =>
      e = .returned (.tuple #[]) ∧ ∃ l', FS w' (.slice (some ⟨blk, 0, none⟩) n cap) l' ∧ Eqv l l' ∧ Srt l' ∧ Below base w w' ∧ base ≤ blk := by
  by_cases h19 : n ≤ 19
  · exact stable_any blk cap n l w base hn h hb h19
  · refine (stable_big blk cap n l w hn (h.holds fc_len) (h.lt blk rfl).2 (by omega) h20).mono ?_
    rintro e w' ⟨rfl, l', ⟨m, os, rfl⟩, e1, e2, e3⟩
    obtain ⟨g1, g2⟩ := sorted_gs fc_len h hb m l'.toArray os (by simp; omega)
    exact ⟨rfl, l', by simpa using g1, e1, e2, g2, (h.lt blk rfl).1⟩
/-- slices.SortStableFunc -/
theorem sortStable_any2 (v : Value) (l : List FA) (w : World) (base : Nat) (h : FO w base v l) (hb : base ≤ w.heap.size) (h20 : l.length ≤ 39) :
    Calls Try.prog 62 #[v, .func (.func 33) #[] #[]] w fun e w' => e = .returned (.tuple #[]) ∧ ∃ l', FS w' v l' ∧ Eqv l l' ∧ Srt l' ∧ Below base w w' ∧ (∀ j, v.ownBlock = some j → base ≤ j) := by
  have h2 := h.2
  rcases h2 with ⟨rfl, hl⟩ | ⟨g, cap, cur, rfl, hbg, hg, hnc, hm, hs, ht⟩
  · obtain rfl := List.eq_nil_of_length_eq_zero hl
    have HN := hid stable_none
    clear h
    go_enter Try.func62, Try.ntmps62
    go_wp2_with fail
    refine (HN.out _).mono ?_
    rintro e w1 ⟨rfl, h1⟩
    have H1 := hid h1
    clear h1
    go_wp2
    go_end0
    exact ⟨rfl, [], .inl ⟨rfl, rfl⟩, Eqv.refl _, List.Pairwise.nil, H1.out.mono hb, fun j hj => by simp [Value.ownBlock] at hj⟩
  · obtain ⟨n, hn⟩ : ∃ n, n = l.length := ⟨_, rfl⟩
    have HS := hid (stable_any2 g cap n l w base hn (by rw [hn]; exact h) hb (by omega))
    have hlt : n ≤ 39 := by omega
    rw [← hn]
    clear h hg hbg hnc hm hs ht hn h20
    go_enter Try.func62, Try.ntmps62
    go_wp2_with fail
    refine HS.out.mono ?_
    rintro e w1 ⟨rfl, l', h1⟩
    have H1 := hid h1
    clear h1
    go_wp2
    go_end0
    exact ⟨rfl, l', H1.out.1, H1.out.2.1, H1.out.2.2.1, H1.out.2.2.2.1, fun j hj => by simp [Value.ownBlock] at hj; rw [← hj]; exact H1.out.2.2.2.2⟩
/-- slices.SortedStableFunc of the facts of a key -/
theorem sortedStable_any2 (B1 B2 B3 : Nat) (p : Option Addr) (c m : Nat) (L : List FA) (hL : m = L.length) (hm : m ≤ 1000000) (k : KE) (q : Int) (w : World) (k1 : B1 < w.heap.size) (k2 : B2 < w.heap.size) (k3 : B3 < w.heap.size)
    (c1 : w.cell? ⟨B1, 0, none⟩ = some (.slice p m c)) (c2 : Kq B2 B3 k q w) (hR : FR p w.heap.size L w) (h20 : (sel k q L).length ≤ 39) :
    Calls Try.prog 54 #[.func (.func 52) #[] #[.pointer (some ⟨B1, 0, none⟩), .pointer (some ⟨B2, 0, none⟩), .pointer (some ⟨B3, 0, none⟩)], .func (.func 33) #[] #[]] w fun e w' =>
      ∃ v l', e = .returned v ∧ FS w' v l' ∧ Eqv (sel k q L) l' ∧ Srt l' ∧ Below w.heap.size w w' ∧ (∀ j, v.ownBlock = some j → w.heap.size ≤ j) := by
  have HC := hid (collect_facts B1 B2 B3 p c m L hL hm k q w k1 k2 k3 c1 c2 hR)
  have H20 := hid h20
  clear c1 c2 hR hL hm h20
  go_enter Try.func54, Try.ntmps54
  go_wp2_with fail
  refine HC.out.mono ?_
  rintro e w1 ⟨v, rfl, h1, h2⟩
  have H1 := hid h1; have H2 := hid h2
  clear h1 h2
  go_wp2_with fail
  refine (sortStable_any2 v _ w1 w.heap.size H1.out H2.out.size H20.out).mono ?_
  rintro e w2 ⟨rfl, l', g1, g2, g3, g4, g5⟩
  have G5 := hid g5
  have G1 := hid g1; have G2 := hid g2; have G3 := hid g3; have G4 := hid g4
  clear g1 g2 g3 g4 g5
  go_wp2
  go_ret
  exact ⟨v, l', rfl, G1.out, G2.out, G3.out, H2.out.trans G4.out, G5.out⟩
end Go.Proofs.Ytbejjindkcjecaa

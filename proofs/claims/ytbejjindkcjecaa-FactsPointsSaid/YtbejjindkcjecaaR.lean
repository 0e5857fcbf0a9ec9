/- Contracts: the comparison of two rows in a term; joined. -/
import Derived.Test.YtbejjindkcjecaaQ
import Derived.Deep.LoopGhost
import Derived.WalkMore
namespace Go.Proofs.Ytbejjindkcjecaa
open Go.RowKit Go
set_option linter.unusedVariables false
set_option linter.unusedSimpArgs false
/-- two rows of 1024 values, held by two variables -/
def Two (W : World) (b1 b2 g1 g2 : Nat) (h1 h2 : Int → Int) : Prop := W.cell? ⟨b1, 0, none⟩ = some (.slice (some ⟨g1, 0, none⟩) 1024 1024) ∧ W.cell? ⟨b2, 0, none⟩ = some (.slice (some ⟨g2, 0, none⟩) 1024 1024) ∧
  (∀ j : Nat, j < 1024 → W.cell? ⟨g1, j, none⟩ = some (.int .i64 (h1 (j : Int)))) ∧ ∀ j : Nat, j < 1024 → W.cell? ⟨g2, j, none⟩ = some (.int .i64 (h2 (j : Int)))
theorem Two.up {W W' : World} {b1 b2 g1 g2 n : Nat} {h1 h2 : Int → Int} (h : Two W b1 b2 g1 g2 h1 h2) (hb : Below n W W') (l1 : b1 < n) (l2 : b2 < n) (l3 : g1 < n) (l4 : g2 < n) : Two W' b1 b2 g1 g2 h1 h2 :=
  ⟨(hb.cell (p := ⟨b1, 0, none⟩) l1).trans h.1, (hb.cell (p := ⟨b2, 0, none⟩) l2).trans h.2.1, fun j hj => (hb.cell (p := ⟨g1, j, none⟩) l3).trans (h.2.2.1 j hj), fun j hj => (hb.cell (p := ⟨g2, j, none⟩) l4).trans (h.2.2.2 j hj)⟩
set_option maxRecDepth 100000 in
theorem clo_any (b1 b2 g1 g2 j : Nat) (h1 h2 : Int → Int) (w : World) (h : Two w b1 b2 g1 g2 h1 h2) (hj : j < 1024) :
    Calls Try.prog 44 #[.int .i64 (j : Int), .pointer (some ⟨b1, 0, none⟩), .pointer (some ⟨b2, 0, none⟩)] w fun e w' => e = .returned (.bool (h1 (j : Int) != h2 (j : Int))) ∧ ∃ q, w' = w.drewN q := by
  obtain ⟨c1, c2, c3, c4⟩ := h
  have d1 := c3 j hj
  have d2 := c4 j hj
  obtain ⟨x, hx⟩ : ∃ x, x = h1 (j : Int) := ⟨_, rfl⟩
  obtain ⟨y, hy⟩ : ∃ y, y = h2 (j : Int) := ⟨_, rfl⟩
  rw [← hx] at d1 ⊢; rw [← hy] at d2 ⊢
  have hjj : (j : Int) < 1024 := by omega
  clear c3 c4 hx hy
  go_enter Try.func44, Try.ntmps44
  go_wp2_with fail
  go_quiet (fail)
  go_wp2
  go_ret
  exact ⟨rfl, _, rfl⟩
/-- what has been joined ahead of n -/
def Inv (P : Int → Prop) (n : Nat) (l : List (Int × Int)) : Prop := T6.ok 1024 (-1) l ∧ (∀ s ∈ l, s.2 < (n : Int)) ∧ (∀ x, T6.has l x ↔ 0 ≤ x ∧ x < (n : Int) ∧ P x) ∧ 2 * l.length ≤ n
theorem inv_nil (P : Int → Prop) : Inv P 0 [] := ⟨trivial, fun s h => by simp at h, fun x => ⟨fun h => absurd h (T6.has_nil x), fun h => by have a := h.1; have b := h.2.1; simp at b; omega⟩, by simp⟩
theorem inv_no {P : Int → Prop} {n : Nat} {l : List (Int × Int)} (h : Inv P n l) (hp : ¬ P (n : Int)) : Inv P (n + 1) l := by
  obtain ⟨h1, h2, h3, h4⟩ := h
  refine ⟨h1, fun s hs => by have := h2 s hs; omega, fun x => ?_, by omega⟩
  rw [h3 x]
  constructor
  · rintro ⟨a, b, c⟩; exact ⟨a, by omega, c⟩
  · rintro ⟨a, b, c⟩
    refine ⟨a, ?_, c⟩
    rcases (by omega : x < (n : Int) ∨ x = (n : Int)) with e | e
    · exact e
    · subst e; exact absurd c hp
theorem inv_app {P : Int → Prop} {n m : Nat} {l : List (Int × Int)} (h : Inv P n l) (hnm : n < m) (hm : m ≤ 1024) (hp : ∀ x : Int, (n : Int) ≤ x → x < (m : Int) → P x) : T6.ok 1024 (-1) (l ++ [((n : Int), (m : Int))]) ∧ (∀ x, T6.has (l ++ [((n : Int), (m : Int))]) x ↔ 0 ≤ x ∧ x < (m : Int) ∧ P x) := by
  obtain ⟨h1, h2, h3, h4⟩ := h
  refine ⟨T6.ok_append.2 ⟨h1, h2, by omega, by omega, by omega⟩, fun x => ?_⟩
  rw [T6.has_append, h3 x, T6.has_cons]
  constructor
  · rintro (⟨a, b, c⟩ | ⟨a, b⟩ | a)
    · exact ⟨a, by omega, c⟩
    · exact ⟨by omega, b, hp x a b⟩
    · exact absurd a (T6.has_nil x)
  · rintro ⟨a, b, c⟩
    rcases (by omega : x < (n : Int) ∨ (n : Int) ≤ x) with e | e
    · exact .inl ⟨a, e, c⟩
    · exact .inr (.inl ⟨e, b⟩)
theorem inv_span {P : Int → Prop} {n m : Nat} {l : List (Int × Int)} (h : Inv P n l) (hnm : n < m) (hm : m < 1024) (hp : ∀ x : Int, (n : Int) ≤ x → x < (m : Int) → P x) (hno : ¬ P (m : Int)) : Inv P (m + 1) (l ++ [((n : Int), (m : Int))]) := by
  obtain ⟨a1, a2⟩ := inv_app h hnm (by omega) hp
  refine ⟨a1, fun s hs => ?_, fun x => ?_, by have := h.2.2.2; simp; omega⟩
  · rcases List.mem_append.1 hs with e | e
    · have := h.2.1 s e; omega
    · simp at e; subst e; simp only; omega
  · rw [a2 x]
    constructor
    · rintro ⟨a, b, c⟩; exact ⟨a, by omega, c⟩
    · rintro ⟨a, b, c⟩
      refine ⟨a, ?_, c⟩
      rcases (by omega : x < (m : Int) ∨ x = (m : Int)) with e | e
      · exact e
      · subst e; exact absurd c hno
theorem ofs_of {P : Int → Prop} [DecidablePred P] {l : List (Int × Int)} (h1 : T6.ok 1024 (-1) l) (h2 : ∀ x, T6.has l x ↔ 0 ≤ x ∧ x < 1024 ∧ P x) : l = T6.ofs P 1024 :=
  T6.uniq h1 (T6.ofs_ok P 1024).1 (fun x => by rw [h2 x, (T6.ofs_ok P 1024).2 x]; rfl)
set_option maxRecDepth 100000 in
set_option maxHeartbeats 4000000 in
theorem joined_any (b1 b2 g1 g2 : Nat) (h1 h2 : Int → Int) (w : World) (h : Two w b1 b2 g1 g2 h1 h2) (l1 : b1 < w.heap.size) (l2 : b2 < w.heap.size) (l3 : g1 < w.heap.size) (l4 : g2 < w.heap.size) :
    Calls Try.prog 43 #[.func (.func 44) #[] #[.pointer (some ⟨b1, 0, none⟩), .pointer (some ⟨b2, 0, none⟩)]] w fun e w' => ∃ u, e = .returned u ∧ SO w' w.heap.size u (T6.ofs (fun x => h1 x ≠ h2 x) 1024) ∧ Below w.heap.size w w' := by
  have HC := hid (fun (W : World) (j : Nat) (hb : Below w.heap.size w W) (hj : j < 1024) => clo_any b1 b2 g1 g2 j h1 h2 W (h.up hb l1 l2 l3 l4) hj)
  obtain ⟨P, hP⟩ : ∃ P : Int → Prop, P = fun x => h1 x ≠ h2 x := ⟨_, rfl⟩
  clear h l1 l2 l3 l4
  go_enter Try.func43, Try.ntmps43
  go_wp2
  go_step3
  go_wp2
  go_step3
  go_wp2
  go_loopg [4, 3] 1025 (fun k i u wr => ∃ n : Nat, n ≤ 1024 ∧ k + n = 1025 ∧ i = .int .i64 n ∧ Hid (∃ l, SO wr w.heap.size u l ∧ Inv (fun x => h1 x ≠ h2 x) n l) ∧ Hid (Below w.heap.size w wr))
  case atStart => exact ⟨0, by omega, by omega, rfl, hid ⟨[], go_nil _ _, inv_nil _⟩, hid (Below.refl _ _)⟩
  case round =>
    obtain ⟨n, hn, hgk, rfl, hso, hbl⟩ := hrel
    have HGK := hid hgk
    clear hgk
    by_cases hlt : n < 1024
    · have CC := hid (HC.out wr n hbl.out hlt)
      obtain ⟨l, hso, hinv⟩ := hso.out
      have HSO := hid hso; have HINV := hid hinv
      clear hso hinv
      cases hd : (h1 (n : Int) != h2 (n : Int)) with
      | false =>
        rw [hd] at CC
        have hno : ¬ (h1 (n : Int) ≠ h2 (n : Int)) := by simpa using hd
        have HI := hid (inv_no HINV.out hno)
        clear hd hno
        go_wp2_with (go_at_call 44; refine CC.out.mono ?_; rintro e w' ⟨rfl, q, rfl⟩)
        have HF := hid (show ∃ l, SO (wr.drewN q) w.heap.size _ l ∧ Inv (fun x => h1 x ≠ h2 x) (n + 1) l from ⟨l, HSO.out.ups (below_drewN q), HI.out⟩)
        have HB := hid (hbl.out.trans ((below_drewN q).mono hbl.out.size))
        go_roundg (gk - 1)
        case measure => have := HGK.out; omega
        case rel => exact ⟨n + 1, by omega, by have := HGK.out; omega, by go_num, HF, HB⟩
      | true =>
        rw [hd] at CC
        have hyes : h1 (n : Int) ≠ h2 (n : Int) := by simpa using hd
        have HY := hid hyes
        clear hd hyes
        go_wp2_with (go_at_call 44; refine CC.out.mono ?_; rintro e w' ⟨rfl, q, rfl⟩)
        have HB0 := hid (hbl.out.trans ((below_drewN q).mono hbl.out.size))
        have HSO0 := hid (HSO.out.ups (below_drewN q))
        obtain ⟨W0, hW0⟩ : ∃ W0, W0 = wr.drewN q := ⟨_, rfl⟩
        rw [← hW0] at HB0 HSO0 ⊢
        clear hbl HSO CC hW0
        go_loopg [5, 4, 3] 1025 (fun k jj ii u wr' => ∃ j : Nat, n < j ∧ j ≤ 1024 ∧ k + j = 1026 + n ∧ jj = .int .i64 j ∧ ii = .int .i64 n ∧ Hid (∀ x : Int, (n : Int) ≤ x → x < (j : Int) → h1 x ≠ h2 x) ∧ Hid (SO wr' w.heap.size u l) ∧ Hid (Below w.heap.size w wr'))
        case atStart => exact ⟨n + 1, by omega, by omega, by omega, by go_num, rfl, hid (fun x a b => by
          obtain rfl : x = (n : Int) := by omega
          exact HY.out), HSO0, HB0⟩
        case round =>
          obtain ⟨j, hj1, hj2, hgk2, rfl, rfl, hall, hso, hbl⟩ := hrel
          have HGK2 := hid hgk2
          clear hgk2
          by_cases hlt2 : j < 1024
          · have CC := hid (HC.out wr j hbl.out hlt2)
            cases hd : (h1 (j : Int) != h2 (j : Int)) with
            | true =>
              rw [hd] at CC
              have hyes : h1 (j : Int) ≠ h2 (j : Int) := by simpa using hd
              have HY2 := hid (show ∀ x : Int, (n : Int) ≤ x → x < ((j + 1 : Nat) : Int) → h1 x ≠ h2 x from fun x a b => by
                rcases (by omega : x < (j : Int) ∨ x = (j : Int)) with e | e
                · exact hall.out x a e
                · subst e; exact hyes)
              clear hd hyes
              go_wp2_with (go_at_call 44; refine CC.out.mono ?_; rintro e w' ⟨rfl, q2, rfl⟩)
              have HF := hid (hso.out.ups (below_drewN q2))
              have HB := hid (hbl.out.trans ((below_drewN q2).mono hbl.out.size))
              go_roundg (gk - 1)
              case measure => have := HGK2.out; omega
              case rel => exact ⟨j + 1, by omega, by omega, by have := HGK2.out; omega, by go_num, rfl, HY2, HF, HB⟩
            | false =>
              rw [hd] at CC
              have hno : ¬ (h1 (j : Int) ≠ h2 (j : Int)) := by simpa using hd
              have HI := hid (inv_span HINV.out hj1 hlt2 hall.out hno)
              clear hd hno
              go_wp2_with fail
              refine CC.out.mono ?_
              rintro e w' ⟨rfl, q2, rfl⟩
              obtain ⟨W5, hW5⟩ : ∃ W5, W5 = wr.drewN q2 := ⟨_, rfl⟩
              have hso5 := hso.out.ups (below_drewN q2)
              rw [← hW5] at hso5
              have hb5 : Below w.heap.size w W5 := by rw [hW5]; exact hbl.out.trans ((below_drewN q2).mono hbl.out.size)
              obtain ⟨g5, cap5, W6, happ, ho6, hb6⟩ := app_span' hso5 ((n : Int), (j : Int)) (by have := HINV.out.2.2.2; omega) hb5.size
              have HAPP := hid happ; have HO6 := hid ho6; have HB6 := hid (hb5.trans hb6)
              rw [← hW5]
              clear happ ho6 hb6 hb5 hso5 hW5 CC hso hbl
              go_wp2_with (at_builtin; refine wpList_append_run rfl (.tmp 24) (.tmp 28) 55 55 rfl _ _ _ ?_ ?_ HAPP.out ?_; exact rfl; exact rfl)
              go_roundg (1024 - j)
              case measure => have := HGK.out; omega
              case rel => exact ⟨j + 1, by omega, by omega, by go_num, hid ⟨_, HO6.out, HI.out⟩, HB6⟩
          · obtain rfl : j = 1024 := by omega
            obtain ⟨a1, a2⟩ := inv_app HINV.out hj1 (Nat.le_refl _) hall.out
            have e := ofs_of (P := fun x => h1 x ≠ h2 x) a1 a2
            obtain ⟨g5, cap5, W6, happ, ho6, hb6⟩ := app_span' hso.out ((n : Int), 1024) (by have := HINV.out.2.2.2; omega) hbl.out.size
            rw [show l ++ [((n : Int), (1024 : Int))] = T6.ofs (fun x => h1 x ≠ h2 x) 1024 from e] at ho6
            have HAPP := hid happ; have HO6 := hid ho6; have HB6 := hid (hbl.out.trans hb6)
            clear happ ho6 hb6 hso hbl a1 a2 e
            go_wp2_with (at_builtin; refine wpList_append_run rfl (.tmp 31) (.tmp 34) 55 55 rfl _ _ _ ?_ ?_ HAPP.out ?_; exact rfl; exact rfl)
            try rw [Exit.noGoto_ret]
            go_ret
            exact ⟨_, rfl, HO6.out, HB6.out⟩
    · obtain rfl : n = 1024 := by omega
      obtain ⟨l, hso, hinv⟩ := hso.out
      have e := ofs_of (P := fun x => h1 x ≠ h2 x) hinv.1 hinv.2.2.1
      rw [e] at hso
      have HSO := hid hso
      clear hso hinv e
      go_wp2
      try rw [Exit.noGoto_ret]
      go_ret
      exact ⟨_, rfl, HSO.out, hbl.out⟩
end Go.Proofs.Ytbejjindkcjecaa

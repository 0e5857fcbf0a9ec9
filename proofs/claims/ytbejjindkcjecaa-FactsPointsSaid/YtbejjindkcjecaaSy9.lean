/- Contract: symMerge on lists of facts. -/
import Derived.Test.YtbejjindkcjecaaSy5
import Derived.Test.YtbejjindkcjecaaSy8b
namespace Go.Proofs.Ytbejjindkcjecaa
open Go.RowKit Go Go.Shelf Go.Lib Go.Sort Go.Proofs
set_option linter.unusedVariables false
set_option linter.unusedSimpArgs false
theorem srt_le {L : List FA} (hL : Srt L) {s t : Nat} (hst : s ≤ t) (ht : t < L.length) : ¬ F7.bef L[t] (L[s]'(by omega)) := by
  by_cases e : s = t
  · subst e; exact F7.bef_irrefl _
  · exact (List.pairwise_iff_getElem.1 hL) s t (by omega) ht (by omega)
theorem ord_ge {a b : FA} : 0 ≤ ord a b ↔ ¬ F7.bef a b := by rw [← ord_lt]; omega
set_option maxHeartbeats 4000000 in
theorem symMerge_any (blk cap N : Nat) (d0 : Array FA) (w0 : World) (R : RWF w0 blk d0) (hs : d0.size = N) (hN1 : N ≤ 1000000) : ∀ (K a m b : Nat) (A L1 L2 B : List FA) (w : World), L1.length + L2.length ≤ K →
    0 < L1.length → 0 < L2.length → N = (A ++ (L1 ++ (L2 ++ B))).length → SWF w0 blk (A ++ (L1 ++ (L2 ++ B))) w → a = A.length → m = a + L1.length → b = m + L2.length → Srt L1 → Srt L2 →
    Calls Try.prog 81 #[.slice (some ⟨blk, 0, none⟩) N cap, .int .i64 a, .int .i64 m, .int .i64 b, .func (.func 33) #[] #[]] w fun e w' => e = .returned (.tuple #[]) ∧ ∃ l', Mg (L1 ++ L2) l' ∧ SWF w0 blk (A ++ (l' ++ B)) w'
  | 0, _, _, _, _, _, _, _, _, hK, h1, _, _, _, _, _, _, _, _ => by omega
  | K + 1, a, m, b, A, L1, L2, B, w, hK, h1, h2, hN, S, ha, hm, hb, s1, s2 => by
    have hNl : N = A.length + L1.length + L2.length + B.length := by rw [hN]; simp; omega
    by_cases c1 : L1.length = 1
    · match L1, c1 with
      | [x], _ => exact symLeft_any blk cap N a m b A L2 B x d0 w0 w R hs (by rw [hN]; simp) hN1 (by simpa using S) ha (by simpa using hm) hb s2
    by_cases c2 : L2.length = 1
    · match L2, c2 with
      | [y], _ => exact symRight_any blk cap N a m b A L1 B y d0 w0 w R hs (by rw [hN]; simp) hN1 (by simpa using S) ha hm (by simpa using hb) s1 (by omega)
    have hsz : (A ++ (L1 ++ (L2 ++ B))).toArray.size = N := by rw [hN]; simp
    obtain ⟨d, hd⟩ : ∃ d, d = (A ++ (L1 ++ (L2 ++ B))).toArray := ⟨_, rfl⟩
    have g1 : ∀ t, (h1 : a ≤ t) → (h : t < m) → d[t]! = L1[t - a]'(by omega) := fun t h1 h => by
      have := get_mid A L1 (L2 ++ B) (t - a) (by omega)
      rw [show A.length + (t - a) = t by omega] at this
      rw [hd]; simpa using this
    have g2 : ∀ t, (h1 : m ≤ t) → (h : t < b) → d[t]! = L2[t - m]'(by omega) := fun t h1 h => by
      have := get_mid (A ++ L1) L2 B (t - m) (by omega)
      rw [show (A ++ L1).length + (t - m) = t by simp; omega] at this
      rw [hd]; simpa using this
    obtain ⟨mid, hmid⟩ : ∃ mid, mid = (a + b) / 2 := ⟨_, rfl⟩
    obtain ⟨n, hn⟩ : ∃ n, n = mid + m := ⟨_, rfl⟩
    obtain ⟨lo, hlo⟩ : ∃ lo, lo = if mid < m then n - b else a := ⟨_, rfl⟩
    obtain ⟨hi, hhi⟩ : ∃ hi, hi = if mid < m then mid else m := ⟨_, rfl⟩
    have hlh : a ≤ lo ∧ n - b ≤ lo ∧ lo ≤ hi ∧ hi ≤ m ∧ hi ≤ mid ∧ (lo = a ∨ lo = n - b) ∧ (hi = m ∨ hi = mid) := by
      by_cases c : mid < m
      · rw [if_pos c] at hlo hhi; omega
      · rw [if_neg c] at hlo hhi; omega
    have hmono : ∀ s t, lo ≤ s → s ≤ t → t < hi → 0 ≤ ord d[n - 1 - t]! d[t]! → 0 ≤ ord d[n - 1 - s]! d[s]! := by
      intro s t q1 q2 q3 q4
      rw [ord_ge] at q4 ⊢
      rw [g1 t (by omega) (by omega), g2 (n - 1 - t) (by omega) (by omega)] at q4
      rw [g1 s (by omega) (by omega), g2 (n - 1 - s) (by omega) (by omega)]
      exact F7.not_bef_trans (srt_le s2 (show n - 1 - t - m ≤ n - 1 - s - m by omega) (by omega)) (F7.not_bef_trans q4 (srt_le s1 (show s - a ≤ t - a by omega) (by omega)))
    -- the parts at s
    have parts : ∀ s, Fd ord d n lo hi s → ∃ A' X Y B', L1 = A' ++ X ∧ L2 = Y ++ B' ∧ A'.length = s - a ∧ X.length = m - s ∧ Y.length = mid - s ∧ B'.length = b - (n - s) ∧ a ≤ s ∧ s ≤ m ∧ s ≤ mid ∧ n - s ≤ b ∧ m ≤ n - s ∧ mid ≤ n - s ∧
        (∀ x ∈ X, ∀ y ∈ Y, F7.bef y x) ∧ (∀ p ∈ A', ∀ q ∈ B', ¬ F7.bef q p) := by
      rintro s ⟨f1, f2, f3, f4⟩
      refine ⟨L1.take (s - a), L1.drop (s - a), L2.take (mid - s), L2.drop (mid - s), (List.take_append_drop _ _).symm, (List.take_append_drop _ _).symm, by rw [List.length_take]; omega, by rw [List.length_drop]; omega, by rw [List.length_take]; omega,
        by rw [List.length_drop]; omega, by omega, by omega, by omega, by omega, by omega, by omega, ?_, ?_⟩
      · intro x hx y hy
        obtain ⟨u, hu, rfl⟩ := List.getElem_of_mem hx
        obtain ⟨v, hv, rfl⟩ := List.getElem_of_mem hy
        rw [List.length_drop] at hu
        rw [List.length_take] at hv
        have q := f4 s (Nat.le_refl _) (by omega)
        rw [ord_lt, g1 s (by omega) (by omega), g2 (n - 1 - s) (by omega) (by omega)] at q
        rw [List.getElem_drop, List.getElem_take]
        have r1 := srt_le s2 (show v ≤ n - 1 - s - m by omega) (by omega)
        have r2 := srt_le s1 (show s - a ≤ s - a + u by omega) (by omega)
        exact Classical.byContradiction fun h => F7.not_bef_trans r1 (F7.not_bef_trans h r2) q
      · intro p hp q hq
        obtain ⟨u, hu, rfl⟩ := List.getElem_of_mem hp
        obtain ⟨v, hv, rfl⟩ := List.getElem_of_mem hq
        rw [List.length_take] at hu
        rw [List.length_drop] at hv
        have q := f3 (s - 1) (by omega) (by omega)
        rw [ord_ge, g1 (s - 1) (by omega) (by omega), g2 (n - 1 - (s - 1)) (by omega) (by omega)] at q
        rw [List.getElem_drop, List.getElem_take]
        have r1 := srt_le s2 (show n - 1 - (s - 1) - m ≤ mid - s + v by omega) (by omega)
        have r2 := srt_le s1 (show u ≤ s - 1 - a by omega) (by omega)
        exact F7.not_bef_trans r1 (F7.not_bef_trans q r2)
    have e87 : ∀ args w, (callFunc 87 args).run Try.prog w = .ok (.enter 87 args) w := enters_of Try.func87 (by kernel_rfl) rfl
    have e81 : ∀ args w, (callFunc 81 args).run Try.prog w = .ok (.enter 81 args) w := enters_of Try.func81 (by kernel_rfl) rfl
    have rot : ∀ s W, Fd ord d n lo hi s → SWK fc 8 w0 blk 0 d W → s < m → m < n - s → Calls Try.prog 87 #[.slice (some ⟨blk, 0, none⟩) d.size cap, .int .i64 s, .int .i64 m, .int .i64 (n - s : Nat), .func (.func 33) #[] #[]] W fun e w' => e = .returned (.tuple #[]) ∧
        ∃ d', (∃ A' X Y B', L1 = A' ++ X ∧ L2 = Y ++ B' ∧ A'.length = s - a ∧ Y.length = mid - s ∧ d' = (A ++ (A' ++ (Y ++ (X ++ (B' ++ B))))).toArray) ∧ SWK fc 8 w0 blk 0 d' w' := by
      intro s W fd hS q1 q2
      obtain ⟨A', X, Y, B', p1, p2, p3, p4, p5, p6, p7, p8, p9, p10, p11, p12, p13, p14⟩ := parts s fd
      have hdl : A ++ (L1 ++ (L2 ++ B)) = (A ++ A') ++ (X ++ (Y ++ (B' ++ B))) := by rw [p1, p2]; simp
      rw [hd, hdl] at hS
      have hdn : d.size = N := by rw [hd]; exact hsz
      rw [hdn]
      refine (rotate_any blk cap N s m (n - s) (A ++ A') X Y (B' ++ B) d0 w0 W R hs (by rw [hN, hdl]) hN1 hS (by simp; omega) (by simp; omega) (by simp; omega) (by omega) (by omega)).mono ?_
      rintro e w' ⟨rfl, h⟩
      exact ⟨rfl, _, ⟨A', X, Y, B', p1, p2, p3, p5, rfl⟩, by simpa using h⟩
    have no1 : ∀ s, Fd ord d n lo hi s → ¬ (s < m ∧ m < n - s) → (∃ A' X Y B', L1 = A' ++ X ∧ L2 = Y ++ B' ∧ A'.length = s - a ∧ Y.length = mid - s ∧ d = (A ++ (A' ++ (Y ++ (X ++ (B' ++ B))))).toArray) := by
      intro s fd q
      obtain ⟨A', X, Y, B', p1, p2, p3, p4, p5, p6, p7, p8, p9, p10, p11, p12, p13, p14⟩ := parts s fd
      refine ⟨A', X, Y, B', p1, p2, p3, p5, ?_⟩
      rw [hd, p1, p2]
      by_cases c : X.length = 0
      · rw [List.eq_nil_of_length_eq_zero c]; simp
      · rw [List.eq_nil_of_length_eq_zero (show Y.length = 0 by omega)]; simp
    have uniq : ∀ s (A' X Y B' A2 X2 Y2 B2 : List FA), L1 = A' ++ X → L2 = Y ++ B' → A'.length = s - a → Y.length = mid - s → L1 = A2 ++ X2 → L2 = Y2 ++ B2 → A2.length = s - a → Y2.length = mid - s → A2 = A' ∧ X2 = X ∧ Y2 = Y ∧ B2 = B' := by
      intro s A' X Y B' A2 X2 Y2 B2 q1 q2 q3 q4 r1 r2 r3 r4
      obtain ⟨e1, e2⟩ := List.append_inj (r1.symm.trans q1) (by omega)
      obtain ⟨e3, e4⟩ := List.append_inj (r2.symm.trans q2) (by omega)
      exact ⟨e1, e2, e3, e4⟩
    have left : ∀ s d' W, Fd ord d n lo hi s → (∃ A' X Y B', L1 = A' ++ X ∧ L2 = Y ++ B' ∧ A'.length = s - a ∧ Y.length = mid - s ∧ d' = (A ++ (A' ++ (Y ++ (X ++ (B' ++ B))))).toArray) → SWK fc 8 w0 blk 0 d' W → a < s → s < mid →
        Calls Try.prog 81 #[.slice (some ⟨blk, 0, none⟩) d.size cap, .int .i64 a, .int .i64 s, .int .i64 mid, .func (.func 33) #[] #[]] W fun e w' => e = .returned (.tuple #[]) ∧
        ∃ d', (∃ A' X Y B' l1, L1 = A' ++ X ∧ L2 = Y ++ B' ∧ A'.length = s - a ∧ Y.length = mid - s ∧ Mg (A' ++ Y) l1 ∧ d' = (A ++ (l1 ++ (X ++ (B' ++ B)))).toArray) ∧ SWK fc 8 w0 blk 0 d' w' := by
      rintro s d' W fd ⟨A', X, Y, B', r1, r2, r3, r4, rfl⟩ hS q1 q2
      have hdn : d.size = N := by rw [hd]; exact hsz
      rw [hdn]
      have l1 : L1.length = A'.length + X.length := by rw [r1]; simp
      have l2 : L2.length = Y.length + B'.length := by rw [r2]; simp
      have sa := (show Srt (A' ++ X) from r1 ▸ s1).parts
      have sb := (show Srt (Y ++ B') from r2 ▸ s2).parts
      refine (symMerge_any blk cap N d0 w0 R hs hN1 K a s mid A A' Y (X ++ (B' ++ B)) W (by omega) (by omega) (by omega) (by simp; omega) hS ha (by omega) (by omega) sa.1 sb.1).mono ?_
      rintro e w' ⟨rfl, l', hM, h⟩
      exact ⟨rfl, _, ⟨A', X, Y, B', l', r1, r2, r3, r4, hM, rfl⟩, h⟩
    have no2 : ∀ s d', Fd ord d n lo hi s → (∃ A' X Y B', L1 = A' ++ X ∧ L2 = Y ++ B' ∧ A'.length = s - a ∧ Y.length = mid - s ∧ d' = (A ++ (A' ++ (Y ++ (X ++ (B' ++ B))))).toArray) → ¬ (a < s ∧ s < mid) →
        (∃ A' X Y B' l1, L1 = A' ++ X ∧ L2 = Y ++ B' ∧ A'.length = s - a ∧ Y.length = mid - s ∧ Mg (A' ++ Y) l1 ∧ d' = (A ++ (l1 ++ (X ++ (B' ++ B)))).toArray) := by
      rintro s d' fd ⟨A', X, Y, B', r1, r2, r3, r4, rfl⟩ q
      have sa := (show Srt (A' ++ X) from r1 ▸ s1).parts
      have sb := (show Srt (Y ++ B') from r2 ▸ s2).parts
      refine ⟨A', X, Y, B', A' ++ Y, r1, r2, r3, r4, mg_sorted ?_, by simp⟩
      by_cases c : A'.length = 0
      · rw [List.eq_nil_of_length_eq_zero c]; simpa using sb.1
      · rw [List.eq_nil_of_length_eq_zero (show Y.length = 0 by omega)]; simpa using sa.1
    have right : ∀ s d' W, Fd ord d n lo hi s → (∃ A' X Y B' l1, L1 = A' ++ X ∧ L2 = Y ++ B' ∧ A'.length = s - a ∧ Y.length = mid - s ∧ Mg (A' ++ Y) l1 ∧ d' = (A ++ (l1 ++ (X ++ (B' ++ B)))).toArray) → SWK fc 8 w0 blk 0 d' W → mid < n - s → n - s < b →
        Calls Try.prog 81 #[.slice (some ⟨blk, 0, none⟩) d.size cap, .int .i64 mid, .int .i64 (n - s : Nat), .int .i64 b, .func (.func 33) #[] #[]] W fun e w' => e = .returned (.tuple #[]) ∧
        ∃ d', (∃ l', Mg (L1 ++ L2) l' ∧ d' = (A ++ (l' ++ B)).toArray) ∧ SWK fc 8 w0 blk 0 d' w' := by
      rintro s d' W fd ⟨A', X, Y, B', l1, r1, r2, r3, r4, hM, rfl⟩ hS q1 q2
      obtain ⟨A2, X2, Y2, B2, p1, p2, p3, p4, p5, p6, p7, p8, p9, p10, p11, p12, p13, p14⟩ := parts s fd
      obtain ⟨rfl, rfl, rfl, rfl⟩ := uniq s A' X Y B' A2 X2 Y2 B2 r1 r2 r3 r4 p1 p2 p3 p5
      have hdn : d.size = N := by rw [hd]; exact hsz
      rw [hdn]
      have sa := (show Srt (A2 ++ X2) from r1 ▸ s1).parts
      have sb := (show Srt (Y2 ++ B2) from r2 ▸ s2).parts
      have hl := hM.2.2.length_eq
      rw [List.length_append] at hl
      refine (symMerge_any blk cap N d0 w0 R hs hN1 K mid (n - s) b (A ++ l1) X2 B2 B W (by omega) (by omega) (by omega) (by simp; omega) (by simpa using hS) (by simp; omega) (by omega) (by omega) sa.2.1 sb.2.1).mono ?_
      rintro e w' ⟨rfl, l', hM2, h⟩
      refine ⟨rfl, _, ⟨l1 ++ l', ?_, rfl⟩, by simpa using h⟩
      rw [r1, r2]
      exact mg_step (r1 ▸ s1) (r2 ▸ s2) p13 p14 hM hM2
    have no3 : ∀ s d', Fd ord d n lo hi s → (∃ A' X Y B' l1, L1 = A' ++ X ∧ L2 = Y ++ B' ∧ A'.length = s - a ∧ Y.length = mid - s ∧ Mg (A' ++ Y) l1 ∧ d' = (A ++ (l1 ++ (X ++ (B' ++ B)))).toArray) → ¬ (mid < n - s ∧ n - s < b) →
        (∃ l', Mg (L1 ++ L2) l' ∧ d' = (A ++ (l' ++ B)).toArray) := by
      rintro s d' fd ⟨A', X, Y, B', l1, r1, r2, r3, r4, hM, rfl⟩ q
      obtain ⟨A2, X2, Y2, B2, p1, p2, p3, p4, p5, p6, p7, p8, p9, p10, p11, p12, p13, p14⟩ := parts s fd
      obtain ⟨rfl, rfl, rfl, rfl⟩ := uniq s A' X Y B' A2 X2 Y2 B2 r1 r2 r3 r4 p1 p2 p3 p5
      have sa := (show Srt (A2 ++ X2) from r1 ▸ s1).parts
      have sb := (show Srt (Y2 ++ B2) from r2 ▸ s2).parts
      have hM2 : Mg (X2 ++ B2) (X2 ++ B2) := mg_sorted (by
        by_cases c : X2.length = 0
        · rw [List.eq_nil_of_length_eq_zero c]; simpa using sb.2.1
        · rw [List.eq_nil_of_length_eq_zero (show B2.length = 0 by omega)]; simpa using sa.2.1)
      refine ⟨l1 ++ (X2 ++ B2), ?_, by simp⟩
      rw [r1, r2]
      exact mg_step (r1 ▸ s1) (r2 ▸ s2) p13 p14 hM hM2
    obtain ⟨T1, hT1⟩ : ∃ T1 : Nat → Array FA → Prop, T1 = fun s d' => ∃ A' X Y B', L1 = A' ++ X ∧ L2 = Y ++ B' ∧ A'.length = s - a ∧ Y.length = mid - s ∧ d' = (A ++ (A' ++ (Y ++ (X ++ (B' ++ B))))).toArray := ⟨_, rfl⟩
    obtain ⟨T2, hT2⟩ : ∃ T2 : Nat → Array FA → Prop, T2 = fun s d' => ∃ A' X Y B' l1, L1 = A' ++ X ∧ L2 = Y ++ B' ∧ A'.length = s - a ∧ Y.length = mid - s ∧ Mg (A' ++ Y) l1 ∧ d' = (A ++ (l1 ++ (X ++ (B' ++ B)))).toArray := ⟨_, rfl⟩
    obtain ⟨T3, hT3⟩ : ∃ T3 : Nat → Array FA → Prop, T3 = fun s d' => ∃ l', Mg (L1 ++ L2) l' ∧ d' = (A ++ (l' ++ B)).toArray := ⟨_, rfl⟩
    have hdN : d.size = N := by rw [hd]; exact hsz
    have S : SWK fc 8 w0 blk 0 d w := by rw [hd]; exact S
    by_cases c : mid < m
    · have h := symBothA_k (P := Try.prog) (by kernel_rfl) Try.func81 Try.underlying0 Try.isAgg0 Try.sizeOf0 Try.zeroValue0 Try.underlying3 Try.isAgg3 Try.sizeOf3 Try.zeroValue3 Try.underlying4 Try.isAgg4 Try.sizeOf4 Try.zeroValue4
        Try.underlying22 Try.isAgg22 Try.sizeOf22 Try.zeroValue22 Try.underlying63 Try.isAgg63 Try.sizeOf63 Try.zeroValue63 Try.underlying92 Try.isAgg92 Try.sizeOf92 Try.zeroValue92 8 Try.isAgg28 Try.sizeOf28 fc ord 33 #[] blk 0 cap a m b d0 d w0 w
        enters33 e87 e81 (cmp_facts _ _ _ _) R (by rw [hs, hdN]) S mid n lo hi hmid hn hlo hhi c (by omega) (by omega) (by omega) (by omega) hmono T1 T2 T3 (by rw [hT1]; exact rot) (by rw [hT1]; exact no1) (by rw [hT1, hT2]; exact left) (by rw [hT1, hT2]; exact no2) (by rw [hT2, hT3]; exact right) (by rw [hT2, hT3]; exact no3)
      rw [hdN] at h
      refine h.mono ?_
      rintro e w' ⟨rfl, s, d', fd, h3, hS⟩
      rw [hT3] at h3
      obtain ⟨l', hM, rfl⟩ := h3
      exact ⟨rfl, l', hM, hS⟩
    · have h := symBothB_k (P := Try.prog) (by kernel_rfl) Try.func81 Try.underlying0 Try.isAgg0 Try.sizeOf0 Try.zeroValue0 Try.underlying3 Try.isAgg3 Try.sizeOf3 Try.zeroValue3 Try.underlying4 Try.isAgg4 Try.sizeOf4 Try.zeroValue4
        Try.underlying22 Try.isAgg22 Try.sizeOf22 Try.zeroValue22 Try.underlying63 Try.isAgg63 Try.sizeOf63 Try.zeroValue63 Try.underlying92 Try.isAgg92 Try.sizeOf92 Try.zeroValue92 8 Try.isAgg28 Try.sizeOf28 fc ord 33 #[] blk 0 cap a m b d0 d w0 w
        enters33 e87 e81 (cmp_facts _ _ _ _) R (by rw [hs, hdN]) S mid n lo hi hmid hn hlo hhi (Nat.le_of_not_lt c) (by omega) (by omega) (by omega) (by omega) hmono T1 T2 T3 (by rw [hT1]; exact rot) (by rw [hT1]; exact no1) (by rw [hT1, hT2]; exact left) (by rw [hT1, hT2]; exact no2) (by rw [hT2, hT3]; exact right) (by rw [hT2, hT3]; exact no3)
      rw [hdN] at h
      refine h.mono ?_
      rintro e w' ⟨rfl, s, d', fd, h3, hS⟩
      rw [hT3] at h3
      obtain ⟨l', hM, rfl⟩ := h3
      exact ⟨rfl, l', hM, hS⟩
end Go.Proofs.Ytbejjindkcjecaa
namespace Go.Proofs.Ytbejjindkcjecaa
open Go.RowKit Go Go.Shelf Go.Lib Go.Sort Go.Proofs
set_option linter.unusedVariables false
set_option linter.unusedSimpArgs false
theorem srt_part {d : Array FA} {a b : Nat} (hb : b ≤ d.size) (h : SortedIn (ltOf ord) a b d) : Srt ((d.toList.take b).drop a) := by
  unfold Srt
  rw [List.pairwise_iff_getElem]
  intro i j hi hj hij
  rw [List.length_drop, List.length_take] at hi hj
  have hl : d.toList.length = d.size := by simp
  have := h (a + i) (a + j) (by omega) (by omega) (by omega)
  rw [getElem!_pos d (a + i) (by omega), getElem!_pos d (a + j) (by omega), lt_ord'] at this
  simpa using this
theorem ins_two (l : List FA) (n : Nat) (hn : n = l.length) (h20 : 20 ≤ n) : ∃ L1 L2, insertionSort (ltOf ord) (insertionSort (ltOf ord) l.toArray 0 20) 20 n = (L1 ++ L2).toArray ∧ (insertionSort (ltOf ord) l.toArray 0 20).size = n ∧ L1.length = 20 ∧ L2.length = n - 20 ∧ Srt L1 ∧ Srt L2 ∧ Eqv l (L1 ++ L2) := by
  have hsz : l.toArray.size = n := by simp [hn]
  obtain ⟨p1, q1⟩ := insertionSort_holds (lt := ltOf ord) ord_swo l.toArray 0 20 (Nat.zero_le _) (by omega)
  obtain ⟨e1, z1⟩ := ins_eqv l.toArray 0 20 (by omega)
  generalize insertionSort (ltOf ord) l.toArray 0 20 = d1 at *
  obtain ⟨p2, q2⟩ := insertionSort_holds (lt := ltOf ord) ord_swo d1 20 n h20 (by omega)
  obtain ⟨e2, z2⟩ := ins_eqv d1 20 n (by omega)
  generalize insertionSort (ltOf ord) d1 20 n = d2 at *
  have hl2 : d2.toList.length = n := by simp; omega
  have q3 : SortedIn (ltOf ord) 0 20 d2 := fun i j h1 h2 h3 => by
    rw [p2.2.1 i (.inl (by omega)), p2.2.1 j (.inl h3)]; exact q1 i j h1 h2 h3
  have s1 := srt_part (by omega) q3
  have s2 := srt_part (by omega) q2
  rw [List.take_of_length_le (by omega)] at s2
  rw [List.drop_zero] at s1
  refine ⟨d2.toList.take 20, d2.toList.drop 20, by rw [List.take_append_drop], by omega, by rw [List.length_take]; omega, by rw [List.length_drop]; omega, s1, s2, ?_⟩
  rw [List.take_append_drop]
  exact (by simpa using e1 : Eqv l d1.toList).trans e2
set_option maxRecDepth 100000 in
set_option maxHeartbeats 4000000 in
/-- the stable sort of 20 to 39 -/
theorem stable_big (blk cap n : Nat) (l : List FA) (w : World) (hn : n = l.length) (hH : Go.Sort.HoldsK fc 8 w blk 0 l.toArray) (hblk : blk < w.heap.size) (h20 : 20 ≤ n) (h39 : n ≤ 39) :
    Calls Try.prog 69 #[.slice (some ⟨blk, 0, none⟩) n cap, .int .i64 n, .func (.func 33) #[] #[]] w fun e w' =>
      e = .returned (.tuple #[]) ∧ ∃ l', SWF w blk l' w' ∧ Eqv l l' ∧ Srt l' ∧ l'.length = n := by
  obtain ⟨L1, L2, hd, z1, hl1, hl2, s1, s2, hE⟩ := ins_two l n hn h20
  have hsz : l.toArray.size = n := by simp [hn]
  have R : RWF w blk l.toArray := ⟨fc_len, fc_one, hH, hblk⟩
  have I1 := ins_any blk cap 0 20 l.toArray w hH hblk (by omega) (by omega) (by omega)
  rw [hsz] at I1
  have I2 : ∀ w1, SWK fc 8 w blk 0 (insertionSort (ltOf ord) l.toArray 0 20) w1 → Calls Try.prog 80 #[.slice (some ⟨blk, 0, none⟩) n cap, .int .i64 (20 : Nat), .int .i64 n, .func (.func 33) #[] #[]] w1 fun e w' => e = .returned (.tuple #[]) ∧ SWF w blk (L1 ++ L2) w' := by
    intro w1 S1
    have h := ins_any blk cap 20 n (insertionSort (ltOf ord) l.toArray 0 20) w1 (S1.holds hblk hH (by omega)) (S1.lt hblk) h20 (by omega) (by omega)
    rw [z1] at h
    refine h.mono ?_
    rintro e w' ⟨rfl, m, os, rfl⟩
    refine ⟨rfl, ?_⟩
    have := S1.on hblk m (insertionSort (ltOf ord) (insertionSort (ltOf ord) l.toArray 0 20) 20 n) os (ins_eqv _ 20 n (by omega)).2
    show SWK fc 8 w blk 0 (L1 ++ L2).toArray _
    rw [← hd]
    exact this
  have I3 : ∀ w1, SWF w blk (L1 ++ L2) w1 → 20 < n → Calls Try.prog 81 #[.slice (some ⟨blk, 0, none⟩) n cap, .int .i64 (0 : Nat), .int .i64 (20 : Nat), .int .i64 n, .func (.func 33) #[] #[]] w1 fun e w' => e = .returned (.tuple #[]) ∧ ∃ l', SWF w blk l' w' ∧ Eqv l l' ∧ Srt l' ∧ l'.length = n := by
    intro w1 S1 h1
    refine (symMerge_any blk cap n l.toArray w R hsz (by omega) (L1.length + L2.length) 0 20 n [] L1 L2 [] w1 (Nat.le_refl _) (by omega) (by omega) (by simp; omega) (by simpa using S1) rfl (by omega) (by omega) s1 s2).mono ?_
    rintro e w' ⟨rfl, l', hM, h⟩
    exact ⟨rfl, l', by simpa using h, hE.trans hM.1, hM.2.1, by rw [← hM.2.2.length_eq]; simp; omega⟩
  have I4 : ∀ w1, SWF w blk (L1 ++ L2) w1 → n = 20 → ∃ l', SWF w blk l' w1 ∧ Eqv l l' ∧ Srt l' ∧ l'.length = n := by
    intro w1 S1 h1
    have : L2 = [] := List.eq_nil_of_length_eq_zero (by omega)
    subst this
    exact ⟨L1, by simpa using S1, by simpa using hE, s1, by omega⟩
  have J1 := hid I1; have J2 := hid I2; have J3 := hid I3; have J4 := hid I4
  clear I1 I2 I3 I4 hd z1 hl1 hl2 s1 s2 hE R hsz hH hn
  have h1 : decide ((20 : Int) ≤ (n : Int)) = true := decide_eq_true (by omega)
  have h2 : decide ((40 : Int) ≤ (n : Int)) = false := decide_eq_false (by omega)
  have h3 : decide ((40 : Int) < (n : Int)) = false := decide_eq_false (by omega)
  go_enter Try.func69, Try.ntmps69
  go_wp2
  refine wp_loop_rounds 2 ?_
  rw [rounds_succ]
  go_wp2_with fail
  refine J1.out.mono ?_
  rintro e w1 ⟨rfl, m, os, hW1⟩
  have S1 := hid (show SWK fc 8 w blk 0 (insertionSort (ltOf ord) l.toArray 0 20) w1 from ⟨m, os, hW1⟩)
  clear hW1 J1
  go_wp2_with fail
  rw [rounds_succ]
  go_wp2_with fail
  refine (J2.out w1 S1.out).mono ?_
  rintro e w2 ⟨rfl, h⟩
  have S2 := hid h
  clear h S1 J2
  go_wp2_with fail
  by_cases hlt : 20 < n
  · have h4 : decide ((20 : Int) < (n : Int)) = true := decide_eq_true (by omega)
    have h5 : decide ((0 : Int) + 20 < (n : Int)) = true := decide_eq_true (by omega)
    refine wp_loop_rounds 2 ?_
    rw [rounds_succ]
    go_wp2_with fail
    refine wp_loop_rounds 1 ?_
    rw [rounds_succ]
    go_wp2_with fail
    refine (J3.out w2 S2.out hlt).mono ?_
    rintro e w3 ⟨rfl, h⟩
    have H3 := hid h
    clear h J3 J4 S2
    go_wp2_with fail
    rw [rounds_succ]
    go_wp2_with fail
    go_end0
    exact ⟨rfl, H3.out⟩
  · have h4 : decide ((20 : Int) < (n : Int)) = false := decide_eq_false (by omega)
    refine wp_loop_rounds 1 ?_
    rw [rounds_succ]
    go_wp2_with fail
    go_end0
    exact ⟨rfl, J4.out _ S2.out (by omega)⟩
end Go.Proofs.Ytbejjindkcjecaa

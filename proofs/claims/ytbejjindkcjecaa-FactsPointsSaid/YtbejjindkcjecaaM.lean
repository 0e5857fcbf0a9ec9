/- Contract: Points. -/
import Derived.Test.YtbejjindkcjecaaL
namespace Go.Proofs.Ytbejjindkcjecaa
open Go.RowKit Go
set_option linter.unusedVariables false
set_option linter.unusedSimpArgs false
/-- the points among the first n terms from a on -/
def pts (h : Int → Int) (a : Int) (n : Nat) : List (Int × Int) := (List.range n).filterMap fun (j : Nat) => if 0 ≤ h (a + (j : Int)) then some (a + (j : Int), h (a + (j : Int))) else none
theorem pts_succ (h : Int → Int) (a : Int) (n : Nat) : pts h a (n + 1) = pts h a n ++ (if 0 ≤ h (a + (n : Int)) then [(a + (n : Int), h (a + (n : Int)))] else []) := by
  unfold pts
  rw [List.range_succ, List.filterMap_append]
  congr 1
  by_cases hc : 0 ≤ h (a + (n : Int)) <;> simp [hc]
theorem pts_length (h : Int → Int) (a : Int) (n : Nat) : (pts h a n).length ≤ n := by
  have := List.length_filterMap_le (fun (j : Nat) => if 0 ≤ h (a + (j : Int)) then some (a + (j : Int), h (a + (j : Int))) else none) (List.range n)
  rwa [List.length_range] at this
theorem filterMap_none {α β : Type} {l : List α} {f : α → Option β} (h : ∀ x ∈ l, f x = none) : l.filterMap f = [] := by
  induction l with
  | nil => rfl
  | cons x r ih => rw [List.filterMap_cons, h x (by simp)]; exact ih (fun y hy => h y (by simp [hy]))
/-- the points of the definition -/
theorem points_pts {k : KE} {a b q : Int} {l : List FA} {s : Nat} {c : Nat} (hs : (s : Int) = max a 0) (hc : (s : Int) + (c : Int) = min b 1024) : F7.points k a b q l = pts (fun t => vv t (sel k q l)) (s : Int) c := by
  have hle : s + c ≤ 1024 := by omega
  unfold F7.points pts
  rw [show 1024 = s + c + (1024 - s - c) by omega, List.range_add, List.range_add, List.filterMap_append, List.filterMap_append]
  rw [filterMap_none (l := List.range s) (fun t ht => if_neg (fun e => by have := List.mem_range.1 ht; omega))]
  rw [filterMap_none (l := (List.range (1024 - s - c)).map (s + c + ·)) (fun t ht => if_neg (fun e => by
    obtain ⟨u, hu, rfl⟩ := List.mem_map.1 ht
    have := List.mem_range.1 hu
    omega))]
  rw [List.nil_append, List.append_nil, List.filterMap_map]
  refine F7.filterMap_same fun j hj => ?_
  have hjc := List.mem_range.1 hj
  have hv := val_vv k ((s : Int) + (j : Int)) q l
  simp only [Function.comp, Int.natCast_add]
  rw [hv]
  by_cases hn : vv ((s : Int) + (j : Int)) (sel k q l) < 0
  · rw [if_pos hn, if_neg (fun e => by simp at e), if_neg (by omega)]
  · rw [if_neg hn, if_pos ⟨by omega, by omega, rfl⟩, if_pos (by omega)]
theorem points_none {k : KE} {a b q : Int} {l : List FA} (h : min b 1024 ≤ max a 0) : F7.points k a b q l = [] := by
  unfold F7.points
  exact filterMap_none (fun t ht => if_neg (fun e => by have := List.mem_range.1 ht; omega))
set_option maxRecDepth 100000 in
set_option maxHeartbeats 4000000 in
theorem points_any (v : Value) (L : List FA) (k : KE) (a b q : Int) (w : World) (hv : FS w v L) (hL : L.length ≤ 1000000) (h20 : (sel k q L).length ≤ 19) :
    Calls Try.prog 21 #[v, KV k, .int .i64 a, .int .i64 b, .int .i64 q] w fun e w' => ∃ u, e = .returned u ∧ PS w' u (F7.points k a b q L) ∧ Below w.heap.size w w' := by
  obtain ⟨p, cp, hvf⟩ := hv.form
  obtain ⟨m, hm⟩ : ∃ m, m = L.length := ⟨_, rfl⟩
  rw [← hm] at hvf
  subst hvf
  have HV := hid hv; have HL := hid hL; have H20 := hid h20
  clear hv hL h20 hm
  by_cases hab : min b 1024 ≤ max a 0
  · have HP := hid (points_none (k := k) (q := q) (l := L) hab)
    have hdec : decide (min b 1024 ≤ max a 0) = true := decide_eq_true hab
    have hB0 := hid ((Below.refl _ w).alloc (Nat.le_refl _) (.cells #[.int .i64 k.1, .int .i64 k.2.1, .int .i64 k.2.2] 24))
    go_enter Try.func21, Try.ntmps21
    go_wp2
    go_ret
    exact ⟨_, rfl, .inl ⟨rfl, HP.out⟩, hB0.out⟩
  · obtain ⟨s, hs⟩ : ∃ s : Nat, (s : Int) = max a 0 := ⟨(max a 0).toNat, by omega⟩
    obtain ⟨c, hc⟩ : ∃ c : Nat, (s : Int) + (c : Int) = min b 1024 := ⟨(min b 1024 - max a 0).toNat, by omega⟩
    have hc1 : 1 ≤ c := by omega
    have hle : (s : Int) + (c : Int) ≤ 1024 := by omega
    have HP := hid (points_pts (k := k) (q := q) (l := L) hs hc)
    have HSa : max a 0 = (s : Int) := hs.symm
    have HCb : min b 1024 = (s : Int) + (c : Int) := hc.symm
    have hB0 := (Below.refl _ w).alloc (Nat.le_refl _) (.cells #[.int .i64 k.1, .int .i64 k.2.1, .int .i64 k.2.2] 24)
    have HB0 := hid hB0
    have VV := hid (values_any (.slice p m cp) L k (s : Int) c ((s : Int) + (c : Int)) q (w.alloc (.cells #[.int .i64 k.1, .int .i64 k.2.1, .int .i64 k.2.2] 24)) (HV.out.ups hB0) (by omega) rfl hle hc1 HL.out H20.out)
    have hdec : decide ((s : Int) + (c : Int) ≤ (s : Int)) = false := decide_eq_false (by omega)
    clear hab hs hc hB0
    go_enter Try.func21, Try.ntmps21
    go_wp2_with fail
    refine VV.out.mono ?_
    rintro e w2 ⟨g, rfl, hg, hbg, hbl⟩
    have hgs := hbg.lt
    have HBG := hid hbg
    have HB2 := hid (below_t HB0.out hbl)
    obtain ⟨h, hh⟩ : ∃ h, h = fun t => vv t (sel k q L) := ⟨_, rfl⟩
    rw [← hh] at HBG HP
    clear hbg hbl hg VV HV HL H20 HB0 hh hdec HSa HCb
    go_wp2_with fail
    go_loopw [27, 10] (fun i u wr => ∃ n : Nat, n ≤ c ∧ i = .int .i64 n ∧ Hid (PO wr w2.heap.size u (pts h (s : Int) n)) ∧ Hid (Below w2.heap.size w2 wr)) (fun i _ _ => c - (intOf i).toNat)
    case atStart => exact ⟨0, by omega, rfl, hid (go_nil _ _), hid (Below.refl _ _)⟩
    case round =>
      obtain ⟨n, hn, rfl, hpo, hbl⟩ := hrel
      by_cases hlt : n < c
      · have hcell := (HBG.out.below hbl.out hgs).cell n _ (rowOf_get h (s : Int) c n hlt)
        have hps := pts_succ h (s : Int) n
        obtain ⟨z, hz⟩ : ∃ z, z = h ((s : Int) + (n : Int)) := ⟨_, rfl⟩
        rw [← hz] at hcell hps
        clear hz
        by_cases hz : 0 ≤ z
        · rw [if_pos hz] at hps
          obtain ⟨g', cap', w3, happ, ho, hb3⟩ := app_point' hpo.out ((s : Int) + (n : Int), z) (by have := pts_length h (s : Int) n; omega) hbl.out.size
          rw [← hps] at ho
          have HAPP := hid happ; have HO := hid ho; have HB3 := hid (hbl.out.trans hb3)
          have hzd : decide (-1 < z) = true := decide_eq_true (by omega)
          clear happ ho hb3 hps hpo hbl hz
          go_wp2_with (at_builtin; refine wpList_append_run rfl (.tmp 34) (.tmp 40) 41 41 rfl _ _ _ ?_ ?_ HAPP.out ?_; exact rfl; exact rfl)
          go_roundw
          case rel => exact ⟨n + 1, by omega, by go_num, HO, HB3⟩
          case measure => simp [intOf]; omega
        · rw [if_neg hz, List.append_nil] at hps
          rw [← hps] at hpo
          have hzd : decide (-1 < z) = false := decide_eq_false (by omega)
          clear hps hz
          go_wp2
          go_roundw
          case rel => exact ⟨n + 1, by omega, by go_num, hpo, hbl⟩
          case measure => simp [intOf]; omega
      · obtain rfl : n = c := by omega
        rw [← HP.out] at hpo
        have HF := hid (below_t HB2.out hbl.out)
        clear hbl
        go_wp2
        go_ret
        exact ⟨_, rfl, hpo.out.gs, HF.out⟩
end Go.Proofs.Ytbejjindkcjecaa

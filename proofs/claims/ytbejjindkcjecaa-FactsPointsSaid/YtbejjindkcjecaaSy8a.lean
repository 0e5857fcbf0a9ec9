/- Contract: symMerge of the stable sort, both lists longer. -/
import Derived.Test.YtbejjindkcjecaaA
import Derived.Shelf.SlSortCmp.KitK
import Derived.Sort.WalkB2
import Derived.Sort.WalkB12
import Derived.Sort.LotA
import Derived.Deep.LoopGhost
import Derived.Shelf.SlSortCmp.InsertionK
import Derived.BigQuiet
import Derived.Shelf.SlSortCmp.PartialInsertionK
namespace Go.Proofs.Ytbejjindkcjecaa
open Go.RowKit Go Go.Shelf Go.Lib Go.Sort Go.Proofs
set_option linter.unusedVariables false
set_option linter.unusedSimpArgs false
/-- where the search of the merge ends -/
def Fd {α : Type} [Inhabited α] (cf : α → α → Int) (d : Array α) (n lo hi s : Nat) : Prop := lo ≤ s ∧ s ≤ hi ∧ (∀ t, lo ≤ t → t < s → 0 ≤ cf d[n - 1 - t]! d[t]!) ∧ (∀ t, s ≤ t → t < hi → cf d[n - 1 - t]! d[t]! < 0)
variable {P : Program} {α : Type} [Inhabited α]
set_option maxHeartbeats 80000000 in
set_option maxRecDepth 1000000 in
theorem symBothA_k (mixed : P.follows .mixedOrders = true) (F : P.funcs[81]? = some Try.f81)
    (t0 : P.underlying 0 = some (TypeDesc.tuple #[])) (a0 : ∀ w, (isAgg 0).run P w = .ok false w) (z0 : ∀ w, (Go.sizeOf 0).run P w = .ok 1 w) (v0 : ∀ w, (zeroValue 0).run P w = .ok (Value.tuple #[]) w)
    (t3 : P.underlying 3 = some (TypeDesc.int IntKind.i64)) (a3 : ∀ w, (isAgg 3).run P w = .ok false w) (z3 : ∀ w, (Go.sizeOf 3).run P w = .ok 1 w) (v3 : ∀ w, (zeroValue 3).run P w = .ok (Value.int IntKind.i64 0) w)
    (t4 : P.underlying 4 = some TypeDesc.bool) (a4 : ∀ w, (isAgg 4).run P w = .ok false w) (z4 : ∀ w, (Go.sizeOf 4).run P w = .ok 1 w) (v4 : ∀ w, (zeroValue 4).run P w = .ok (Value.bool false) w)
    (t22 : P.underlying 22 = some (TypeDesc.slice 28)) (a22 : ∀ w, (isAgg 22).run P w = .ok false w) (z22 : ∀ w, (Go.sizeOf 22).run P w = .ok 1 w) (v22 : ∀ w, (zeroValue 22).run P w = .ok (Value.slice none 0 0) w)
    (t25 : P.underlying 63 = some (TypeDesc.func #[28, 28] #[3] false)) (a25 : ∀ w, (isAgg 63).run P w = .ok false w) (z25 : ∀ w, (Go.sizeOf 63).run P w = .ok 1 w) (v25 : ∀ w, (zeroValue 63).run P w = .ok Value.nilFunc w)
    (t92 : P.underlying 92 = some (TypeDesc.int IntKind.u64)) (a92 : ∀ w, (isAgg 92).run P w = .ok false w) (z92 : ∀ w, (Go.sizeOf 92).run P w = .ok 1 w) (v92 : ∀ w, (zeroValue 92).run P w = .ok (Value.int IntKind.u64 0) w)
    (k : Nat) (aE : ∀ w, (isAgg 28).run P w = .ok true w) (zE : ∀ w, (Go.sizeOf 28).run P w = .ok k w) (enc : α → List Value) (cf : α → α → Int) (g : Nat) (cb : Array Value) (blk off cap a m b : Nat) (d0 d : Array α) (w0 w : World)
    (eg : ∀ args w, (callFunc g args).run P w = .ok (.enter g args) w) (e87 : ∀ args w, (callFunc 87 args).run P w = .ok (.enter 87 args) w) (e81 : ∀ args w, (callFunc 81 args).run P w = .ok (.enter 81 args) w) (hcmp : CmpLays P g cb enc k cf blk off d0.size w0)
    (R : RowK enc k w0 blk off d0) (hs : d0.size = d.size) (S : SWK enc k w0 blk off d w) (mid n lo hi : Nat) (hmid : mid = (a + b) / 2) (hn : n = mid + m) (hlo : lo = if mid < m then n - b else a) (hhi : hi = if mid < m then mid else m) (hgt : mid < m) (ham : a + 2 ≤ m) (hmb : m + 2 ≤ b) (hb : b ≤ d.size) (hsz : d.size < 1000000000)
    (hmono : ∀ s t, lo ≤ s → s ≤ t → t < hi → 0 ≤ cf d[n - 1 - t]! d[t]! → 0 ≤ cf d[n - 1 - s]! d[s]!)
    (T1 T2 T3 : Nat → Array α → Prop)
    (hrot : ∀ s W, Fd cf d n lo hi s → SWK enc k w0 blk off d W → s < m → m < n - s → Calls P 87 #[.slice (some ⟨blk, off, none⟩) d.size cap, .int .i64 s, .int .i64 m, .int .i64 (n - s : Nat), .func (.func g) #[] cb] W fun e w' => e = .returned (.tuple #[]) ∧ ∃ d', T1 s d' ∧ SWK enc k w0 blk off d' w')
    (hno1 : ∀ s, Fd cf d n lo hi s → ¬ (s < m ∧ m < n - s) → T1 s d)
    (hleft : ∀ s d' W, Fd cf d n lo hi s → T1 s d' → SWK enc k w0 blk off d' W → a < s → s < mid → Calls P 81 #[.slice (some ⟨blk, off, none⟩) d.size cap, .int .i64 a, .int .i64 s, .int .i64 mid, .func (.func g) #[] cb] W fun e w' => e = .returned (.tuple #[]) ∧ ∃ d', T2 s d' ∧ SWK enc k w0 blk off d' w')
    (hno2 : ∀ s d', Fd cf d n lo hi s → T1 s d' → ¬ (a < s ∧ s < mid) → T2 s d')
    (hright : ∀ s d' W, Fd cf d n lo hi s → T2 s d' → SWK enc k w0 blk off d' W → mid < n - s → n - s < b → Calls P 81 #[.slice (some ⟨blk, off, none⟩) d.size cap, .int .i64 mid, .int .i64 (n - s : Nat), .int .i64 b, .func (.func g) #[] cb] W fun e w' => e = .returned (.tuple #[]) ∧ ∃ d', T3 s d' ∧ SWK enc k w0 blk off d' w')
    (hno3 : ∀ s d', Fd cf d n lo hi s → T2 s d' → ¬ (mid < n - s ∧ n - s < b) → T3 s d') :
    Calls P 81 #[.slice (some ⟨blk, off, none⟩) d.size cap, .int .i64 a, .int .i64 m, .int .i64 b, .func (.func g) #[] cb] w fun e w' => e = .returned (.tuple #[]) ∧
      ∃ s d', Fd cf d n lo hi s ∧ T3 s d' ∧ SWK enc k w0 blk off d' w' := by
  have HC : Aside _ := hcmp
  have S0 : Aside (SWK enc k w0 blk off d w) := S
  have HM := hid hmono
  have HR := hid hrot; have HL := hid hleft; have HG := hid hright; have H1 := hid hno1; have H2 := hid hno2; have H3 := hid hno3
  have hma0 : ¬ ((m : Int) - (a : Int) = 1) := by omega
  have hma1 : ¬ ((b : Int) - (m : Int) = 1) := by omega
  have hz1 : ((a : Int) + (b : Int)) / 2 = (mid : Int) := by omega
  have hz2 : (mid : Int) + (m : Int) = (n : Int) := by omega
  have hnn : mid + m ≤ n ∧ n ≤ mid + m := by omega
  have hmm : a + b ≤ 2 * mid + 1 ∧ 2 * mid ≤ a + b := by omega
  clear S hcmp hmono hrot hleft hright hno1 hno2 hno3 hmid hn
  by_cases hgt1 : mid < m
  · rw [if_pos hgt] at hlo hhi
    have hgtz : (mid : Int) < (m : Int) := by omega
    have hb1 : b ≤ n := by omega
    have hl1 : a ≤ lo ∧ lo ≤ hi ∧ hi ≤ mid := by omega
    have hl2 : ∀ t, lo ≤ t → t < hi → n - 1 - t < d.size ∧ t < n := fun t h1 h2 => by omega
    have hz3 : (n : Int) - (b : Int) = (lo : Int) := by omega
    have hz4 : (mid : Int) = (hi : Int) := by omega
    obtain ⟨p1, hp1⟩ : ∃ p1, p1 = n - 1 := ⟨_, rfl⟩
    have hz5 : (n : Int) - 1 = (p1 : Int) := by omega
    have hz6 : p1 + 1 ≤ n ∧ n ≤ p1 + 1 := by omega
    clear hp1
    have HZ4 := hid hz4
    clear hz4
    go_enter F, Try.ntmps81
    go_wp2
    generalize ((m : Int) - (a : Int) == 1) = bq
    generalize ((b : Int) - (m : Int) == 1) = bq2
    clear hma0 hma1
    go_loopg [20, 21, 23] (hi - lo) (fun kx s8 s9 s12 wr => ∃ (i j : Nat), s8 = .int .i64 i ∧ s9 = .int .i64 j ∧ lo ≤ i ∧ i ≤ j ∧ j ≤ hi ∧ j - i ≤ kx ∧ Aside (SWK enc k w0 blk off d wr) ∧
      Hid ((∀ t, lo ≤ t → t < i → 0 ≤ cf d[n - 1 - t]! d[t]!) ∧ (∀ t, j ≤ t → t < hi → cf d[n - 1 - t]! d[t]! < 0)))
    case atStart => exact ⟨lo, hi, by first | rfl | (rw [← hz3]; go_num), by rw [← HZ4.out], Nat.le_refl _, hl1.2.1, Nat.le_refl _, Nat.le_refl _, S0, hid ⟨fun t h1 h2 => by omega, fun t h1 h2 => by omega⟩⟩
    case round =>
      clear S0
      obtain ⟨i, j, rfl, rfl, hai, hij, hjm, hkx, S1, HV⟩ := hrel
      by_cases hlt : i < j
      · have hltz : (i : Int) < (j : Int) := by omega
        obtain ⟨h, hh⟩ : ∃ h : Nat, h = (i + j) / 2 := ⟨_, rfl⟩
        have hih : i ≤ h := by omega
        have hhj : h < j := by omega
        have hz : ((i : Int) + (j : Int)) / 2 = (h : Int) := by omega
        obtain ⟨q, hq⟩ : ∃ q, q = n - 1 - h := ⟨_, rfl⟩
        have hqz : (p1 : Int) - (h : Int) = (q : Int) := by omega
        have hq1 := (hl2 h (by omega) (by omega)).1
        have hqw : IntKind.i64.wrap (q : Int) = (q : Int) := by rw [IntKind.wrap_i64]; omega
        have ea90 : ((q : Int)).toNat = q := by omega
        have pa90 : (0 : Int) ≤ (q : Int) := by omega
        have ba90 : (q : Int) < (d.size : Int) := by omega
        have ec90 : ((h : Int)).toNat = h := by omega
        have pc90 : (0 : Int) ≤ (h : Int) := by omega
        have bc90 : (h : Int) < (d.size : Int) := by omega
        obtain ⟨x90, hx90⟩ : ∃ x, x = d[q]! := ⟨_, rfl⟩
        obtain ⟨y90, hy90⟩ : ∃ x, x = d[h]! := ⟨_, rfl⟩
        have l90a := S1.out.ld R (by omega) P q (by omega)
        have l90b := S1.out.ld R (by omega) P h (by omega)
        rw [← hx90] at l90a
        rw [← hy90] at l90b
        have hc90 := S1.out.cmp HC.out (by omega) x90 y90
        have HX := hid (show x90 = d[n - 1 - h]! by rw [hx90, hq]); have HY := hid hy90
        clear hx90 hy90 hh hq hq1
        go_wp2_with fail
        by_cases hv90 : cf x90 y90 < 0
        · have hd90 : decide (cf x90 y90 < 0) = true := decide_eq_true hv90
          go_quiet_grown (first | (go_at_fn g; refine Calls.grown_of (hc90 _ _)))
          have S2 : Aside (SWK enc k w0 blk off d (grow (wr.drewN nq) osq)) := S1.out.grown nq osq
          clear l90a l90b hc90 S1
          generalize grow (wr.drewN nq) osq = w2 at S2 ⊢
          clear nq osq
          go_wp2
          go_roundg (h - i)
          case measure => omega
          case rel =>
            refine ⟨i, h, rfl, by first | rfl | go_num, hai, hih, by omega, Nat.le_refl _, S2, hid ⟨HV.out.1, fun t h1 h2 => ?_⟩⟩
            have hn : ¬ 0 ≤ cf d[n - 1 - t]! d[t]! := fun hc => by
              have e := HM.out h t (by omega) h1 h2 hc
              rw [← HX.out, ← HY.out] at e; omega
            omega
        · have hd90 : decide (cf x90 y90 < 0) = false := decide_eq_false hv90
          go_quiet_grown (first | (go_at_fn g; refine Calls.grown_of (hc90 _ _)))
          have S2 : Aside (SWK enc k w0 blk off d (grow (wr.drewN nq) osq)) := S1.out.grown nq osq
          clear l90a l90b hc90 S1
          generalize grow (wr.drewN nq) osq = w2 at S2 ⊢
          clear nq osq
          go_wp2
          go_roundg (j - (h + 1))
          case measure => omega
          case rel =>
            refine ⟨h + 1, j, by first | rfl | go_num, rfl, by omega, by omega, hjm, Nat.le_refl _, S2, hid ⟨fun t h1 h2 => ?_, HV.out.2⟩⟩
            exact HM.out t h h1 (by omega) (by omega) (by rw [← HX.out, ← HY.out]; omega)
      · obtain rfl : i = j := by omega
        have FD : Fd cf d n lo hi i := ⟨hai, hjm, HV.out.1, HV.out.2⟩
        obtain ⟨e, he⟩ : ∃ e, e = n - i := ⟨_, rfl⟩
        have hze : (n : Int) - (i : Int) = (e : Int) := by omega
        have hwe : IntKind.i64.wrap (e : Int) = (e : Int) := by rw [IntKind.wrap_i64]; omega
        have he1 : e + i ≤ n ∧ n ≤ e + i := by omega
        have CR := fun W (S : SWK enc k w0 blk off d W) (h1 : i < m) (h2 : m < e) => HR.out i W FD S h1 (by omega)
        have CL := fun d' W T (S : SWK enc k w0 blk off d' W) h1 h2 => HL.out i d' W FD T S h1 h2
        have CG := fun d' W T (S : SWK enc k w0 blk off d' W) (h1 : mid < e) (h2 : e < b) => HG.out i d' W FD T S (by omega) (by omega)
        have G1 : ¬ (i < m ∧ m < e) → T1 i d := fun h => H1.out i FD (by omega)
        have G2 := fun d' T h => H2.out i d' FD T h
        have G3 : ∀ d', T2 i d' → ¬ (mid < e ∧ e < b) → T3 i d' := fun d' T h => H3.out i d' FD T (by omega)
        rw [← he] at CR CG
        have KR := hid CR; have KL := hid CL; have KG := hid CG; have K1 := hid G1; have K2 := hid G2; have K3 := hid G3; have KF := hid FD
        clear CR CL CG G1 G2 G3 FD he HR HL HG H1 H2 H3 HM HV HC
        have y0 : i < m := by omega
        have yz0 : (i : Int) < (m : Int) := by omega
        by_cases z0 : m < e
        · have zz0 : (m : Int) < (e : Int) := by omega
          by_cases y1 : a < i
          · have yz1 : (a : Int) < (i : Int) := by omega
            by_cases z1 : i < mid
            · have zz1 : (i : Int) < (mid : Int) := by omega
              by_cases y2 : mid < e
              · have yz2 : (mid : Int) < (e : Int) := by omega
                by_cases z2 : e < b
                · have zz2 : (e : Int) < (b : Int) := by omega
                  go_wp2_with fail
                  refine (KR.out _ S1.out y0 z0).mono ?_
                  rintro _ w1 ⟨rfl, d1, T1, S2⟩
                  have S2 : Aside _ := S2
                  go_wp2_with fail
                  refine (KL.out _ _ T1 S2.out y1 z1).mono ?_
                  rintro _ w2 ⟨rfl, d2, T2, S3⟩
                  have S3 : Aside _ := S3
                  go_wp2_with fail
                  refine (KG.out _ _ T2 S3.out y2 z2).mono ?_
                  rintro _ w3 ⟨rfl, d3, T3, S4⟩
                  have S4 : Aside _ := S4
                  go_wp2_with fail
                  go_end0
                  exact ⟨rfl, i, _, KF.out, T3, S4.out⟩
                · have zz2 : ¬ ((e : Int) < (b : Int)) := by omega
                  go_wp2_with fail
                  refine (KR.out _ S1.out y0 z0).mono ?_
                  rintro _ w1 ⟨rfl, d1, T1, S2⟩
                  have S2 : Aside _ := S2
                  go_wp2_with fail
                  refine (KL.out _ _ T1 S2.out y1 z1).mono ?_
                  rintro _ w2 ⟨rfl, d2, T2, S3⟩
                  have S3 : Aside _ := S3
                  go_wp2_with fail
                  have T3 := K3.out _ T2 (by omega)
                  go_end0
                  exact ⟨rfl, i, _, KF.out, T3, S3.out⟩
              · have yz2 : ¬ ((mid : Int) < (e : Int)) := by omega
                exfalso; omega
            · have zz1 : ¬ ((i : Int) < (mid : Int)) := by omega
              by_cases y2 : mid < e
              · have yz2 : (mid : Int) < (e : Int) := by omega
                by_cases z2 : e < b
                · have zz2 : (e : Int) < (b : Int) := by omega
                  exfalso; omega
                · have zz2 : ¬ ((e : Int) < (b : Int)) := by omega
                  exfalso; omega
              · have yz2 : ¬ ((mid : Int) < (e : Int)) := by omega
                exfalso; omega
          · have yz1 : ¬ ((a : Int) < (i : Int)) := by omega
            by_cases y2 : mid < e
            · have yz2 : (mid : Int) < (e : Int) := by omega
              by_cases z2 : e < b
              · have zz2 : (e : Int) < (b : Int) := by omega
                go_wp2_with fail
                refine (KR.out _ S1.out y0 z0).mono ?_
                rintro _ w1 ⟨rfl, d1, T1, S2⟩
                have S2 : Aside _ := S2
                go_wp2_with fail
                have T2 := K2.out _ T1 (by omega)
                refine (KG.out _ _ T2 S2.out y2 z2).mono ?_
                rintro _ w3 ⟨rfl, d3, T3, S4⟩
                have S4 : Aside _ := S4
                go_wp2_with fail
                go_end0
                exact ⟨rfl, i, _, KF.out, T3, S4.out⟩
              · have zz2 : ¬ ((e : Int) < (b : Int)) := by omega
                go_wp2_with fail
                refine (KR.out _ S1.out y0 z0).mono ?_
                rintro _ w1 ⟨rfl, d1, T1, S2⟩
                have S2 : Aside _ := S2
                go_wp2_with fail
                have T2 := K2.out _ T1 (by omega)
                have T3 := K3.out _ T2 (by omega)
                go_end0
                exact ⟨rfl, i, _, KF.out, T3, S2.out⟩
            · have yz2 : ¬ ((mid : Int) < (e : Int)) := by omega
              exfalso; omega
        · have zz0 : ¬ ((m : Int) < (e : Int)) := by omega
          by_cases y1 : a < i
          · have yz1 : (a : Int) < (i : Int) := by omega
            by_cases z1 : i < mid
            · have zz1 : (i : Int) < (mid : Int) := by omega
              by_cases y2 : mid < e
              · have yz2 : (mid : Int) < (e : Int) := by omega
                by_cases z2 : e < b
                · have zz2 : (e : Int) < (b : Int) := by omega
                  exfalso; omega
                · have zz2 : ¬ ((e : Int) < (b : Int)) := by omega
                  exfalso; omega
              · have yz2 : ¬ ((mid : Int) < (e : Int)) := by omega
                exfalso; omega
            · have zz1 : ¬ ((i : Int) < (mid : Int)) := by omega
              by_cases y2 : mid < e
              · have yz2 : (mid : Int) < (e : Int) := by omega
                by_cases z2 : e < b
                · have zz2 : (e : Int) < (b : Int) := by omega
                  go_wp2_with fail
                  have T1 := K1.out (by omega)
                  have T2 := K2.out _ T1 (by omega)
                  refine (KG.out _ _ T2 S1.out y2 z2).mono ?_
                  rintro _ w3 ⟨rfl, d3, T3, S4⟩
                  have S4 : Aside _ := S4
                  go_wp2_with fail
                  go_end0
                  exact ⟨rfl, i, _, KF.out, T3, S4.out⟩
                · have zz2 : ¬ ((e : Int) < (b : Int)) := by omega
                  exfalso; omega
              · have yz2 : ¬ ((mid : Int) < (e : Int)) := by omega
                exfalso; omega
          · have yz1 : ¬ ((a : Int) < (i : Int)) := by omega
            by_cases y2 : mid < e
            · have yz2 : (mid : Int) < (e : Int) := by omega
              by_cases z2 : e < b
              · have zz2 : (e : Int) < (b : Int) := by omega
                exfalso; omega
              · have zz2 : ¬ ((e : Int) < (b : Int)) := by omega
                exfalso; omega
            · have yz2 : ¬ ((mid : Int) < (e : Int)) := by omega
              exfalso; omega
  · exact absurd hgt hgt1
end Go.Proofs.Ytbejjindkcjecaa

/- Contract: symMerge of the stable sort, the second list of one element. -/
import Derived.Test.YtbejjindkcjecaaSy3
import Derived.BigQuiet
import Derived.Shelf.SlSortCmp.PartialInsertionK
namespace Go.Proofs.Ytbejjindkcjecaa
open Go.RowKit Go Go.Shelf Go.Lib Go.Sort Go.Proofs
set_option linter.unusedVariables false
set_option linter.unusedSimpArgs false
/-- n changes of neighbours, downwards from a -/
def shd {α : Type} [Inhabited α] (d : Array α) (a : Nat) : Nat → Array α
  | 0 => d
  | n + 1 => shd (swp d a (a - 1)) (a - 1) n
variable {P : Program} {α : Type} [Inhabited α]
set_option maxHeartbeats 8000000 in
set_option maxRecDepth 1000000 in
theorem symRight_k (mixed : P.follows .mixedOrders = true) (F : P.funcs[81]? = some Try.f81)
    (t0 : P.underlying 0 = some (TypeDesc.tuple #[])) (a0 : ∀ w, (isAgg 0).run P w = .ok false w) (z0 : ∀ w, (Go.sizeOf 0).run P w = .ok 1 w) (v0 : ∀ w, (zeroValue 0).run P w = .ok (Value.tuple #[]) w)
    (t3 : P.underlying 3 = some (TypeDesc.int IntKind.i64)) (a3 : ∀ w, (isAgg 3).run P w = .ok false w) (z3 : ∀ w, (Go.sizeOf 3).run P w = .ok 1 w) (v3 : ∀ w, (zeroValue 3).run P w = .ok (Value.int IntKind.i64 0) w)
    (t4 : P.underlying 4 = some TypeDesc.bool) (a4 : ∀ w, (isAgg 4).run P w = .ok false w) (z4 : ∀ w, (Go.sizeOf 4).run P w = .ok 1 w) (v4 : ∀ w, (zeroValue 4).run P w = .ok (Value.bool false) w)
    (t22 : P.underlying 22 = some (TypeDesc.slice 28)) (a22 : ∀ w, (isAgg 22).run P w = .ok false w) (z22 : ∀ w, (Go.sizeOf 22).run P w = .ok 1 w) (v22 : ∀ w, (zeroValue 22).run P w = .ok (Value.slice none 0 0) w)
    (t25 : P.underlying 63 = some (TypeDesc.func #[28, 28] #[3] false)) (a25 : ∀ w, (isAgg 63).run P w = .ok false w) (z25 : ∀ w, (Go.sizeOf 63).run P w = .ok 1 w) (v25 : ∀ w, (zeroValue 63).run P w = .ok Value.nilFunc w)
    (t92 : P.underlying 92 = some (TypeDesc.int IntKind.u64)) (a92 : ∀ w, (isAgg 92).run P w = .ok false w) (z92 : ∀ w, (Go.sizeOf 92).run P w = .ok 1 w) (v92 : ∀ w, (zeroValue 92).run P w = .ok (Value.int IntKind.u64 0) w)
    (k : Nat) (aE : ∀ w, (isAgg 28).run P w = .ok true w) (zE : ∀ w, (Go.sizeOf 28).run P w = .ok k w) (enc : α → List Value) (cf : α → α → Int) (g : Nat) (cb : Array Value) (blk off cap a m b : Nat) (d0 d : Array α) (w0 w : World)
    (eg : ∀ args w, (callFunc g args).run P w = .ok (.enter g args) w) (hcmp : CmpLays P g cb enc k cf blk off d0.size w0)
    (R : RowK enc k w0 blk off d0) (hs : d0.size = d.size) (S : SWK enc k w0 blk off d w) (ham : a + 2 ≤ m) (hmb : b = m + 1) (hb : b ≤ d.size) (hsz : d.size < 1000000000)
    (hmono : ∀ s t, a ≤ s → s ≤ t → t < m → cf d[m]! d[s]! < 0 → cf d[m]! d[t]! < 0) :
    Calls P 81 #[.slice (some ⟨blk, off, none⟩) d.size cap, .int .i64 a, .int .i64 m, .int .i64 b, .func (.func g) #[] cb] w fun e w' => e = .returned (.tuple #[]) ∧
      ∃ i, a ≤ i ∧ i ≤ m ∧ (∀ t, a ≤ t → t < i → 0 ≤ cf d[m]! d[t]!) ∧ (∀ t, i ≤ t → t < m → cf d[m]! d[t]! < 0) ∧ SWK enc k w0 blk off (shd d m (m - i)) w' := by
  have HC : Aside _ := hcmp
  have S0 : Aside (SWK enc k w0 blk off d w) := S
  have HM := hid hmono
  have hma0 : ¬ ((m : Int) - (a : Int) = 1) := by omega
  have hma1 : (b : Int) - (m : Int) = 1 := by omega
  have hma2 : m < b := by omega
  have hma3 : b ≤ m + 1 := by omega
  clear S hcmp hmono hmb
  go_enter F, Try.ntmps81
  go_wp2
  generalize ((m : Int) - (a : Int) == 1) = bq
  clear hma0
  go_loopg [14, 15, 16] (m - a) (fun kx s8 s9 s12 wr => ∃ (i j : Nat), s8 = .int .i64 i ∧ s9 = .int .i64 j ∧ a ≤ i ∧ i ≤ j ∧ j ≤ m ∧ j - i ≤ kx ∧ Aside (SWK enc k w0 blk off d wr) ∧
    Hid ((∀ t, a ≤ t → t < i → 0 ≤ cf d[m]! d[t]!) ∧ (∀ t, j ≤ t → t < m → cf d[m]! d[t]! < 0)))
  case atStart => exact ⟨a, m, rfl, rfl, Nat.le_refl _, by omega, Nat.le_refl _, Nat.le_refl _, S0, hid ⟨fun t h1 h2 => by omega, fun t h1 h2 => by omega⟩⟩
  case round =>
    clear S0
    obtain ⟨i, j, rfl, rfl, hai, hij, hjm, hkx, S1, HV⟩ := hrel
    by_cases hlt : i < j
    · have hltz : (i : Int) < (j : Int) := by omega
      obtain ⟨h, hh⟩ : ∃ h : Nat, h = (i + j) / 2 := ⟨_, rfl⟩
      have hih : i ≤ h := by omega
      have hhj : h < j := by omega
      have hz : ((i : Int) + (j : Int)) / 2 = (h : Int) := by omega
      have ea90 : ((m : Int)).toNat = m := by omega
      have pa90 : (0 : Int) ≤ (m : Int) := by omega
      have ba90 : (m : Int) < (d.size : Int) := by omega
      have ec90 : ((h : Int)).toNat = h := by omega
      have pc90 : (0 : Int) ≤ (h : Int) := by omega
      have bc90 : (h : Int) < (d.size : Int) := by omega
      obtain ⟨x90, hx90⟩ : ∃ x, x = d[m]! := ⟨_, rfl⟩
      obtain ⟨y90, hy90⟩ : ∃ x, x = d[h]! := ⟨_, rfl⟩
      have l90a := S1.out.ld R (by omega) P m (by omega)
      have l90b := S1.out.ld R (by omega) P h (by omega)
      rw [← hx90] at l90a
      rw [← hy90] at l90b
      have hc90 := S1.out.cmp HC.out (by omega) x90 y90
      have HX := hid hx90; have HY := hid hy90
      clear hx90 hy90 hh
      go_wp2_with fail
      by_cases hv90 : cf x90 y90 < 0
      · have hd90 : decide (cf x90 y90 < 0) = true := decide_eq_true hv90
        go_quiet_grown (first | (go_at_fn g; refine Calls.grown_of (hc90 _ _)))
        have S2 : Aside (SWK enc k w0 blk off d (grow (wr.drewN nq) osq)) := S1.out.grown nq osq
        clear l90a l90b hc90 S1
        generalize grow (wr.drewN nq) osq = w2 at S2 ⊢
        clear nq osq
        go_wp2
        go_roundg (h - i)
        case measure => omega
        case rel =>
          refine ⟨i, h, rfl, by first | rfl | go_num, hai, hih, by omega, Nat.le_refl _, S2, hid ⟨HV.out.1, fun t h1 h2 => ?_⟩⟩
          exact HM.out h t (by omega) h1 h2 (by rw [← HX.out, ← HY.out]; exact hv90)
      · have hd90 : decide (cf x90 y90 < 0) = false := decide_eq_false hv90
        go_quiet_grown (first | (go_at_fn g; refine Calls.grown_of (hc90 _ _)))
        have S2 : Aside (SWK enc k w0 blk off d (grow (wr.drewN nq) osq)) := S1.out.grown nq osq
        clear l90a l90b hc90 S1
        generalize grow (wr.drewN nq) osq = w2 at S2 ⊢
        clear nq osq
        go_wp2
        go_roundg (j - (h + 1))
        case measure => omega
        case rel =>
          refine ⟨h + 1, j, by first | rfl | go_num, rfl, by omega, by omega, hjm, Nat.le_refl _, S2, hid ⟨fun t h1 h2 => ?_, HV.out.2⟩⟩
          have hn : ¬ cf d[m]! d[t]! < 0 := fun hc => by
            have e := HM.out t h h1 (by omega) (by omega) hc
            rw [← HX.out, ← HY.out] at e; omega
          omega
    · obtain rfl : i = j := by omega
      go_wp2_with fail
      go_loopg [17] (m - i) (fun kx s8 wr => ∃ (t : Nat) (dk : Array α), s8 = .int .i64 t ∧ i ≤ t ∧ t ≤ m ∧ t - i ≤ kx ∧ dk.size = d.size ∧ Aside (SWK enc k w0 blk off dk wr) ∧ Hid (shd dk t (t - i) = shd d m (m - i)))
      case atStart => exact ⟨m, d, rfl, by omega, Nat.le_refl _, Nat.le_refl _, rfl, S1, rfl⟩
      case round =>
        clear S1
        obtain ⟨t, dk, rfl, hit, htm, hkx, hds, S1, HE⟩ := hrel
        by_cases hlt : i < t
        · have hltz : (i : Int) < (t : Int) := by omega
          obtain ⟨u, hu⟩ : ∃ u, u = t - 1 := ⟨_, rfl⟩
          have ea44 : ((t : Int)).toNat = t := by omega
          have pa44 : (0 : Int) ≤ (t : Int) := by omega
          have ba44 : (t : Int) < (d.size : Int) := by omega
          have ez44 : (t : Int) - 1 = (u : Int) := by omega
          have ec44 : ((u : Int)).toNat = u := by omega
          have pc44 : (0 : Int) ≤ (u : Int) := by omega
          have bc44 : (u : Int) < (d.size : Int) := by omega
          have rc44 : IntKind.i64.wrap ((t : Int) - 1) = (u : Int) := by rw [IntKind.wrap_i64]; omega
          have S2 : Aside (SWK enc k w0 blk off (swp dk t u) ((wr.drew.setCells blk (off + t * k) (enc dk[u]!)).setCells blk (off + u * k) (enc dk[t]!))) := S1.out.swapped R t u (by omega) (by omega)
          have l44a := S1.out.ld1 R (by omega) P t (by omega)
          have l44b := S1.out.ld1 R (by omega) P u (by omega)
          have s44a := S1.out.st1 R (by omega) P t (by omega) dk[u]!
          have s44b := S1.out.st2 R (by omega) P t u (by omega) (by omega) dk[u]! dk[t]!
          have n44a : (enc dk[t]!).length = k := R.hk _
          have n44b : (enc dk[u]!).length = k := R.hk _
          have HU := hid hu
          have hu1 : u + 1 ≤ t := by omega
          have hu2 : t ≤ u + 1 := by omega
          generalize enc dk[t]! = cI44 at S2 l44a s44b n44a
          generalize enc dk[u]! = cJ44 at S2 l44b s44a s44b n44b
          clear S1 hu
          go_wp2_with fail
          go_big_region_o
          clear l44a l44b s44a s44b
          generalize (wr.drew.setCells blk (off + t * k) cJ44).setCells blk (off + u * k) cI44 = w2 at S2 ⊢
          go_wp2
          go_roundg (u - i)
          case measure => omega
          case rel =>
            refine ⟨u, swp dk t u, by first | rfl | go_num, by omega, by omega, Nat.le_refl _, by rw [size_swp]; exact hds, S2, hid ?_⟩
            have he := HE.out
            obtain ⟨q, hq⟩ : ∃ q, t - i = q + 1 := ⟨t - i - 1, by omega⟩
            rw [hq, shd, ← HU.out, show q = u - i by omega] at he
            exact he
        · obtain rfl : i = t := by omega
          go_wp2
          ((try simp only [Exit.inBlock, Exit.then]); refine bodyPost_ret (results_none rfl _ _ _) rfl ?_)
          have he := HE.out
          rw [Nat.sub_self, shd] at he
          exact ⟨rfl, i, hai, hjm, HV.out.1, HV.out.2, by rw [← he]; exact S1.out⟩
end Go.Proofs.Ytbejjindkcjecaa

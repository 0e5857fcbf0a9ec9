/- Contract: symMerge of the stable sort, the first list of one element. -/
import Derived.Test.YtbejjindkcjecaaSy2
import Derived.BigQuiet
import Derived.Shelf.SlSortCmp.PartialInsertionK
namespace Go.Proofs.Ytbejjindkcjecaa
open Go.RowKit Go Go.Shelf Go.Lib Go.Sort Go.Proofs
set_option linter.unusedVariables false
set_option linter.unusedSimpArgs false
/-- n changes of neighbours, upwards from a -/
def shf {α : Type} [Inhabited α] (d : Array α) (a : Nat) : Nat → Array α
  | 0 => d
  | n + 1 => shf (swp d a (a + 1)) (a + 1) n
variable {P : Program} {α : Type} [Inhabited α]
set_option maxHeartbeats 8000000 in
set_option maxRecDepth 1000000 in
theorem symLeft_k (mixed : P.follows .mixedOrders = true) (F : P.funcs[81]? = some Try.f81)
    (t0 : P.underlying 0 = some (TypeDesc.tuple #[])) (a0 : ∀ w, (isAgg 0).run P w = .ok false w) (z0 : ∀ w, (Go.sizeOf 0).run P w = .ok 1 w) (v0 : ∀ w, (zeroValue 0).run P w = .ok (Value.tuple #[]) w)
    (t3 : P.underlying 3 = some (TypeDesc.int IntKind.i64)) (a3 : ∀ w, (isAgg 3).run P w = .ok false w) (z3 : ∀ w, (Go.sizeOf 3).run P w = .ok 1 w) (v3 : ∀ w, (zeroValue 3).run P w = .ok (Value.int IntKind.i64 0) w)
    (t4 : P.underlying 4 = some TypeDesc.bool) (a4 : ∀ w, (isAgg 4).run P w = .ok false w) (z4 : ∀ w, (Go.sizeOf 4).run P w = .ok 1 w) (v4 : ∀ w, (zeroValue 4).run P w = .ok (Value.bool false) w)
    (t22 : P.underlying 22 = some (TypeDesc.slice 28)) (a22 : ∀ w, (isAgg 22).run P w = .ok false w) (z22 : ∀ w, (Go.sizeOf 22).run P w = .ok 1 w) (v22 : ∀ w, (zeroValue 22).run P w = .ok (Value.slice none 0 0) w)
    (t25 : P.underlying 63 = some (TypeDesc.func #[28, 28] #[3] false)) (a25 : ∀ w, (isAgg 63).run P w = .ok false w) (z25 : ∀ w, (Go.sizeOf 63).run P w = .ok 1 w) (v25 : ∀ w, (zeroValue 63).run P w = .ok Value.nilFunc w)
    (t92 : P.underlying 92 = some (TypeDesc.int IntKind.u64)) (a92 : ∀ w, (isAgg 92).run P w = .ok false w) (z92 : ∀ w, (Go.sizeOf 92).run P w = .ok 1 w) (v92 : ∀ w, (zeroValue 92).run P w = .ok (Value.int IntKind.u64 0) w)
    (k : Nat) (aE : ∀ w, (isAgg 28).run P w = .ok true w) (zE : ∀ w, (Go.sizeOf 28).run P w = .ok k w) (enc : α → List Value) (cf : α → α → Int) (g : Nat) (cb : Array Value) (blk off cap a m b : Nat) (d0 d : Array α) (w0 w : World)
    (eg : ∀ args w, (callFunc g args).run P w = .ok (.enter g args) w) (hcmp : CmpLays P g cb enc k cf blk off d0.size w0)
    (R : RowK enc k w0 blk off d0) (hs : d0.size = d.size) (S : SWK enc k w0 blk off d w) (ham : m = a + 1) (hmb : m ≤ b) (hb : b ≤ d.size) (hsz : d.size < 1000000000)
    (hmono : ∀ s t, m ≤ s → s ≤ t → t < b → cf d[t]! d[a]! < 0 → cf d[s]! d[a]! < 0) :
    Calls P 81 #[.slice (some ⟨blk, off, none⟩) d.size cap, .int .i64 a, .int .i64 m, .int .i64 b, .func (.func g) #[] cb] w fun e w' => e = .returned (.tuple #[]) ∧
      ∃ i, m ≤ i ∧ i ≤ b ∧ (∀ t, m ≤ t → t < i → cf d[t]! d[a]! < 0) ∧ (∀ t, i ≤ t → t < b → ¬ cf d[t]! d[a]! < 0) ∧ SWK enc k w0 blk off (shf d a (i - 1 - a)) w' := by
  have HC : Aside _ := hcmp
  have S0 : Aside (SWK enc k w0 blk off d w) := S
  have HM := hid hmono
  have hma1 : (m : Int) - (a : Int) = 1 := by omega
  have hma2 : a < m := by omega
  have hma3 : m ≤ a + 1 := by omega
  clear S hcmp hmono ham
  go_enter F, Try.ntmps81
  go_wp2
  go_loopg [10, 11, 12] (b - m) (fun kx s8 s9 s12 wr => ∃ (i j : Nat), s8 = .int .i64 i ∧ s9 = .int .i64 j ∧ m ≤ i ∧ i ≤ j ∧ j ≤ b ∧ j - i ≤ kx ∧ Aside (SWK enc k w0 blk off d wr) ∧
    Hid ((∀ t, m ≤ t → t < i → cf d[t]! d[a]! < 0) ∧ (∀ t, j ≤ t → t < b → ¬ cf d[t]! d[a]! < 0)))
  case atStart => exact ⟨m, b, rfl, rfl, Nat.le_refl _, hmb, Nat.le_refl _, Nat.le_refl _, S0, hid ⟨fun t h1 h2 => by omega, fun t h1 h2 => by omega⟩⟩
  case round =>
    clear S0
    obtain ⟨i, j, rfl, rfl, hmi, hij, hjb, hkx, S1, HV⟩ := hrel
    by_cases hlt : i < j
    · have hltz : (i : Int) < (j : Int) := by omega
      obtain ⟨h, hh⟩ : ∃ h : Nat, h = (i + j) / 2 := ⟨_, rfl⟩
      have hih : i ≤ h := by omega
      have hhj : h < j := by omega
      have hz : ((i : Int) + (j : Int)) / 2 = (h : Int) := by omega
      have ea90 : ((h : Int)).toNat = h := by omega
      have pa90 : (0 : Int) ≤ (h : Int) := by omega
      have ba90 : (h : Int) < (d.size : Int) := by omega
      have ec90 : ((a : Int)).toNat = a := by omega
      have pc90 : (0 : Int) ≤ (a : Int) := by omega
      have bc90 : (a : Int) < (d.size : Int) := by omega
      obtain ⟨x90, hx90⟩ : ∃ x, x = d[h]! := ⟨_, rfl⟩
      obtain ⟨y90, hy90⟩ : ∃ x, x = d[a]! := ⟨_, rfl⟩
      have l90a := S1.out.ld R (by omega) P h (by omega)
      have l90b := S1.out.ld R (by omega) P a (by omega)
      rw [← hx90] at l90a
      rw [← hy90] at l90b
      have hc90 := S1.out.cmp HC.out (by omega) x90 y90
      have HX := hid hx90; have HY := hid hy90
      clear hx90 hy90 hh
      go_wp2_with fail
      by_cases hv90 : cf x90 y90 < 0
      · have hd90 : decide (cf x90 y90 < 0) = true := decide_eq_true hv90
        go_quiet_grown (first | (go_at_fn g; refine Calls.grown_of (hc90 _ _)))
        have S2 : Aside (SWK enc k w0 blk off d (grow (wr.drewN nq) osq)) := S1.out.grown nq osq
        clear l90a l90b hc90 S1
        generalize grow (wr.drewN nq) osq = w2 at S2 ⊢
        clear nq osq
        go_wp2
        go_roundg (j - (h + 1))
        case measure => omega
        case rel =>
          refine ⟨h + 1, j, by first | rfl | go_num, rfl, by omega, by omega, hjb, Nat.le_refl _, S2, hid ⟨fun t h1 h2 => ?_, HV.out.2⟩⟩
          exact HM.out t h h1 (by omega) (by omega) (by rw [← HX.out, ← HY.out]; exact hv90)
      · have hd90 : decide (cf x90 y90 < 0) = false := decide_eq_false hv90
        go_quiet_grown (first | (go_at_fn g; refine Calls.grown_of (hc90 _ _)))
        have S2 : Aside (SWK enc k w0 blk off d (grow (wr.drewN nq) osq)) := S1.out.grown nq osq
        clear l90a l90b hc90 S1
        generalize grow (wr.drewN nq) osq = w2 at S2 ⊢
        clear nq osq
        go_wp2
        go_roundg (h - i)
        case measure => omega
        case rel =>
          refine ⟨i, h, rfl, by first | rfl | go_num, hmi, hih, by omega, Nat.le_refl _, S2, hid ⟨HV.out.1, fun t h1 h2 => ?_⟩⟩
          have hn : ¬ cf d[t]! d[a]! < 0 := fun hc => by
            have e := HM.out h t (by omega) h1 h2 hc
            rw [← HX.out, ← HY.out] at e; omega
          omega
    · obtain rfl : i = j := by omega
      go_wp2_with fail
      go_loopg [13] (i - 1 - a) (fun kx s8 wr => ∃ (t : Nat) (dk : Array α), s8 = .int .i64 t ∧ a ≤ t ∧ t ≤ i - 1 ∧ i - 1 - t ≤ kx ∧ dk.size = d.size ∧ Aside (SWK enc k w0 blk off dk wr) ∧ Hid (shf dk t (i - 1 - t) = shf d a (i - 1 - a)))
      case atStart => exact ⟨a, d, rfl, Nat.le_refl _, by omega, Nat.le_refl _, rfl, S1, rfl⟩
      case round =>
        clear S1
        obtain ⟨t, dk, rfl, hat, hti, hkx, hds, S1, HE⟩ := hrel
        by_cases hlt : t < i - 1
        · have hltz : (t : Int) < (i : Int) - 1 := by omega
          have ea44 : ((t : Int)).toNat = t := by omega
          have pa44 : (0 : Int) ≤ (t : Int) := by omega
          have ba44 : (t : Int) < (d.size : Int) := by omega
          have ec44 : ((t : Int) + 1).toNat = t + 1 := by omega
          have pc44 : (0 : Int) ≤ (t : Int) + 1 := by omega
          have bc44 : (t : Int) + 1 < (d.size : Int) := by omega
          have rc44 : IntKind.i64.wrap ((t : Int) + 1) = (t : Int) + 1 := by rw [IntKind.wrap_i64]; omega
          have S2 : Aside (SWK enc k w0 blk off (swp dk t (t + 1)) ((wr.drew.setCells blk (off + t * k) (enc dk[t + 1]!)).setCells blk (off + (t + 1) * k) (enc dk[t]!))) := S1.out.swapped R t (t + 1) (by omega) (by omega)
          have l44a := S1.out.ld1 R (by omega) P t (by omega)
          have l44b := S1.out.ld1 R (by omega) P (t + 1) (by omega)
          have s44a := S1.out.st1 R (by omega) P t (by omega) dk[t + 1]!
          have s44b := S1.out.st2 R (by omega) P t (t + 1) (by omega) (by omega) dk[t + 1]! dk[t]!
          have n44a : (enc dk[t]!).length = k := R.hk _
          have n44b : (enc dk[t + 1]!).length = k := R.hk _
          generalize enc dk[t]! = cI44 at S2 l44a s44b n44a
          generalize enc dk[t + 1]! = cJ44 at S2 l44b s44a s44b n44b
          clear S1
          go_wp2_with fail
          go_big_region_o
          clear l44a l44b s44a s44b
          generalize (wr.drew.setCells blk (off + t * k) cJ44).setCells blk (off + (t + 1) * k) cI44 = w2 at S2 ⊢
          go_wp2
          go_roundg (i - 1 - (t + 1))
          case measure => omega
          case rel =>
            refine ⟨t + 1, swp dk t (t + 1), by first | rfl | go_num, by omega, by omega, Nat.le_refl _, by rw [size_swp]; exact hds, S2, hid ?_⟩
            have he := HE.out
            obtain ⟨q, hq⟩ : ∃ q, i - 1 - t = q + 1 := ⟨i - 1 - t - 1, by omega⟩
            rw [hq, shf, show q = i - 1 - (t + 1) by omega] at he
            exact he
        · have hnot : i - 1 - t = 0 := by omega
          have hltz : ¬ ((t : Int) < (i : Int) - 1) := by omega
          go_wp2
          ((try simp only [Exit.inBlock, Exit.then]); refine bodyPost_ret (results_none rfl _ _ _) rfl ?_)
          have he := HE.out
          rw [hnot, shf] at he
          exact ⟨rfl, i, hmi, hjb, HV.out.1, HV.out.2, by rw [← he]; exact S1.out⟩
end Go.Proofs.Ytbejjindkcjecaa

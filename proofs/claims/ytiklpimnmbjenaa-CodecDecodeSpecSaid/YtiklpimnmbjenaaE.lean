/- Contracts of the functions of package codec and lemmas for them: what each call returns and what becomes of memory, for every input within the bounds that each theorem states. -/
import Derived.Test.YtiklpimnmbjenaaD
import Derived.Test.YtiklpimnmbjenaaNumbers
import Derived.Test.YtiklpimnmbjenaaShelf
namespace Go.Proofs.Ytiklpimnmbjenaa
open Go.RowKit Go
set_option linter.unusedVariables false
set_option linter.unusedSimpArgs false

def SzErr (o : Option Nat) : Int := match o with | none => 1 | some d => if 16 < d then 2 else 0

theorem check_any (t : T) (w : World) (B : Nat) (v : Value) (hat : At w B t v) (hB : B ≤ w.heap.size) (hg : hgt t ≤ 1000) :
    Calls Try.prog 12 #[v] w fun e w' => e = .returned (.int .i64 (SzErr (dp t))) ∧ Below w.heap.size w w' := by
  obtain ⟨k, n, s, l⟩ := t
  obtain ⟨_, p, len, cap, HL, rfl, _⟩ := at_kid hat
  have HD := hid (depth_any (.mk k n s l))
  have HA := hid hat; clear hat
  have hle := dp_le (.mk k n s l)
  generalize T.mk k n s l = t at *
  cases hdp : dp t with
  | none =>
    have hb : dpB t = false := by simp [dpB, hdp]
    clear hdp hle
    go_enter Try.func12, Try.ntmps12
    go_wp2_with (go_at_call 25; refine (HD.out _ B _ (At.below ((Below.refl _ _).alloc (Nat.le_refl _) _) hB HA.out) (by simp; omega) hg).mono ?_; rintro e w1 ⟨rfl, hb1⟩)
    go_ret
    exact ⟨rfl, ((Below.refl _ _).alloc (Nat.le_refl _) _).trans (hb1.mono (by simp))⟩
  | some d =>
    have hb : dpB t = true := by simp [dpB, hdp]
    have hn : dpN t = d := by simp [dpN, hdp]
    have hd := hle d hdp
    clear hdp hle
    by_cases h16 : 16 < d
    all_goals
      go_enter Try.func12, Try.ntmps12
      go_wp2_with (go_at_call 25; refine (HD.out _ B _ (At.below ((Below.refl _ _).alloc (Nat.le_refl _) _) hB HA.out) (by simp; omega) hg).mono ?_; rintro e w1 ⟨rfl, hb1⟩)
      go_ret
      exact ⟨by simp [SzErr, h16], ((Below.refl _ _).alloc (Nat.le_refl _) _).trans (hb1.mono (by simp))⟩

theorem sizeNumeral_any (u : Nat) (w : World) (hu : Hid (u < 18446744073709551616)) :
    Calls Try.prog 48 #[.int .u64 u] w fun e w' => e = .returned (.int .i64 (num u).length) ∧ w = w' := by
  have hs := size_num u hu.out
  have hor : bits BinOp.or IntKind.u64 (u : Int) 1 = ((u ||| 1 : Nat) : Int) := u64_or_nat u 1 hu.out (by omega)
  have hlt : u ||| 1 < 18446744073709551616 := Nat.or_lt_two_pow (n := 64) hu.out (by omega)
  have hb := Lib.bitLen_le (u ||| 1) 64 (by omega) hlt
  have HS := hid hs; have HO := hid hor; have HT := hid hlt; clear hs hor hlt
  obtain ⟨x, hx⟩ : ∃ x : Int, x = bits BinOp.or IntKind.u64 (u : Int) 1 := ⟨_, rfl⟩
  have hx' : x = ((u ||| 1 : Nat) : Int) := hx.trans HO.out
  have hb' : Lib.bitLen x.toNat ≤ 64 := by rw [hx']; simpa using hb
  have HX := hid hx'; have HX0 := hid hx; clear hx' 
  go_enter Try.func48, Try.ntmps48
  rw [hx] at hb'
  clear hx
  go_wp2_with (go_at_call 51; refine (Try.bits_Len64 _ _ (by rw [HO.out]; omega) (by rw [HO.out]; have := HT.out; omega)).mono ?_; rintro e w1 ⟨rfl, rfl⟩)
  go_ret
  refine ⟨?_, rfl⟩
  have := HS.out
  rw [HO.out]
  simp
  omega
end Go.Proofs.Ytiklpimnmbjenaa

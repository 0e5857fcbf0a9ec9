/- Contract: the reference's Decimal. -/
import Derived.Test.YtgckigolbajhoaaDoorRv
import Derived.Test.YtgckigolbajhoaaDoorX9
import Derived.Laws.IdiomStrings
namespace Go.Proofs.YtgckigolbajhoaaDoor
open Go.RowKit Go
set_option linter.unusedVariables false
set_option linter.unusedSimpArgs false
def pd (m : Nat) : List UInt8 := if m < 10 then [] else Lib.decDigits (m / 10)
theorem dec_pd (m : Nat) : Lib.decDigits m = pd m ++ [UInt8.ofNat (48 + m % 10)] := by
  unfold pd
  by_cases h : m < 10
  · rw [if_pos h, Lib.decDigits_one h, Nat.mod_eq_of_lt h]; rfl
  · rw [if_neg h, Lib.decDigits, dif_neg h]
theorem lst_app2 (a b : ByteArray) : lst (a ++ b) = lst a ++ lst b := by simp [lst]
theorem dec_len {N : Nat} (h : N ≤ 1099511627776) : (Lib.decDigits N).length ≤ 13 := by
  have := L9.tx_len ⟨2, [], N, 0⟩ (by rw [vld2 rfl]; exact decide_eq_true ⟨rfl, by omega, by omega⟩)
  simpa [L9.tx] using this
/-- a row of one byte as a string -/
theorem conv_one (r : Nat) (h : r < 10) (W : World) : (convert 38 9 (.slice (some ⟨W.heap.size, 0, none⟩) 1 1)).run Tryd.prog (W.alloc (.cells #[.int .u8 (48 + (r : Int))] 5)) = .ok (.string ⟨#[UInt8.ofNat (48 + r)]⟩) (W.alloc (.cells #[.int .u8 (48 + (r : Int))] 5)) := by
  have h1 := run_convert_bytes_back (P := Tryd.prog) (W.alloc (.cells #[.int .u8 (48 + (r : Int))] 5)) 38 9 5 ⟨W.heap.size, 0, none⟩ 1 [UInt8.ofNat (48 + r)] Tryd.underlying38 Tryd.underlying5 Tryd.underlying9 (fun j hj => by
    obtain rfl : j = 0 := by simpa using hj
    refine (cell_lit W _ 5 0 _ rfl).trans ?_
    rw [List.getElem_cons_zero, L9.toNat_ofNat r h]; rfl)
  exact h1
set_option maxRecDepth 100000 in
set_option maxHeartbeats 8000000 in
theorem decimal_any (N : Nat) (w : World) (hN : N ≤ 1099511627776) : Calls Tryd.prog 35 #[.int .i64 N] w fun e w' => e = .returned (.string ⟨(Lib.decDigits N).toArray⟩) ∧ Below w.heap.size w w' := by
  obtain ⟨r, hr⟩ : ∃ r, r = N % 10 := ⟨_, rfl⟩
  have hr10 : r < 10 := by omega
  have e1 : Int.tmod (N : Int) 10 = (r : Int) := by rw [hr, Int.tmod_eq_emod_of_nonneg (by omega)]; omega
  have e2 : IntKind.i64.wrap (48 + (r : Int)) = 48 + (r : Int) := wrap_id (by omega) (by omega)
  have e3 : IntKind.u8.wrap (48 + (r : Int)) = 48 + (r : Int) := by rw [IntKind.wrap_u8]; omega
  have hcb := conv_one r hr10
  have h0 := hid (show Lib.decDigits N = pd N ++ [UInt8.ofNat (48 + r)] by rw [hr]; exact dec_pd N)
  have HB := hid ((Below.refl w.heap.size w).alloc (Nat.le_refl _) (.cells #[.int .u8 (48 + (r : Int))] 5))
  have HN := hid hN
  obtain ⟨ch, hch⟩ : ∃ ch, ch = UInt8.ofNat (48 + r) := ⟨_, rfl⟩
  rw [← hch] at hcb h0
  clear hr hr10 hN hch
  go_enter Tryd.func35, Tryd.ntmps35
  go_wp2_with fail
  clear e1 e2 e3 hcb
  go_loopw [0, 3] (fun n s wr => ∃ (m : Nat) (x : ByteArray), n = .int .i64 m ∧ s = .string x ∧ m ≤ N ∧ Below w.heap.size w wr ∧ Hid (Lib.decDigits N = pd m ++ lst x)) (fun n _ _ => (intOf n).toNat)
  case atStart => exact ⟨N, _, rfl, rfl, Nat.le_refl _, HB.out, hid (by rw [h0.out])⟩
  case round =>
    obtain ⟨m, x, rfl, rfl, hm, hb, hx⟩ := hrel
    have HBW := hid hb
    have hN := HN.out
    have hxs : (x.size : Int) ≤ 13 := by
      have h1 := dec_len hN
      rw [hx.out, List.length_append] at h1
      have : (lst x).length = x.size := rfl
      omega
    clear hb
    by_cases h10 : (10 : Int) ≤ m
    · obtain ⟨q, hq⟩ : ∃ q, q = m / 10 := ⟨_, rfl⟩
      obtain ⟨r, hr⟩ : ∃ r, r = q % 10 := ⟨_, rfl⟩
      have hr10 : r < 10 := by omega
      have e0 : Int.tdiv (m : Int) 10 = (q : Int) := by rw [hq, Int.tdiv_eq_ediv_of_nonneg (by omega)]; omega
      have e1 : Int.tmod (q : Int) 10 = (r : Int) := by rw [hr, Int.tmod_eq_emod_of_nonneg (by omega)]; omega
      have e2 : IntKind.i64.wrap (48 + (r : Int)) = 48 + (r : Int) := wrap_id (by omega) (by omega)
      have e3 : IntKind.u8.wrap (48 + (r : Int)) = 48 + (r : Int) := by rw [IntKind.wrap_u8]; omega
      have e4 : IntKind.i64.wrap (q : Int) = (q : Int) := wrap_id (by omega) (by omega)
      have hcb := conv_one r hr10
      have hdp := dec_pd q
      rw [← hr] at hdp
      obtain ⟨ch, hch⟩ : ∃ ch, ch = UInt8.ofNat (48 + r) := ⟨_, rfl⟩
      rw [← hch] at hcb hdp
      have HX := hid (show Lib.decDigits N = pd q ++ lst (⟨#[ch]⟩ ++ x) by
        rw [hx.out, lst_app2]
        unfold pd at hx ⊢
        rw [if_neg (show ¬ m < 10 by omega), ← hq, hdp, List.append_assoc]
        rfl)
      have HB2 := hid (HBW.out.alloc HBW.out.size (.cells #[.int .u8 (48 + (r : Int))] 5))
      have hqm : q < m := by omega
      clear hch hdp hr hq hx hr10
      go_wp2
      go_roundw
      case rel => exact ⟨q, _, rfl, rfl, by omega, HB2.out, HX⟩
      case measure => simp [intOf]; omega
    · have HX := hid (show Lib.decDigits N = lst x by
        rw [hx.out]; unfold pd; rw [if_pos (show m < 10 by omega)]; rfl)
      go_wp2
      go_ret
      exact ⟨by rw [HX.out, mk_lst]; rfl, HBW.out⟩
end Go.Proofs.YtgckigolbajhoaaDoor

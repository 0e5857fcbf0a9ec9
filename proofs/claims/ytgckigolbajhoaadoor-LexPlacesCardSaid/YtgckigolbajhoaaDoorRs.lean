/- Contract: the law's spelled. -/
import Derived.Test.YtgckigolbajhoaaDoorRd
namespace Go.Proofs.YtgckigolbajhoaaDoor
open Go.RowKit Go
set_option linter.unusedVariables false
set_option linter.unusedSimpArgs false
set_option maxRecDepth 100000 in
set_option maxHeartbeats 8000000 in
theorem spelled_any (k n a : Int) (t : List UInt8) (w : World) (hv : L9.vld ⟨k, t, n, a⟩ = true) : Calls Tryd.prog 22 #[.agg #[.int .i64 k, .string ⟨t.toArray⟩, .int .i64 n, .int .i64 a]] w fun e w' => e = .returned (.string ⟨(L9.tx ⟨k, t, n, a⟩).toArray⟩) ∧ Below w.heap.size w w' := by
  have HBX := hid ((Below.refl w.heap.size w).alloc (Nat.le_refl _) (.cells #[.int .i64 k, .string ⟨t.toArray⟩, .int .i64 n, .int .i64 a] 35))
  by_cases h2 : k = 2
  · subst h2
    rw [vld2 rfl] at hv
    obtain ⟨ht0, h0, h1⟩ := of_decide_eq_true hv
    obtain ⟨N, hN⟩ : ∃ N : Nat, n = (N : Int) := ⟨n.toNat, by omega⟩
    subst hN
    have hNN : N ≤ 1099511627776 := by omega
    have htx := hid (show L9.tx ⟨2, t, (N : Int), a⟩ = Lib.decDigits N by unfold L9.tx; rw [if_pos rfl]; simp)
    have HN := hid hNN
    clear hv ht0 h0 h1 hNN
    go_enter Tryd.func22, Tryd.ntmps22
    go_wp2_with fail
    go_loopw [3, 4] (fun s n wr => ∃ (m : Nat) (x : ByteArray), n = .int .i64 m ∧ s = .string x ∧ m ≤ N ∧ Below w.heap.size w wr ∧ Hid (Lib.decDigits N = Lib.decDigits m ++ lst x)) (fun _ n _ => (intOf n).toNat)
    case atStart => exact ⟨N, ⟨#[]⟩, rfl, rfl, Nat.le_refl _, HBX.out, hid (by simp [lst])⟩
    case round =>
      obtain ⟨m, x, rfl, rfl, hm, hb, hx⟩ := hrel
      have HBW := hid hb
      have hN := HN.out
      have hxs : (x.size : Int) ≤ 13 := by
        have h1 := dec_len hN
        rw [hx.out, List.length_append] at h1
        have : (lst x).length = x.size := rfl
        omega
      clear hb
      obtain ⟨r, hr⟩ : ∃ r, r = m % 10 := ⟨_, rfl⟩
      have hr10 : r < 10 := by omega
      have e1 : Int.tmod (m : Int) 10 = (r : Int) := by rw [hr, Int.tmod_eq_emod_of_nonneg (by omega)]; omega
      have e2 : IntKind.i64.wrap (48 + (r : Int)) = 48 + (r : Int) := wrap_id (by omega) (by omega)
      have e3 : IntKind.u8.wrap (48 + (r : Int)) = 48 + (r : Int) := by rw [IntKind.wrap_u8]; omega
      have hcb := conv_one r hr10
      have hdp := dec_pd m
      rw [← hr] at hdp
      obtain ⟨ch, hch⟩ : ∃ ch, ch = UInt8.ofNat (48 + r) := ⟨_, rfl⟩
      rw [← hch] at hcb hdp
      have HB2 := hid (HBW.out.alloc HBW.out.size (.cells #[.int .u8 (48 + (r : Int))] 5))
      by_cases h10 : (m : Int) < 10
      · have HX := hid (show Lib.decDigits N = lst (⟨#[ch]⟩ ++ x) by
          rw [hx.out, hdp, lst_app2]; unfold pd; rw [if_pos (by omega)]; try rfl)
        clear hch hdp hr hx hr10
        go_wp2
        go_ret
        exact ⟨by rw [htx.out, HX.out, mk_lst]; try rfl, HB2.out⟩
      · obtain ⟨q, hq⟩ : ∃ q, q = m / 10 := ⟨_, rfl⟩
        have e0 : Int.tdiv (m : Int) 10 = (q : Int) := by rw [hq, Int.tdiv_eq_ediv_of_nonneg (by omega)]; omega
        have e4 : IntKind.i64.wrap (q : Int) = (q : Int) := wrap_id (by omega) (by omega)
        have HX := hid (show Lib.decDigits N = Lib.decDigits q ++ lst (⟨#[ch]⟩ ++ x) by
          rw [hx.out, hdp, lst_app2]; unfold pd; rw [if_neg (by omega), ← hq, List.append_assoc]; try rfl)
        have hqm : q < m := by omega
        clear hch hdp hr hx hr10 hq
        go_wp2
        go_roundw
        case rel => exact ⟨q, _, rfl, rfl, by omega, HB2.out, HX⟩
        case measure => simp [intOf]; omega
  · have htx := hid (show L9.tx ⟨k, t, n, a⟩ = t from if_neg h2)
    have hb2 : (k == 2) = false := by simpa using h2
    have hb3 : (k != 2) = true := by simpa using h2
    clear hv h2
    go_enter Tryd.func22, Tryd.ntmps22
    go_wp2
    go_ret
    exact ⟨by rw [htx.out]; rfl, HBX.out⟩
end Go.Proofs.YtgckigolbajhoaaDoor

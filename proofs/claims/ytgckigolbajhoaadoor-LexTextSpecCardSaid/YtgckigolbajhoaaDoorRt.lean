/- Contract: the reference's Text. -/
import Derived.Test.YtgckigolbajhoaaDoorRd
import Derived.Test.YtgckigolbajhoaaDoorLw
namespace Go.Proofs.YtgckigolbajhoaaDoor
open Go.RowKit Go
set_option linter.unusedVariables false
set_option linter.unusedSimpArgs false
theorem join_snoc (xs : List (List UInt8)) (y sep : List UInt8) (h : xs ≠ []) : Lib.join (xs ++ [y]) sep = Lib.join xs sep ++ sep ++ y := by
  cases xs with
  | nil => exact absurd rfl h
  | cons a r =>
    rw [List.cons_append, Lib.join_cons, Lib.join_cons]
    simp [Lib.joinTail, List.append_assoc]
theorem take_few {l : List Tk} (k : Nat) (h : few l = true) : few (l.take k) = true := by
  obtain ⟨h1, h2⟩ := few_len h
  refine decide_eq_true ⟨by rw [List.length_take]; omega, ?_⟩
  have : ((l.take k).map (·.t.length)).sum ≤ (l.map (·.t.length)).sum := by
    conv => rhs; rw [← List.take_append_drop k l]
    rw [List.map_append, List.sum_append]; omega
  omega
theorem tx_num {x : Tk} (h : x.k = 2) (hv : L9.vld x = true) : ∃ N : Nat, x.n = N ∧ N ≤ 1099511627776 ∧ L9.tx x = Lib.decDigits N := by
  obtain ⟨k, t, n, a⟩ := x
  simp only at h
  rw [vld2 h] at hv
  obtain ⟨_, h0, h1⟩ := of_decide_eq_true hv
  exact ⟨n.toNat, by simp; omega, by omega, if_pos h⟩
set_option maxRecDepth 100000 in
set_option maxHeartbeats 8000000 in
theorem rtext_any (v : Value) (l : List Tk) (w : World) (hv : KS w v l) (hf : few l = true) :
    Calls Tryd.prog 16 #[v] w fun e w' => e = .returned (.tuple #[.string ⟨(txt l).toArray⟩, .int .i64 (txe l)]) ∧ Below w.heap.size w w' := by
  obtain ⟨p, cap, rfl⟩ := hv.form
  have HG := hid (hv.gr 4 kc_len (by omega))
  have HF := hid hf
  obtain ⟨n, hn⟩ : ∃ n, n = l.length := ⟨_, rfl⟩
  have hn2 : n ≤ 200 := by rw [hn]; exact (few_len hf).1
  rw [← hn]
  have HN := hid hn
  clear hv hf hn
  go_enter Tryd.func16, Tryd.ntmps16
  go_wp2
  go_loopw [4, 5] (fun s i wr => ∃ (k : Nat) (x : ByteArray), k ≤ n ∧ i = .int .i64 k ∧ s = .string x ∧ Below w.heap.size w wr ∧ Hid (lst x = Lib.join ((l.take k).map L9.tx) [32]) ∧ Hid ((l.take k).all L9.vld = true)) (fun _ i _ => n - (intOf i).toNat)
  case atStart => exact ⟨0, ⟨#[]⟩, by omega, rfl, rfl, Below.refl _ _, hid rfl, hid rfl⟩
  case round =>
    obtain ⟨k, x, hk, rfl, rfl, hb, hx, hal⟩ := hrel
    have HBW := hid hb
    have hxs : (x.size : Int) ≤ 4800 := by
      have h1 := few_join (take_few k HF.out) hal.out
      rw [← hx.out] at h1
      have : (lst x).length = x.size := rfl
      omega
    by_cases hlt : k < n
    · obtain ⟨y, hy⟩ := get_lt (l := l) (i := k) (by rw [← HN.out]; exact hlt)
      obtain ⟨b, o, hp, hbl, c0, c1, c2, c3⟩ := KR.at4 (HG.out.up hb) hy
      subst hp
      have HBL := hid (Nat.lt_of_lt_of_le hbl hb.size)
      have HY := hid hy
      have hyt : y.t.length ≤ 2000 := Nat.le_trans (mem_sum (List.mem_of_getElem? hy)) (few_len HF.out).2
      have htk := take_snoc hy
      obtain ⟨yk, yt, yn, ya⟩ := y
      simp only at c0 c1 c2 c3 hyt
      have HC0 := hid c0; have HC1 := hid c1; have HC2 := hid c2
      have HV := hid (rvalid_any yk yn ya yt wr (by unfold maxLen; omega))
      cases hvl : L9.vld ⟨yk, yt, yn, ya⟩
      · rw [hvl] at HV
        have h1 := all_bad hy hvl
        have HR1 := hid (show txt l = [] by unfold txt; rw [if_neg (by rw [h1]; decide)])
        have HR2 := hid (show txe l = 90 by unfold txe; rw [if_neg (by rw [h1]; decide)])
        clear hvl h1 htk hy hb hbl hal hx
        go_wp2_with fail
        refine HV.out.mono ?_
        rintro e w2 ⟨rfl, hb2⟩
        have HB2 := hid (HBW.out.trans (hb2.mono HBW.out.size))
        clear hb2 c0 c1 c2 c3
        go_wp2
        refine bodyPost_ret (by simp [results, Tryd.results16, go_sem]; rfl) rfl ?_
        exact ⟨by rw [HR1.out, HR2.out], HB2.out⟩
      · rw [hvl] at HV
        have HAL := hid (all_take hy hal.out hvl)
        have hyl := L9.tx_len _ hvl
        rcases Nat.eq_zero_or_pos k with hk0 | hpos
        · have hx0 : lst x = [] := by rw [hx.out, hk0]; rfl
          have hkp : ¬ (0 : Int) < k := by omega
          have hjn : Lib.join ((l.take (k + 1)).map L9.tx) [32] = L9.tx ⟨yk, yt, yn, ya⟩ := by
            rw [htk, hk0]; simp [Lib.join_one]
          by_cases hk2 : yk = 2
          · obtain ⟨N, hn1, hn3, hn4⟩ := tx_num (x := ⟨yk, yt, yn, ya⟩) hk2 hvl
            simp only at hn1
            subst hn1; subst hk2
            have HD := hid (fun W => decimal_any N W hn3)
            have HX := hid (show lst (x ++ ⟨(Lib.decDigits N).toArray⟩) = Lib.join ((l.take (k + 1)).map L9.tx) [32] by rw [hjn, lst_app2, hx0, lst_mk, hn4]; rfl)
            have hsz : (ByteArray.mk (Lib.decDigits N).toArray).size ≤ 13 := by rw [mk_size]; exact dec_len hn3
            clear hvl htk hy hb hbl hal hx hk0 hjn hx0 hyl hyt hn4
            go_wp2_with fail
            refine HV.out.mono ?_
            rintro e w2 ⟨rfl, hb2⟩
            have HB2 := hid (HBW.out.trans (hb2.mono HBW.out.size))
            clear c0 c1 c2 c3
            have c0 := (hb2.cell (p := ⟨b, o + k * 4, none⟩) HBL.out).trans HC0.out
            have c1 := (hb2.cell (p := ⟨b, o + k * 4 + 1, none⟩) HBL.out).trans HC1.out
            have c2 := (hb2.cell (p := ⟨b, o + k * 4 + 2, none⟩) HBL.out).trans HC2.out
            clear hb2
            go_wp2_with fail
            refine (HD.out w2).mono ?_
            rintro e w3 ⟨rfl, hb3⟩
            have HB2 := hid (HB2.out.trans (hb3.mono HB2.out.size))
            clear hb3 c0 c1 c2
            go_wp2
            go_roundw
            case rel => exact ⟨k + 1, _, by omega, by go_num, rfl, HB2.out, HX, HAL⟩
            case measure => simp [intOf]; omega
          · have hb1 : (yk == 2) = false := by simpa using hk2
            have HX := hid (show lst (x ++ ⟨yt.toArray⟩) = Lib.join ((l.take (k + 1)).map L9.tx) [32] by rw [hjn, lst_app2, hx0, lst_mk]; exact (if_neg hk2).symm)
            have hsz : (ByteArray.mk yt.toArray).size ≤ 2000 := by rw [mk_size]; exact hyt
            clear hvl htk hy hb hbl hal hx hk0 hjn hx0 hyl hk2
            go_wp2_with fail
            refine HV.out.mono ?_
            rintro e w2 ⟨rfl, hb2⟩
            have HB2 := hid (HBW.out.trans (hb2.mono HBW.out.size))
            clear c0 c1 c2 c3
            have c0 := (hb2.cell (p := ⟨b, o + k * 4, none⟩) HBL.out).trans HC0.out
            have c1 := (hb2.cell (p := ⟨b, o + k * 4 + 1, none⟩) HBL.out).trans HC1.out
            have c2 := (hb2.cell (p := ⟨b, o + k * 4 + 2, none⟩) HBL.out).trans HC2.out
            clear hb2
            go_wp2
            go_roundw
            case rel => exact ⟨k + 1, _, by omega, by go_num, rfl, HB2.out, HX, HAL⟩
            case measure => simp [intOf]; omega
        · have hjn : Lib.join ((l.take (k + 1)).map L9.tx) [32] = lst x ++ [32] ++ L9.tx ⟨yk, yt, yn, ya⟩ := by
            rw [htk, List.map_append, List.map_singleton, join_snoc _ _ _ (by
              intro e
              have h8 := congrArg List.length e
              rw [List.length_map, List.length_take, List.length_nil] at h8
              have h9 := HN.out
              omega), hx.out]
          have h32 : lst (⟨#[32]⟩ : ByteArray) = [32] := rfl
          have hkp : (0 : Int) < k := by omega
          have hx2 : (x ++ (⟨#[32]⟩ : ByteArray)).size ≤ 4801 := by
            have h5 : (lst (x ++ (⟨#[32]⟩ : ByteArray))).length = (x ++ (⟨#[32]⟩ : ByteArray)).size := rfl
            have h6 : (lst x).length = x.size := rfl
            rw [lst_app2, h32, List.length_append, h6] at h5
            simp only [List.length_singleton] at h5
            omega
          by_cases hk2 : yk = 2
          · obtain ⟨N, hn1, hn3, hn4⟩ := tx_num (x := ⟨yk, yt, yn, ya⟩) hk2 hvl
            simp only at hn1
            subst hn1; subst hk2
            have HD := hid (fun W => decimal_any N W hn3)
            have HX := hid (show lst (x ++ ⟨#[32]⟩ ++ ⟨(Lib.decDigits N).toArray⟩) = Lib.join ((l.take (k + 1)).map L9.tx) [32] by rw [hjn, lst_app2, lst_app2, h32, lst_mk, hn4])
            have hsz : (ByteArray.mk (Lib.decDigits N).toArray).size ≤ 13 := by rw [mk_size]; exact dec_len hn3
            clear hvl htk hy hb hbl hal hx hjn h32 hyl hyt hn4 hpos
            go_wp2_with fail
            refine HV.out.mono ?_
            rintro e w2 ⟨rfl, hb2⟩
            have HB2 := hid (HBW.out.trans (hb2.mono HBW.out.size))
            clear c0 c1 c2 c3
            have c0 := (hb2.cell (p := ⟨b, o + k * 4, none⟩) HBL.out).trans HC0.out
            have c1 := (hb2.cell (p := ⟨b, o + k * 4 + 1, none⟩) HBL.out).trans HC1.out
            have c2 := (hb2.cell (p := ⟨b, o + k * 4 + 2, none⟩) HBL.out).trans HC2.out
            clear hb2
            go_wp2_with fail
            refine (HD.out w2).mono ?_
            rintro e w3 ⟨rfl, hb3⟩
            have HB2 := hid (HB2.out.trans (hb3.mono HB2.out.size))
            clear hb3 c0 c1 c2
            go_wp2
            go_roundw
            case rel => exact ⟨k + 1, _, by omega, by go_num, rfl, HB2.out, HX, HAL⟩
            case measure => simp [intOf]; omega
          · have hb1 : (yk == 2) = false := by simpa using hk2
            have HX := hid (show lst (x ++ ⟨#[32]⟩ ++ ⟨yt.toArray⟩) = Lib.join ((l.take (k + 1)).map L9.tx) [32] by rw [hjn, lst_app2, lst_app2, h32, lst_mk]; rw [show L9.tx ⟨yk, yt, yn, ya⟩ = yt from if_neg hk2])
            have hsz : (ByteArray.mk yt.toArray).size ≤ 2000 := by rw [mk_size]; exact hyt
            clear hvl htk hy hb hbl hal hx hjn h32 hyl hk2 hpos
            go_wp2_with fail
            refine HV.out.mono ?_
            rintro e w2 ⟨rfl, hb2⟩
            have HB2 := hid (HBW.out.trans (hb2.mono HBW.out.size))
            clear c0 c1 c2 c3
            have c0 := (hb2.cell (p := ⟨b, o + k * 4, none⟩) HBL.out).trans HC0.out
            have c1 := (hb2.cell (p := ⟨b, o + k * 4 + 1, none⟩) HBL.out).trans HC1.out
            have c2 := (hb2.cell (p := ⟨b, o + k * 4 + 2, none⟩) HBL.out).trans HC2.out
            clear hb2
            go_wp2
            go_roundw
            case rel => exact ⟨k + 1, _, by omega, by go_num, rfl, HB2.out, HX, HAL⟩
            case measure => simp [intOf]; omega
    · obtain rfl : k = n := by omega
      have hall : l.all L9.vld = true := by have := hal.out; rwa [HN.out, List.take_length] at this
      have HR1 := hid (show txt l = lst x by
        have h1 := hx.out
        rw [HN.out, List.take_length] at h1
        rw [h1]; exact if_pos hall)
      have HR2 := hid (show txe l = 0 from if_pos hall)
      clear hall hb
      go_wp2
      refine bodyPost_ret (by simp [results, Tryd.results16, go_sem]; rfl) rfl ?_
      exact ⟨by rw [HR1.out, HR2.out, mk_lst], HBW.out⟩
end Go.Proofs.YtgckigolbajhoaaDoor

/- Contract: the reference's Lex. -/
import Derived.Test.YtgckigolbajhoaaDoorRl
namespace Go.Proofs.YtgckigolbajhoaaDoor
open Go.RowKit Go
set_option linter.unusedVariables false
set_option linter.unusedSimpArgs false
theorem skip_gt {w wr : World} {s : List UInt8} {a n : Nat} {l : List Tk} {o : Value} (h : Rg1 w s wr a l o) (hs : L9.stp (s.drop a) = .skip n) : 1 ≤ n ∧ a + n ≤ s.length := by
  have h1 := L9.skip_len hs
  rw [List.length_drop] at h1
  omega
theorem tok_gt {w wr : World} {s : List UInt8} {a n v : Nat} {k : Int} {t : List UInt8} {l : List Tk} {o : Value} (h : Rg1 w s wr a l o) (hs : L9.stp (s.drop a) = .tok k t v n) : 1 ≤ n ∧ a + n ≤ s.length := by
  have h1 := L9.tok_len hs
  rw [List.length_drop] at h1
  omega
theorem ext_one {s : ByteArray} {a : Nat} {c : UInt8} {r : List UInt8} (h : (lst s).drop a = c :: r) : s.extract a (a + 1) = ⟨#[c]⟩ := by
  rw [lst_extract, h, show a + 1 - a = 1 by omega]; rfl
theorem ko_none (w : World) : KO (w.alloc (.cells #[] 35)) w.heap.size (.slice (some ⟨w.heap.size, 0, none⟩) 0 0) [] :=
  ⟨by simp, .inr ⟨w.heap.size, 0, #[], rfl, Nat.le_refl _, heap_alloc_new w _, Nat.le_refl _, by unfold maxLen; omega, by simp, by simp⟩⟩
set_option maxRecDepth 100000 in
set_option maxHeartbeats 8000000 in
theorem rlex_short (s : ByteArray) (w : World) (hs : s.size ≤ 65536) :
    Calls Tryd.prog 12 #[.string s] w fun e w' => (∃ v, e = .returned (.tuple #[v, .int .i64 (lexa (lst s)), .int .i64 (lexe (lst s))]) ∧ KS w' v (lexl (lst s))) ∧ Below w.heap.size w w' := by
  have hsz : (lst s).length = s.size := rfl
  have h0 : ¬ (65536 : Int) < s.size := by omega
  have HSZ := hid hsz; have HS := hid hs
  clear hsz hs
  go_enter Tryd.func12, Tryd.ntmps12
  go_wp2
  go_loopw [5, 6] (fun o i wr => Rf w (lst s) wr i o) (fun _ i _ => s.size - (intOf i).toNat)
  case atStart => exact ⟨0, [], _, rfl, rfl, ko_none w, (Below.refl _ w).alloc (Nat.le_refl _) _, by omega, by rw [List.drop_zero]; cases L9.lx (lst s) 0 <;> rfl, by simp⟩
  case round =>
    obtain ⟨a, l, v, rfl, rfl, hown, hbel, hle, hlx, hll⟩ := hrel
    have HR := hid (Rg1.mk hown hbel hle hlx hll)
    have hs := HS.out
    have hsz := HSZ.out
    have HLL := hid (show l.length ≤ 1000000 by omega)
    clear hown hbel hlx
    by_cases hlt : a < s.size
    · obtain ⟨c, hc⟩ : ∃ c, (lst s)[a]? = some c := ⟨(lst s)[a], List.getElem?_eq_getElem (by omega)⟩
      obtain ⟨hlt2, hget⟩ := List.getElem?_eq_some_iff.1 hc
      have hca : s[a] = c := hget
      have hdr : (lst s).drop a = c :: (lst s).drop (a + 1) := by rw [List.drop_eq_getElem_cons hlt2, hget]
      have HSP := hid (fun W => space_c c W)
      have HLE := hid (fun W => letter_any c W)
      have HFI := hid (fun W => figure_any c W)
      have HSG := hid (fun W => rsign_any c W)
      have HDR := hid hdr
      clear hget hdr
      rcases kl_facts c with ⟨h1, h2, h3, h4, h5, h6⟩ | ⟨h1, h2⟩ | ⟨h1, h2, h3, h4⟩ | ⟨h1, h2, h3, h4, h5⟩ | ⟨h1, h2, h3, h4, h5, h6⟩ | ⟨h1, h2, h3, h4, h5, h6⟩
      · -- an error
        have hst : L9.stp ((lst s).drop a) = .bad := by rw [HDR.out]; simp [L9.stp, h2, slashes_cons h3, h4, h5, h6]
        obtain ⟨v3, v1, v2⟩ := lex_err (by omega) (rel_bad HR.out hlt2 hst)
        have HV1 := hid v1; have HV2 := hid v2; have HV3 := hid v3
        rw [h2] at HSP; rw [h4] at HLE; rw [h5] at HFI; rw [h6] at HSG
        have hb1 : ((c.toNat : Int) == 47) = false := beq_eq_false_iff_ne.2 (by omega)
        clear h1 h2 h3 h4 h5 h6 hst v1 v2 v3 hc
        go_wp2_with (first | (go_at_call 21; refine (HSP.out _).mono ?_; rintro e w9 ⟨rfl, rfl⟩) | (go_at_call 26; refine (HLE.out _).mono ?_; rintro e w9 ⟨rfl, rfl⟩) | (go_at_call 28; refine (HFI.out _).mono ?_; rintro e w9 ⟨rfl, rfl⟩) | (go_at_call 30; refine (HSG.out _).mono ?_; rintro e w9 ⟨rfl, rfl⟩))
        refine bodyPost_ret (by simp [results, Tryd.results12, go_sem]; rfl) rfl ?_
        exact ⟨⟨_, by rw [HV1.out, HV2.out], by rw [HV3.out]; exact .inl ⟨rfl, rfl⟩⟩, HR.out.bel⟩
      · have HST := hid (show L9.stp ((lst s).drop a) = .skip 1 by rw [HDR.out]; simp [L9.stp, h2])
        rw [h2] at HSP
        clear h1 h2 hc
        have HREL := hid (rel_skip HR.out (n := 1) HST.out)
        have hgt := skip_gt HR.out HST.out
        go_wp2_with (first | (go_at_call 21; refine (HSP.out _).mono ?_; rintro e w9 ⟨rfl, rfl⟩) | (go_at_call 26; refine (HLE.out _).mono ?_; rintro e w9 ⟨rfl, rfl⟩) | (go_at_call 28; refine (HFI.out _).mono ?_; rintro e w9 ⟨rfl, rfl⟩) | (go_at_call 30; refine (HSG.out _).mono ?_; rintro e w9 ⟨rfl, rfl⟩))
        go_roundw
        case rel => exact HREL.out.rf
        case measure => simp [intOf]; omega
      · -- a name
        obtain ⟨t, ht⟩ : ∃ t, t = ((lst s).drop a).takeWhile L9.isP := ⟨_, rfl⟩
        obtain ⟨n, hn⟩ : ∃ n, n = t.length := ⟨_, rfl⟩
        obtain ⟨e, he⟩ : ∃ e, e = a + n := ⟨_, rfl⟩
        have hn1 : 1 ≤ n := by rw [hn, ht, HDR.out]; exact L9.tw_pos (L9.isL_P h3)
        have hen : e ≤ s.size := by
          have := L9.tw_le L9.isP ((lst s).drop a)
          rw [List.length_drop, ← ht, ← hn] at this; omega
        have HN := hid (show (((lst s).drop a).takeWhile L9.isP).length = n by rw [← ht, hn])
        have HE := hid he.symm
        have HE2 := hid (show a < e ∧ e ≤ s.size from ⟨by omega, hen⟩)
        have hex : s.extract a e = ⟨t.toArray⟩ := by rw [lst_extract, show e - a = n by omega, hn, ht, ← L9.tw_take]
        have HNM := hid (fun W => rname2_any ⟨t.toArray⟩ W (by rw [mk_size, ← hn]; unfold maxLen; omega))
        rw [lst_mk] at HNM
        have k1 : (e : Int) ≤ s.size := by omega
        have k2 : (a : Int) ≤ (e : Int) := by omega
        have k3 : (0 : Int) ≤ a := by omega
        have hnm : L9.nm t = decide (t.length ≤ 32) := by
          have hall := L9.tw_all L9.isP ((lst s).drop a)
          rw [← ht] at hall
          have htc : t = c :: ((lst s).drop (a + 1)).takeWhile L9.isP := by rw [ht, HDR.out, L9.tw_cons (L9.isL_P h3)]
          rw [htc] at hall ⊢
          rw [nm_parts, h3, Bool.and_true, List.all_eq_true.2 hall, Bool.and_true]
        have hstp : L9.stp ((lst s).drop a) = if t.length ≤ 32 then .tok 1 t 0 n else .bad := by
          rw [ht] at hn
          rw [hn, ht, HDR.out]
          unfold L9.stp
          simp only [h2, slashes_cons h4, h3, Bool.false_eq_true, if_false, if_true]
        rw [h2] at HSP; rw [h3] at HLE
        have hb1 : ((c.toNat : Int) == 47) = false := beq_eq_false_iff_ne.2 (by omega)
        by_cases h32 : t.length ≤ 32
        · rw [if_pos h32] at hstp
          rw [decide_eq_true h32] at hnm
          rw [hnm] at HNM
          have HST := hid hstp
          obtain ⟨g, cap, w7, happ, hown, hb7⟩ := app_key' HR.out.own ⟨1, t, 0, a⟩ HLL.out HR.out.bel.size
          have HAPP := hid happ
          have hrl := rel_tok HR.out HST.out hown (HR.out.bel.trans hb7)
          rw [← he] at hrl
          have HRF := hid hrl.rf
          have HME := hid (show s.size - (intOf (.int .i64 (e : Int))).toNat < s.size - (intOf (.int .i64 (a : Int))).toNat by simp [intOf]; omega)
          clear happ hown hb7 hrl h1 h2 h3 h4 hc ht hn he hn1 hen hnm hstp h32
          go_wp2_with (first | (go_at_call 21; refine (HSP.out _).mono ?_; rintro e w9 ⟨rfl, rfl⟩) | (go_at_call 26; refine (HLE.out _).mono ?_; rintro e w9 ⟨rfl, rfl⟩) | (go_at_call 28; refine (HFI.out _).mono ?_; rintro e w9 ⟨rfl, rfl⟩) | (go_at_call 30; refine (HSG.out _).mono ?_; rintro e w9 ⟨rfl, rfl⟩))
          clear hca
          go_loop [6] (fun i => ∃ m : Nat, a ≤ m ∧ m ≤ e ∧ i = .int .i64 m) (fun i => e - (intOf i).toNat)
          case atStart => exact ⟨a, Nat.le_refl _, by have := HE2.out; omega, rfl⟩
          case round =>
            obtain ⟨m, hm1, hm2, rfl⟩ := hrel
            by_cases hme : m < e
            · obtain ⟨d, hd, hpd⟩ := tw_in L9.isP (lst s) a m hm1 (by rw [HN.out, HE.out]; exact hme)
              have hsm : m < s.size := by have := HE2.out; omega
              have hsd : s[m]'hsm = d := (List.getElem?_eq_some_iff.1 hd).2
              have HPD := hid (fun W => part_any d W)
              rw [hpd] at HPD
              clear hd hpd
              go_wp2_with (go_at_call 27; refine (HPD.out _).mono ?_; rintro e9 w9 ⟨rfl, rfl⟩)
              go_round
              case rel => exact ⟨m + 1, by omega, by omega, by go_num⟩
              case measure => simp [intOf]; omega
            · obtain rfl : m = e := by omega
              by_cases hes : m < s.size
              · obtain ⟨d, hd, hpd⟩ := tw_out L9.isP (lst s) a (by rw [HN.out, HE.out, HSZ.out]; exact hes)
                rw [HN.out, HE.out] at hd
                have hsm : m < s.size := by have := HE2.out; omega
                have hsd : s[m]'hsm = d := (List.getElem?_eq_some_iff.1 hd).2
                have HPD := hid (fun W => part_any d W)
                rw [hpd] at HPD
                clear hd hpd
                go_wp2_with (go_at_call 27; refine (HPD.out _).mono ?_; rintro e9 w9 ⟨rfl, rfl⟩)
                refine (HNM.out _).mono ?_
                rintro e9 w9 ⟨rfl, rfl⟩
                go_wp2_with (at_builtin; refine wpList_append_run rfl (.tmp 78) (.tmp 85) 23 23 ?ha4 _ _ _ ?hb4 ?hc4 HAPP.out ?_; exact rfl; exact rfl; exact rfl)
                go_roundw
                case rel => exact HRF.out
                case measure => exact HME.out
              · go_wp2_with fail
                refine (HNM.out _).mono ?_
                rintro e9 w9 ⟨rfl, rfl⟩
                go_wp2_with (at_builtin; refine wpList_append_run rfl (.tmp 78) (.tmp 85) 23 23 ?ha5 _ _ _ ?hb5 ?hc5 HAPP.out ?_; exact rfl; exact rfl; exact rfl)
                go_roundw
                case rel => exact HRF.out
                case measure => exact HME.out
        · rw [if_neg h32] at hstp
          rw [decide_eq_false h32] at hnm
          rw [hnm] at HNM
          obtain ⟨v3, v1, v2⟩ := lex_err (by omega) (rel_bad HR.out hlt2 hstp)
          have HV1 := hid v1; have HV2 := hid v2; have HV3 := hid v3
          clear h1 h2 h3 h4 hc ht hn he hn1 hen hnm hstp h32 v1 v2 v3
          go_wp2_with (first | (go_at_call 21; refine (HSP.out _).mono ?_; rintro e w9 ⟨rfl, rfl⟩) | (go_at_call 26; refine (HLE.out _).mono ?_; rintro e w9 ⟨rfl, rfl⟩) | (go_at_call 28; refine (HFI.out _).mono ?_; rintro e w9 ⟨rfl, rfl⟩) | (go_at_call 30; refine (HSG.out _).mono ?_; rintro e w9 ⟨rfl, rfl⟩))
          clear hca
          go_loop [6] (fun i => ∃ m : Nat, a ≤ m ∧ m ≤ e ∧ i = .int .i64 m) (fun i => e - (intOf i).toNat)
          case atStart => exact ⟨a, Nat.le_refl _, by have := HE2.out; omega, rfl⟩
          case round =>
            obtain ⟨m, hm1, hm2, rfl⟩ := hrel
            by_cases hme : m < e
            · obtain ⟨d, hd, hpd⟩ := tw_in L9.isP (lst s) a m hm1 (by rw [HN.out, HE.out]; exact hme)
              have hsm : m < s.size := by have := HE2.out; omega
              have hsd : s[m]'hsm = d := (List.getElem?_eq_some_iff.1 hd).2
              have HPD := hid (fun W => part_any d W)
              rw [hpd] at HPD
              clear hd hpd
              go_wp2_with (go_at_call 27; refine (HPD.out _).mono ?_; rintro e9 w9 ⟨rfl, rfl⟩)
              go_round
              case rel => exact ⟨m + 1, by omega, by omega, by go_num⟩
              case measure => simp [intOf]; omega
            · obtain rfl : m = e := by omega
              by_cases hes : m < s.size
              · obtain ⟨d, hd, hpd⟩ := tw_out L9.isP (lst s) a (by rw [HN.out, HE.out, HSZ.out]; exact hes)
                rw [HN.out, HE.out] at hd
                have hsm : m < s.size := by have := HE2.out; omega
                have hsd : s[m]'hsm = d := (List.getElem?_eq_some_iff.1 hd).2
                have HPD := hid (fun W => part_any d W)
                rw [hpd] at HPD
                clear hd hpd
                go_wp2_with (go_at_call 27; refine (HPD.out _).mono ?_; rintro e9 w9 ⟨rfl, rfl⟩)
                refine (HNM.out _).mono ?_
                rintro e9 w9 ⟨rfl, rfl⟩
                go_wp2
                refine bodyPost_ret (by simp [results, Tryd.results12, go_sem]; rfl) rfl ?_
                exact ⟨⟨_, by rw [HV1.out, HV2.out], by rw [HV3.out]; exact .inl ⟨rfl, rfl⟩⟩, HR.out.bel⟩
              · go_wp2_with fail
                refine (HNM.out _).mono ?_
                rintro e9 w9 ⟨rfl, rfl⟩
                go_wp2
                refine bodyPost_ret (by simp [results, Tryd.results12, go_sem]; rfl) rfl ?_
                exact ⟨⟨_, by rw [HV1.out, HV2.out], by rw [HV3.out]; exact .inl ⟨rfl, rfl⟩⟩, HR.out.bel⟩
      · -- a number
        obtain ⟨t, ht⟩ : ∃ t, t = ((lst s).drop a).takeWhile L9.isD := ⟨_, rfl⟩
        obtain ⟨n, hn⟩ : ∃ n, n = t.length := ⟨_, rfl⟩
        obtain ⟨e, he⟩ : ∃ e, e = a + n := ⟨_, rfl⟩
        have hn1 : 1 ≤ n := by rw [hn, ht, HDR.out]; exact L9.tw_pos h4
        have hen : e ≤ s.size := by
          have := L9.tw_le L9.isD ((lst s).drop a)
          rw [List.length_drop, ← ht, ← hn] at this; omega
        have HN := hid (show (((lst s).drop a).takeWhile L9.isD).length = n by rw [← ht, hn])
        have HE := hid he.symm
        have HE2 := hid (show a < e ∧ e ≤ s.size from ⟨by omega, hen⟩)
        have hex : s.extract a e = ⟨t.toArray⟩ := by rw [lst_extract, show e - a = n by omega, hn, ht, ← L9.tw_take]
        have HLQ := hid (lst_mk t)
        have HNM := hid (fun W => number_any ⟨t.toArray⟩ W (by rw [mk_size, ← hn]; omega) (by rw [mk_size, ← hn]; omega) (by rw [lst_mk, ht]; exact L9.tw_all _ _))
        have k1 : (e : Int) ≤ s.size := by omega
        have k2 : (a : Int) ≤ (e : Int) := by omega
        have k3 : (0 : Int) ≤ a := by omega
        have hstp : L9.stp ((lst s).drop a) = if nbad t = true then .bad else .tok 2 [] (L9.vn t) n := by
          have hnb : nbad t = decide ((c.toNat = 48 ∧ 1 < t.length) ∨ 1099511627776 < L9.vn t) := by
            unfold nbad
            have hh : t.head? = some c := by rw [ht, HDR.out, L9.tw_cons h4]; rfl
            have h8 : (some c = some (48 : UInt8)) ↔ c.toNat = 48 := by
              constructor
              · intro h; cases h; rfl
              · intro h; rw [show c = 48 from UInt8.toNat_inj.1 h]
            rw [hh]; simp only [h8]
          rw [hnb]
          rw [ht] at hn
          rw [hn, ht, HDR.out]
          unfold L9.stp
          simp only [h2, slashes_cons h5, h3, h4, Bool.false_eq_true, if_false, if_true, decide_eq_true_eq]
        rw [h2] at HSP; rw [h3] at HLE; rw [h4] at HFI
        have hb1 : ((c.toNat : Int) == 47) = false := beq_eq_false_iff_ne.2 (by omega)
        cases hnb : nbad t
        · rw [hnb] at hstp
          rw [if_neg (by decide)] at hstp
          have HNB := hid (show nbad (lst ⟨t.toArray⟩) = false by rw [lst_mk]; exact hnb)
          rw [HNB.out] at HNM
          have HST := hid hstp
          have HME := hid (show s.size - (intOf (.int .i64 (e : Int))).toNat < s.size - (intOf (.int .i64 (a : Int))).toNat by simp [intOf]; omega)
          clear h1 h2 h3 h4 h5 hc ht hn he hn1 hen hstp hnb
          go_wp2_with (first | (go_at_call 21; refine (HSP.out _).mono ?_; rintro e w9 ⟨rfl, rfl⟩) | (go_at_call 26; refine (HLE.out _).mono ?_; rintro e w9 ⟨rfl, rfl⟩) | (go_at_call 28; refine (HFI.out _).mono ?_; rintro e w9 ⟨rfl, rfl⟩) | (go_at_call 30; refine (HSG.out _).mono ?_; rintro e w9 ⟨rfl, rfl⟩))
          clear hca
          go_loop [6] (fun i => ∃ m : Nat, a ≤ m ∧ m ≤ e ∧ i = .int .i64 m) (fun i => e - (intOf i).toNat)
          case atStart => exact ⟨a, Nat.le_refl _, by have := HE2.out; omega, rfl⟩
          case round =>
            obtain ⟨m, hm1, hm2, rfl⟩ := hrel
            by_cases hme : m < e
            · obtain ⟨d, hd, hpd⟩ := tw_in L9.isD (lst s) a m hm1 (by rw [HN.out, HE.out]; exact hme)
              have hsm : m < s.size := by have := HE2.out; omega
              have hsd : s[m]'hsm = d := (List.getElem?_eq_some_iff.1 hd).2
              have HPD := hid (fun W => figure_any d W)
              rw [hpd] at HPD
              clear hd hpd
              go_wp2_with (go_at_call 28; refine (HPD.out _).mono ?_; rintro e9 w9 ⟨rfl, rfl⟩)
              go_round
              case rel => exact ⟨m + 1, by omega, by omega, by go_num⟩
              case measure => simp [intOf]; omega
            · obtain rfl : m = e := by omega
              by_cases hes : m < s.size
              · obtain ⟨d, hd, hpd⟩ := tw_out L9.isD (lst s) a (by rw [HN.out, HE.out, HSZ.out]; exact hes)
                rw [HN.out, HE.out] at hd
                have hsm : m < s.size := by have := HE2.out; omega
                have hsd : s[m]'hsm = d := (List.getElem?_eq_some_iff.1 hd).2
                have HPD := hid (fun W => figure_any d W)
                rw [hpd] at HPD
                clear hd hpd
                go_wp2_with (go_at_call 28; refine (HPD.out _).mono ?_; rintro e9 w9 ⟨rfl, rfl⟩)
                refine (HNM.out _).mono ?_
                rintro e9 w9 ⟨⟨n9, rfl, hn9⟩, hb9⟩
                have HB9 := hid hb9
                clear hb9
                have hn10 := hn9 trivial
                have hn10 := hn10.trans (congrArg (fun q : List UInt8 => (L9.vn q : Int)) (lst_mk t))
                subst hn10
                clear hn9
                obtain ⟨g, cap, w7, happ, hown, hb7⟩ := app_key' (HR.out.own.ups HB9.out) ⟨2, [], L9.vn t, a⟩ HLL.out (Nat.le_trans HR.out.bel.size HB9.out.size)
                have HAPP := hid happ
                have hrl := rel_tok HR.out HST.out hown ((HR.out.bel.trans (HB9.out.mono HR.out.bel.size)).trans hb7)
                rw [HE.out] at hrl
                have HRF := hid hrl.rf
                clear happ hown hb7 hrl
                go_wp2_with (at_builtin; refine wpList_append_run rfl (.tmp 114) (.tmp 118) 23 23 ?ha6 _ _ _ ?hb6 ?hc6 HAPP.out ?_; exact rfl; exact rfl; exact rfl)
                go_roundw
                case rel => exact HRF.out
                case measure => exact HME.out
              · go_wp2_with fail
                refine (HNM.out _).mono ?_
                rintro e9 w9 ⟨⟨n9, rfl, hn9⟩, hb9⟩
                have HB9 := hid hb9
                clear hb9
                have hn10 := hn9 trivial
                have hn10 := hn10.trans (congrArg (fun q : List UInt8 => (L9.vn q : Int)) (lst_mk t))
                subst hn10
                clear hn9
                obtain ⟨g, cap, w7, happ, hown, hb7⟩ := app_key' (HR.out.own.ups HB9.out) ⟨2, [], L9.vn t, a⟩ HLL.out (Nat.le_trans HR.out.bel.size HB9.out.size)
                have HAPP := hid happ
                have hrl := rel_tok HR.out HST.out hown ((HR.out.bel.trans (HB9.out.mono HR.out.bel.size)).trans hb7)
                rw [HE.out] at hrl
                have HRF := hid hrl.rf
                clear happ hown hb7 hrl
                go_wp2_with (at_builtin; refine wpList_append_run rfl (.tmp 114) (.tmp 118) 23 23 ?ha7 _ _ _ ?hb7 ?hc7 HAPP.out ?_; exact rfl; exact rfl; exact rfl)
                go_roundw
                case rel => exact HRF.out
                case measure => exact HME.out
        · rw [hnb] at hstp
          rw [if_pos rfl] at hstp
          have HNB := hid (show nbad (lst ⟨t.toArray⟩) = true by rw [lst_mk]; exact hnb)
          rw [HNB.out] at HNM
          obtain ⟨v3, v1, v2⟩ := lex_err (by omega) (rel_bad HR.out hlt2 hstp)
          have HV1 := hid v1; have HV2 := hid v2; have HV3 := hid v3
          clear h1 h2 h3 h4 h5 hc ht hn he hn1 hen hstp hnb v1 v2 v3
          go_wp2_with (first | (go_at_call 21; refine (HSP.out _).mono ?_; rintro e w9 ⟨rfl, rfl⟩) | (go_at_call 26; refine (HLE.out _).mono ?_; rintro e w9 ⟨rfl, rfl⟩) | (go_at_call 28; refine (HFI.out _).mono ?_; rintro e w9 ⟨rfl, rfl⟩) | (go_at_call 30; refine (HSG.out _).mono ?_; rintro e w9 ⟨rfl, rfl⟩))
          clear hca
          go_loop [6] (fun i => ∃ m : Nat, a ≤ m ∧ m ≤ e ∧ i = .int .i64 m) (fun i => e - (intOf i).toNat)
          case atStart => exact ⟨a, Nat.le_refl _, by have := HE2.out; omega, rfl⟩
          case round =>
            obtain ⟨m, hm1, hm2, rfl⟩ := hrel
            by_cases hme : m < e
            · obtain ⟨d, hd, hpd⟩ := tw_in L9.isD (lst s) a m hm1 (by rw [HN.out, HE.out]; exact hme)
              have hsm : m < s.size := by have := HE2.out; omega
              have hsd : s[m]'hsm = d := (List.getElem?_eq_some_iff.1 hd).2
              have HPD := hid (fun W => figure_any d W)
              rw [hpd] at HPD
              clear hd hpd
              go_wp2_with (go_at_call 28; refine (HPD.out _).mono ?_; rintro e9 w9 ⟨rfl, rfl⟩)
              go_round
              case rel => exact ⟨m + 1, by omega, by omega, by go_num⟩
              case measure => simp [intOf]; omega
            · obtain rfl : m = e := by omega
              by_cases hes : m < s.size
              · obtain ⟨d, hd, hpd⟩ := tw_out L9.isD (lst s) a (by rw [HN.out, HE.out, HSZ.out]; exact hes)
                rw [HN.out, HE.out] at hd
                have hsm : m < s.size := by have := HE2.out; omega
                have hsd : s[m]'hsm = d := (List.getElem?_eq_some_iff.1 hd).2
                have HPD := hid (fun W => figure_any d W)
                rw [hpd] at HPD
                clear hd hpd
                go_wp2_with (go_at_call 28; refine (HPD.out _).mono ?_; rintro e9 w9 ⟨rfl, rfl⟩)
                refine (HNM.out _).mono ?_
                rintro e9 w9 ⟨⟨n9, rfl, hn9⟩, hb9⟩
                have HB9 := hid hb9
                clear hb9
                go_wp2
                refine bodyPost_ret (by simp [results, Tryd.results12, go_sem]; rfl) rfl ?_
                exact ⟨⟨_, by rw [HV1.out, HV2.out], by rw [HV3.out]; exact .inl ⟨rfl, rfl⟩⟩, (HR.out.bel.trans (HB9.out.mono HR.out.bel.size))⟩
              · go_wp2_with fail
                refine (HNM.out _).mono ?_
                rintro e9 w9 ⟨⟨n9, rfl, hn9⟩, hb9⟩
                have HB9 := hid hb9
                clear hb9
                go_wp2
                refine bodyPost_ret (by simp [results, Tryd.results12, go_sem]; rfl) rfl ?_
                exact ⟨⟨_, by rw [HV1.out, HV2.out], by rw [HV3.out]; exact .inl ⟨rfl, rfl⟩⟩, (HR.out.bel.trans (HB9.out.mono HR.out.bel.size))⟩
      · -- a sign other than a slash
        have HST := hid (show L9.stp ((lst s).drop a) = .tok 3 [c] 0 1 by rw [HDR.out]; simp [L9.stp, h2, slashes_cons h6, h3, h4, h5])
        rw [h2] at HSP; rw [h3] at HLE; rw [h4] at HFI; rw [h5] at HSG
        have hb1 : ((c.toNat : Int) == 47) = false := beq_eq_false_iff_ne.2 (by omega)
        clear h1 h2 h3 h4 h5 h6 hc
        have hex := ext_one HDR.out
        have k1 : (a : Int) + 1 ≤ s.size := by omega
        have k2 : (a : Int) ≤ (a : Int) + 1 := by omega
        have k3 : (0 : Int) ≤ a := by omega
        obtain ⟨g, cap, w7, happ, hown, hb7⟩ := app_key' HR.out.own ⟨3, [c], 0, a⟩ HLL.out HR.out.bel.size
        have HAPP := hid happ
        have HREL := hid (rel_tok HR.out HST.out hown (HR.out.bel.trans hb7))
        have hgt := tok_gt HR.out HST.out
        clear happ hown hb7
        go_wp2_with (first | (first | (go_at_call 21; refine (HSP.out _).mono ?_; rintro e w9 ⟨rfl, rfl⟩) | (go_at_call 26; refine (HLE.out _).mono ?_; rintro e w9 ⟨rfl, rfl⟩) | (go_at_call 28; refine (HFI.out _).mono ?_; rintro e w9 ⟨rfl, rfl⟩) | (go_at_call 30; refine (HSG.out _).mono ?_; rintro e w9 ⟨rfl, rfl⟩)) | (at_builtin; refine wpList_append_run rfl (.tmp 128) (.tmp 135) 23 23 ?ha1 _ _ _ ?hb1 ?hc1 HAPP.out ?_; exact rfl; exact rfl; exact rfl))
        go_roundw
        case rel => exact HREL.out.rf
        case measure => simp [intOf]; omega
      · -- a slash
        have hb1 : ((c.toNat : Int) == 47) = true := beq_iff_eq.2 (by omega)
        rw [h2] at HSP; rw [h3] at HLE; rw [h4] at HFI; rw [h5] at HSG
        have hw1 := wrap_id (x := (a : Int) + 1) (by omega) (by omega)
        cases hsl : L9.slashes ((lst s).drop a)
        · have HST := hid (show L9.stp ((lst s).drop a) = .tok 3 [c] 0 1 by rw [HDR.out] at hsl ⊢; simp [L9.stp, h2, hsl, h3, h4, h5])
          by_cases hnx : a + 1 < s.size
          · obtain ⟨d, hd⟩ := get_lt (l := lst s) (i := a + 1) (by omega)
            have hsd : s[a + 1]'hnx = d := (List.getElem?_eq_some_iff.1 hd).2
            have hdn : d.toNat ≠ 47 := by
              rw [HDR.out] at hsl
              have h8 : (lst s).drop (a + 1) = d :: (lst s).drop (a + 1 + 1) := by
                obtain ⟨q1, q2⟩ := List.getElem?_eq_some_iff.1 hd
                rw [List.drop_eq_getElem_cons q1, q2]
              rw [h8] at hsl
              intro h9
              simp [L9.slashes, h6, h9] at hsl
            have hb2 : ((d.toNat : Int) == 47) = false := beq_eq_false_iff_ne.2 (by omega)
            have hl1 : (a : Int) + 1 < s.size := by omega
            clear h1 h2 h3 h4 h5 h6 hc hsl hd hdn
            have hex := ext_one HDR.out
            have k1 : (a : Int) + 1 ≤ s.size := by omega
            have k2 : (a : Int) ≤ (a : Int) + 1 := by omega
            have k3 : (0 : Int) ≤ a := by omega
            obtain ⟨g, cap, w7, happ, hown, hb7⟩ := app_key' HR.out.own ⟨3, [c], 0, a⟩ HLL.out HR.out.bel.size
            have HAPP := hid happ
            have HREL := hid (rel_tok HR.out HST.out hown (HR.out.bel.trans hb7))
            have hgt := tok_gt HR.out HST.out
            clear happ hown hb7
            go_wp2_with (first | (first | (go_at_call 21; refine (HSP.out _).mono ?_; rintro e w9 ⟨rfl, rfl⟩) | (go_at_call 26; refine (HLE.out _).mono ?_; rintro e w9 ⟨rfl, rfl⟩) | (go_at_call 28; refine (HFI.out _).mono ?_; rintro e w9 ⟨rfl, rfl⟩) | (go_at_call 30; refine (HSG.out _).mono ?_; rintro e w9 ⟨rfl, rfl⟩)) | (at_builtin; refine wpList_append_run rfl (.tmp 128) (.tmp 135) 23 23 ?ha2 _ _ _ ?hb2 ?hc2 HAPP.out ?_; exact rfl; exact rfl; exact rfl))
            go_roundw
            case rel => exact HREL.out.rf
            case measure => simp [intOf]; omega
          · have hl1 : ¬ (a : Int) + 1 < s.size := by omega
            clear h1 h2 h3 h4 h5 h6 hc hsl
            have hex := ext_one HDR.out
            have k1 : (a : Int) + 1 ≤ s.size := by omega
            have k2 : (a : Int) ≤ (a : Int) + 1 := by omega
            have k3 : (0 : Int) ≤ a := by omega
            obtain ⟨g, cap, w7, happ, hown, hb7⟩ := app_key' HR.out.own ⟨3, [c], 0, a⟩ HLL.out HR.out.bel.size
            have HAPP := hid happ
            have HREL := hid (rel_tok HR.out HST.out hown (HR.out.bel.trans hb7))
            have hgt := tok_gt HR.out HST.out
            clear happ hown hb7
            go_wp2_with (first | (first | (go_at_call 21; refine (HSP.out _).mono ?_; rintro e w9 ⟨rfl, rfl⟩) | (go_at_call 26; refine (HLE.out _).mono ?_; rintro e w9 ⟨rfl, rfl⟩) | (go_at_call 28; refine (HFI.out _).mono ?_; rintro e w9 ⟨rfl, rfl⟩) | (go_at_call 30; refine (HSG.out _).mono ?_; rintro e w9 ⟨rfl, rfl⟩)) | (at_builtin; refine wpList_append_run rfl (.tmp 128) (.tmp 135) 23 23 ?ha3 _ _ _ ?hb3 ?hc3 HAPP.out ?_; exact rfl; exact rfl; exact rfl))
            go_roundw
            case rel => exact HREL.out.rf
            case measure => simp [intOf]; omega
        · have hst : L9.stp ((lst s).drop a) = .skip (((lst s).drop a).takeWhile L9.nLF).length := by
            rw [HDR.out] at hsl ⊢; simp only [L9.stp, h2, hsl, Bool.false_eq_true, if_false, if_true]
          have hnx : a + 1 < s.size := by
            rw [HDR.out] at hsl
            rcases Nat.lt_or_ge (a + 1) s.size with h | h
            · exact h
            · rw [List.drop_eq_nil_of_le (by omega)] at hsl; simp [L9.slashes] at hsl
          obtain ⟨d, hd⟩ := get_lt (l := lst s) (i := a + 1) (by omega)
          have hsd1 : s[a + 1]'hnx = d := (List.getElem?_eq_some_iff.1 hd).2
          have hdn : d.toNat = 47 := by
            rw [HDR.out] at hsl
            have h8 : (lst s).drop (a + 1) = d :: (lst s).drop (a + 1 + 1) := by
              obtain ⟨q1, q2⟩ := List.getElem?_eq_some_iff.1 hd
              rw [List.drop_eq_getElem_cons q1, q2]
            rw [h8] at hsl
            simp [L9.slashes] at hsl
            exact hsl.2
          have hb2 : ((d.toNat : Int) == 47) = true := beq_iff_eq.2 (by omega)
          have hl1 : (a : Int) + 1 < s.size := by omega
          obtain ⟨n, hn⟩ : ∃ n, n = (((lst s).drop a).takeWhile L9.nLF).length := ⟨_, rfl⟩
          obtain ⟨e, he⟩ : ∃ e, e = a + n := ⟨_, rfl⟩
          rw [← hn] at hst
          have hgt := skip_gt HR.out hst
          have HN := hid hn.symm
          have HE := hid he.symm
          have HE2 := hid (show a < e ∧ e ≤ s.size from ⟨by omega, by omega⟩)
          have hrl := rel_skip HR.out hst
          rw [← he] at hrl
          have HRF := hid hrl.rf
          have HME := hid (show s.size - (intOf (.int .i64 (e : Int))).toNat < s.size - (intOf (.int .i64 (a : Int))).toNat by simp [intOf]; omega)
          clear h1 h2 h3 h4 h5 h6 hc hsl hd hdn hst hn he hgt hrl
          go_wp2_with (first | (go_at_call 21; refine (HSP.out _).mono ?_; rintro e w9 ⟨rfl, rfl⟩) | (go_at_call 26; refine (HLE.out _).mono ?_; rintro e w9 ⟨rfl, rfl⟩) | (go_at_call 28; refine (HFI.out _).mono ?_; rintro e w9 ⟨rfl, rfl⟩) | (go_at_call 30; refine (HSG.out _).mono ?_; rintro e w9 ⟨rfl, rfl⟩))
          clear hca
          go_loop [6] (fun i => ∃ m : Nat, a ≤ m ∧ m ≤ e ∧ i = .int .i64 m) (fun i => e - (intOf i).toNat)
          case atStart => exact ⟨a, Nat.le_refl _, by have := HE2.out; omega, rfl⟩
          case round =>
            obtain ⟨m, hm1, hm2, rfl⟩ := hrel
            by_cases hme : m < e
            · obtain ⟨d, hd, hpd⟩ := tw_in L9.nLF (lst s) a m hm1 (by rw [HN.out, HE.out]; exact hme)
              have hsm : m < s.size := by have := HE2.out; omega
              have hsd : s[m]'hsm = d := (List.getElem?_eq_some_iff.1 hd).2
              have hb9 : ((d.toNat : Int) == 10) = false := beq_eq_false_iff_ne.2 (by simp only [L9.nLF, decide_eq_true_eq] at hpd; omega)
              have hb8 : ((d.toNat : Int) != 10) = true := by rw [bne, hb9]; rfl
              clear hd hpd
              go_wp2_with fail
              go_round
              case rel => exact ⟨m + 1, by omega, by omega, by go_num⟩
              case measure => simp [intOf]; omega
            · obtain rfl : m = e := by omega
              by_cases hes : m < s.size
              · obtain ⟨d, hd, hpd⟩ := tw_out L9.nLF (lst s) a (by rw [HN.out, HE.out, HSZ.out]; exact hes)
                rw [HN.out, HE.out] at hd
                have hsm : m < s.size := by have := HE2.out; omega
                have hsd : s[m]'hsm = d := (List.getElem?_eq_some_iff.1 hd).2
                have hb9 : ((d.toNat : Int) == 10) = true := beq_iff_eq.2 (by simp only [L9.nLF, decide_eq_false_iff_not] at hpd; omega)
                have hb8 : ((d.toNat : Int) != 10) = false := by rw [bne, hb9]; rfl
                clear hd hpd
                go_wp2_with fail
                go_roundw
                case rel => exact HRF.out
                case measure => exact HME.out
              · go_wp2_with fail
                go_roundw
                case rel => exact HRF.out
                case measure => exact HME.out
    · obtain rfl : a = s.size := by omega
      have h1 := HR.out.lx
      rw [List.drop_eq_nil_of_le (by omega), L9.lx_nil] at h1
      have h2 : L9.lx (lst s) 0 = .ok l := by rw [h1]; simp [pre]
      obtain ⟨v3, v1, v2⟩ := lex_ok (by omega) h2
      have HV1 := hid v1; have HV2 := hid v2; have HV3 := hid v3
      clear h1 h2 v1 v2 v3
      go_wp2
      refine bodyPost_ret (by simp [results, Tryd.results12, go_sem]; rfl) rfl ?_
      exact ⟨⟨_, by rw [HV1.out, HV2.out]; rfl, by rw [HV3.out]; exact HR.out.own.gs⟩, HR.out.bel⟩
end Go.Proofs.YtgckigolbajhoaaDoor

/- The law LexPlaces. -/
import Derived.Test.YtgckigolbajhoaaDoorRs
import Derived.Test.YtgckigolbajhoaaDoorP9
import Derived.Test.YtgckigolbajhoaaDoorLw
namespace Go.Proofs.YtgckigolbajhoaaDoor
open Go.RowKit Go
set_option linter.unusedVariables false
set_option linter.unusedSimpArgs false
theorem seg_cons {l : List UInt8} {J E : Nat} {c : UInt8} (h : l[J]? = some c) (hJ : J < E) : (l.drop J).take (E - J) = c :: (l.drop (J + 1)).take (E - (J + 1)) := by
  obtain ⟨q1, q2⟩ := List.getElem?_eq_some_iff.1 h
  rw [List.drop_eq_getElem_cons q1, q2, show E - J = (E - (J + 1)) + 1 by omega, List.take_succ_cons]
theorem ws_cm {c : UInt8} {r : List UInt8} {f : Bool} (h : L9.nLF c = true) (hw : L9.ws true (c :: r) = some f) : L9.ws true r = some f := by
  simp only [L9.ws, h, Bool.true_or, Bool.and_true] at hw
  rw [if_neg (by simp)] at hw; exact hw
theorem ws_sl {c d : UInt8} {r : List UInt8} {f : Bool} (h : L9.nLF c = true) (h1 : c.toNat = 47) (h2 : d.toNat = 47) (hw : L9.ws false (c :: d :: r) = some f) : L9.ws true (d :: r) = some f := by
  have hs : L9.slashes (c :: d :: r) = true := by simp [L9.slashes, h1, h2]
  rw [L9.ws, hs, h] at hw
  rw [if_neg (by simp)] at hw; exact hw
theorem nW {c : UInt8} (h : c.toNat = 47) : L9.isW c = false := by simp [L9.isW, h]
theorem ws_no3 {c : UInt8} {r : List UInt8} {f : Bool} (h : ¬ c.toNat = 47) (hW : L9.isW c = false) : ¬ L9.ws false (c :: r) = some f := by
  have hs : L9.slashes (c :: r) = false := L9.sl_ne h
  rw [L9.ws, hs, hW]; simp
theorem ws_no1 {c d : UInt8} {r : List UInt8} {f : Bool} (h : L9.nLF c = true) (h1 : c.toNat = 47) (h2 : ¬ d.toNat = 47) : ¬ L9.ws false (c :: d :: r) = some f := by
  have hs : L9.slashes (c :: d :: r) = false := by simp [L9.slashes, h2]
  rw [L9.ws, hs, nW h1]; simp
theorem ws_no2 {c : UInt8} {f : Bool} (h : L9.nLF c = true) (h1 : c.toNat = 47) : ¬ L9.ws false [c] = some f := by
  have hs : L9.slashes [c] = false := rfl
  rw [L9.ws, hs, nW h1]; simp
set_option maxRecDepth 100000 in
set_option maxHeartbeats 8000000 in
theorem places_any (s : ByteArray) (w : World) (hk : Konst w) : Calls Tryd.prog 6 #[.string s] w fun e w' => e = .returned (.bool true) ∧ Below w.heap.size w w' := by
  have HK := hid hk
  have HSA := hid (sane_any w hk)
  have HT := hid (Below.refl w.heap.size w)
  have hsz : (lst s).length = s.size := rfl
  clear hk
  by_cases h1 : (3000 : Int) < s.size
  · clear hsz
    go_enter Tryd.func6, Tryd.ntmps6
    go_wp2_with fail
    refine HSA.out.mono ?_
    rintro e wn ⟨rfl, hb⟩
    have HT := hid (below_t HT.out hb)
    clear hb
    go_wp2
    go_ret
    exact ⟨rfl, HT.out⟩
  have HLX := hid (fun W (hk : Konst W) => Lex_any s W hk)
  have HSZ := hid hsz
  have HS := hid (show s.size ≤ 3000 by omega)
  rcases lex_two (lst s) (by omega) with ⟨l, hlx, q1, q2, q3⟩ | ⟨b, _, q1, q2, q3⟩
  · rw [q1, q2, q3] at HLX
    have HLL := hid (show l.length ≤ 3000 by have h2 := (lex_sum (s := lst s)).2; rw [q1] at h2; omega)
    have HL0 := hid hlx
    clear q1 q2 q3 hsz hlx
    obtain ⟨n, hn⟩ : ∃ n, n = l.length := ⟨_, rfl⟩
    go_enter Tryd.func6, Tryd.ntmps6
    go_wp2_with fail
    refine HSA.out.mono ?_
    rintro e wn ⟨rfl, hb⟩
    have HT := hid (below_t HT.out hb)
    clear hb
    go_wp2_with fail
    refine (HLX.out wn (HK.out.up HT.out)).mono ?_
    rintro e w1 ⟨⟨v, rfl, hv⟩, hb⟩
    have HT := hid (below_t HT.out hb)
    have KV := hid hv
    obtain ⟨p, c, hf⟩ := hv.form
    subst hf
    clear hb hv
    rw [← hn] at KV ⊢
    have HN := hid hn
    clear hn
    go_wp2_with fail
    go_loopw [6, 7] (fun i k wr => ∃ (K a : Nat), K ≤ n ∧ a ≤ s.size ∧ k = .int .i64 K ∧ i = .int .i64 a ∧ Below w1.heap.size w1 wr ∧ Hid (L9.lx ((lst s).drop a) a = .ok (l.drop K))) (fun _ k _ => n + 1 - (intOf k).toNat)
    case atStart => exact ⟨0, 0, by omega, by omega, rfl, rfl, Below.refl _ _, hid (by rw [List.drop_zero, List.drop_zero]; exact HL0.out)⟩
    case round =>
      obtain ⟨K, a, hK, ha, rfl, rfl, hb, hlx⟩ := hrel
      have HBW := hid hb
      have hn3 : n ≤ 3000 := by rw [HN.out]; exact HLL.out
      have hs3 := HS.out
      by_cases hlt : K < n
      · obtain ⟨y, hy⟩ := get_lt (l := l) (i := K) (by rw [← HN.out]; exact hlt)
        have hdk : l.drop K = y :: l.drop (K + 1) := by
          obtain ⟨z1, z2⟩ := List.getElem?_eq_some_iff.1 hy
          rw [List.drop_eq_getElem_cons z1, z2]
        rcases L9.lx_plc _ _ _ hlx.out with ⟨h0, _⟩ | ⟨t, m, q, he, p1, p2, p3, p4, p5, p6, p7⟩
        · rw [hdk] at h0; cases h0
        · rw [hdk] at he
          obtain ⟨rfl, rfl⟩ := List.cons.inj he
          rw [List.length_drop] at p3
          obtain ⟨E, hE⟩ : ∃ E, E = a + q := ⟨_, rfl⟩
          obtain ⟨tl, htl⟩ : ∃ tl, tl = (L9.tx y).length := ⟨_, rfl⟩
          have hp4 : ((lst s).drop E).take tl = L9.tx y := by rw [hE, htl, ← List.drop_drop]; exact p4
          have hp7 : L9.lx ((lst s).drop (E + tl)) (E + tl) = .ok (l.drop (K + 1)) := by rw [hE, htl, ← p7, List.drop_drop, Nat.add_assoc]
          obtain ⟨b, o, hp, hbl, k0, k1, k2, k3⟩ := KR.at4 ((KV.out.ups hb).gr 4 kc_len (by omega)) hy
          subst hp
          have HAE := hid (show a ≤ E by omega)
          have HES := hid (show E ≤ s.size by have := HSZ.out; omega)
          have HWS0 := hid (show L9.ws false (((lst s).drop a).take (E - a)) = some false by rw [show E - a = q by omega]; exact p2)
          obtain ⟨yk, yt, yn, ya⟩ := y
          simp only at k0 k1 k2 k3 p1
          have hya : ya = (E : Int) := by rw [p1, hE]
          subst hya
          have HSPL := hid (fun W => spelled_any yk yn (E : Int) yt W p6)
          obtain ⟨tq, htq⟩ : ∃ tq : ByteArray, tq = ⟨(L9.tx ⟨yk, yt, yn, (E : Int)⟩).toArray⟩ := ⟨_, rfl⟩
          have htz : tq.size = tl := by rw [htq, mk_size, htl]
          rw [← htq] at HSPL
          have HTZ := hid htz
          have hend : E + tl ≤ s.size := by have := HSZ.out; rw [htl]; omega
          have HWL := hid (wrap_id (x := (E : Int) + tl) (by omega) (by omega))
          have HEX := hid (show s.extract E (E + tl) = tq by
            rw [lst_extract, htq, show E + tl - E = tl by omega, hp4])
          have HREL := hid (fun (w5 : World) (hb5 : Below w1.heap.size w1 w5) => show ∃ (K1 a1 : Nat), K1 ≤ n ∧ a1 ≤ s.size ∧ (Value.int .i64 ((K : Int) + 1)) = .int .i64 K1 ∧ (Value.int .i64 ((E : Int) + tl)) = .int .i64 a1 ∧ Below w1.heap.size w1 w5 ∧ Hid (L9.lx ((lst s).drop a1) a1 = .ok (l.drop K1)) from
            ⟨K + 1, E + tl, by omega, hend, by go_num, by go_num, hb5, hid hp7⟩)
          have g1 : (a : Int) ≤ E := by have := HAE.out; omega
          have g2 : (E : Int) ≤ s.size := by have := HES.out; omega
          have dd1 : decide (E < a) = false := decide_eq_false (by have := HAE.out; omega)
          have dd2 : decide (s.size < E) = false := decide_eq_false (by have := HES.out; omega)
          have g3 : ((E : Int) + tl) ≤ s.size := by omega
          have g4 : (1 : Int) ≤ tl := by rw [htl]; omega
          have g5 : ((tl : Int) == 0) = false := beq_eq_false_iff_ne.2 (by omega)
          have g6 : (E : Int) ≤ (E : Int) + tl := by omega
          have g7 : ((K : Int) == n) = false := beq_eq_false_iff_ne.2 (by omega)
          have g8 : (0 : Int) ≤ E := by omega
          clear hy hdk he p1 p2 p3 p4 p5 p6 p7 hp4 hp7 htl hE hbl hb htq htz hend hlx
          go_wp2_with fail
          have G1 := hid g1
          have G2 := hid g2
          clear g1 g2
          go_loop [6, 9] (fun i cv => ∃ (J : Nat) (cm : Bool), a ≤ J ∧ J ≤ E ∧ i = .int .i64 J ∧ cv = .bool cm ∧ Hid (L9.ws cm (((lst s).drop J).take (E - J)) = some false)) (fun i _ => E - (intOf i).toNat)
          case atStart => exact ⟨a, false, Nat.le_refl _, HAE.out, rfl, rfl, HWS0⟩
          case round =>
            obtain ⟨J, cm, hJ1, hJ2, rfl, rfl, hws⟩ := hrel
            by_cases hJE : J < E
            · have hJs : J < s.size := by have := HES.out; omega
              obtain ⟨c, hcc⟩ := get_lt (l := lst s) (i := J) (by rw [HSZ.out]; exact hJs)
              have hsJ : s[J]'hJs = c := (List.getElem?_eq_some_iff.1 hcc).2
              have HSP := hid (fun W => space_c c W)
              have hseg := seg_cons hcc hJE
              rw [hseg] at hws
              have hwJ := wrap_id (x := (J : Int) + 1) (by have := HS.out; omega) (by have := HS.out; omega)
              cases hp : L9.nLF c
              · have hc10 : c = 10 := UInt8.toNat_inj.1 (by simp only [L9.nLF, decide_eq_false_iff_not] at hp; simpa using hp)
                subst hc10
                have HWS := hid (show L9.ws false (((lst s).drop (J + 1)).take (E - (J + 1))) = some false by have h2 := hws.out; rwa [L9.ws_lf] at h2)
                rw [show L9.isW 10 = true by decide] at HSP
                have hb9 : (((10 : UInt8).toNat : Int) == 10) = true := rfl
                have hb8 : (((10 : UInt8).toNat : Int) != 10) = false := rfl
                clear hcc hseg hws
                go_wp2_with (go_at_call 21; refine (HSP.out _).mono ?_; rintro e9 w9 ⟨rfl, rfl⟩)
                go_round
                case rel => exact ⟨J + 1, false, by omega, by omega, by go_num, rfl, HWS⟩
                case measure => simp [intOf]; omega
              · have hc10 : c.toNat ≠ 10 := by simpa [L9.nLF] using hp
                have hb9 : ((c.toNat : Int) == 10) = false := beq_eq_false_iff_ne.2 (by omega)
                have hb8 : ((c.toNat : Int) != 10) = true := by rw [bne, hb9]; rfl
                cases cm
                · by_cases h47 : c.toNat = 47
                  · have hb7 : ((c.toNat : Int) == 47) = true := beq_iff_eq.2 (by omega)
                    by_cases hJ3 : J + 1 < E
                    · have hJs3 : J + 1 < s.size := by have := HES.out; omega
                      obtain ⟨d, hdd⟩ := get_lt (l := lst s) (i := J + 1) (by rw [HSZ.out]; exact hJs3)
                      have hsJ3 : s[J + 1]'hJs3 = d := (List.getElem?_eq_some_iff.1 hdd).2
                      have hseg2 := seg_cons hdd hJ3
                      have hl3 : (J : Int) + 1 < E := by omega
                      by_cases hd47 : d.toNat = 47
                      · have hb6 : ((d.toNat : Int) == 47) = true := beq_iff_eq.2 (by omega)
                        have HWS := hid (show L9.ws true (((lst s).drop (J + 1)).take (E - (J + 1))) = some false by have h2 := hws.out; rw [hseg2] at h2 ⊢; exact ws_sl hp h47 hd47 h2)
                        clear hdd hseg2 hd47 h47 hc10 hp
                        clear hcc hseg hws
                        go_wp2_with (go_at_call 21; refine (HSP.out _).mono ?_; rintro e9 w9 ⟨rfl, rfl⟩)
                        go_round
                        case rel => exact ⟨J + 1, true, by omega, by omega, by go_num, rfl, HWS⟩
                        case measure => simp [intOf]; omega
                      · exact absurd hws.out (by rw [hseg2]; exact ws_no1 hp h47 hd47)
                    · exact absurd hws.out (by rw [show ((lst s).drop (J + 1)).take (E - (J + 1)) = [] by rw [show E - (J + 1) = 0 by omega, List.take_zero]]; exact ws_no2 hp h47)
                  · have hb7 : ((c.toNat : Int) == 47) = false := beq_eq_false_iff_ne.2 (by omega)
                    cases hW : L9.isW c
                    · exact absurd hws.out (ws_no3 h47 hW)
                    · rw [hW] at HSP
                      have HWS := hid (show L9.ws false (((lst s).drop (J + 1)).take (E - (J + 1))) = some false by have h2 := hws.out; rwa [L9.ws_white hW] at h2)
                      clear h47 hc10 hp hW
                      clear hcc hseg hws
                      go_wp2_with (go_at_call 21; refine (HSP.out _).mono ?_; rintro e9 w9 ⟨rfl, rfl⟩)
                      go_round
                      case rel => exact ⟨J + 1, false, by omega, by omega, by go_num, rfl, HWS⟩
                      case measure => simp [intOf]; omega
                · have HWS := hid (show L9.ws true (((lst s).drop (J + 1)).take (E - (J + 1))) = some false from ws_cm hp hws.out)
                  clear hc10 hp
                  clear hcc hseg hws
                  go_wp2_with (go_at_call 21; refine (HSP.out _).mono ?_; rintro e9 w9 ⟨rfl, rfl⟩)
                  go_round
                  case rel => exact ⟨J + 1, true, by omega, by omega, by go_num, rfl, HWS⟩
                  case measure => simp [intOf]; omega
            · obtain rfl : J = E := by omega
              have hcm : cm = false := by have h2 := hws.out; rw [Nat.sub_self, List.take_zero] at h2; exact Option.some.inj h2
              subst hcm
              clear hws
              have g2 := G2.out
              have g1 := G1.out
              go_wp2_with fail
              refine HSPL.out wr |>.mono ?_
              rintro e9 w5 ⟨rfl, hb5⟩
              have HB5 := hid (HBW.out.trans (hb5.mono HBW.out.size))
              clear hb5 k0 k1 k2 k3
              have hwl := HWL.out
              have htz := HTZ.out
              have hex := HEX.out
              go_wp2
              go_roundw
              case rel => exact HREL.out w5 HB5.out
              case measure => simp [intOf]; omega
      · obtain rfl : K = n := by omega
        rw [HN.out, List.drop_length] at hlx
        rcases L9.lx_plc _ _ _ hlx.out with ⟨_, fin, hfin⟩ | ⟨t, m, q, he, _⟩
        · obtain ⟨E, hE⟩ : ∃ E, E = s.size := ⟨_, rfl⟩
          have HAE := hid (show a ≤ E by omega)
          have HES := hid (show E ≤ s.size by omega)
          have HWS0 := hid (show L9.ws false (((lst s).drop a).take (E - a)) = some fin by rw [List.take_of_length_le (by rw [List.length_drop, HSZ.out]; omega)]; exact hfin)
          have g1 : (a : Int) ≤ E := by have := HAE.out; omega
          have HEE := hid hE
          have dd1 : decide (s.size < a) = false := decide_eq_false (by omega)
          clear hfin hlx hb hE
          go_wp2_with fail
          rw [← HEE.out]
          have G1 := hid g1
          clear g1
          go_loop [6, 9] (fun i cv => ∃ (J : Nat) (cm : Bool), a ≤ J ∧ J ≤ E ∧ i = .int .i64 J ∧ cv = .bool cm ∧ Hid (L9.ws cm (((lst s).drop J).take (E - J)) = some fin)) (fun i _ => E - (intOf i).toNat)
          case atStart => exact ⟨a, false, Nat.le_refl _, HAE.out, rfl, rfl, HWS0⟩
          case round =>
            obtain ⟨J, cm, hJ1, hJ2, rfl, rfl, hws⟩ := hrel
            by_cases hJE : J < E
            · have hJs : J < s.size := by have := HES.out; omega
              obtain ⟨c, hcc⟩ := get_lt (l := lst s) (i := J) (by rw [HSZ.out]; exact hJs)
              have hsJ : s[J]'hJs = c := (List.getElem?_eq_some_iff.1 hcc).2
              have HSP := hid (fun W => space_c c W)
              have hseg := seg_cons hcc hJE
              rw [hseg] at hws
              have hwJ := wrap_id (x := (J : Int) + 1) (by have := HS.out; omega) (by have := HS.out; omega)
              cases hp : L9.nLF c
              · have hc10 : c = 10 := UInt8.toNat_inj.1 (by simp only [L9.nLF, decide_eq_false_iff_not] at hp; simpa using hp)
                subst hc10
                have HWS := hid (show L9.ws false (((lst s).drop (J + 1)).take (E - (J + 1))) = some fin by have h2 := hws.out; rwa [L9.ws_lf] at h2)
                rw [show L9.isW 10 = true by decide] at HSP
                have hb9 : (((10 : UInt8).toNat : Int) == 10) = true := rfl
                have hb8 : (((10 : UInt8).toNat : Int) != 10) = false := rfl
                clear hcc hseg hws
                go_wp2_with (go_at_call 21; refine (HSP.out _).mono ?_; rintro e9 w9 ⟨rfl, rfl⟩)
                go_round
                case rel => exact ⟨J + 1, false, by omega, by omega, by go_num, rfl, HWS⟩
                case measure => simp [intOf]; omega
              · have hc10 : c.toNat ≠ 10 := by simpa [L9.nLF] using hp
                have hb9 : ((c.toNat : Int) == 10) = false := beq_eq_false_iff_ne.2 (by omega)
                have hb8 : ((c.toNat : Int) != 10) = true := by rw [bne, hb9]; rfl
                cases cm
                · by_cases h47 : c.toNat = 47
                  · have hb7 : ((c.toNat : Int) == 47) = true := beq_iff_eq.2 (by omega)
                    by_cases hJ3 : J + 1 < E
                    · have hJs3 : J + 1 < s.size := by have := HES.out; omega
                      obtain ⟨d, hdd⟩ := get_lt (l := lst s) (i := J + 1) (by rw [HSZ.out]; exact hJs3)
                      have hsJ3 : s[J + 1]'hJs3 = d := (List.getElem?_eq_some_iff.1 hdd).2
                      have hseg2 := seg_cons hdd hJ3
                      have hl3 : (J : Int) + 1 < E := by omega
                      by_cases hd47 : d.toNat = 47
                      · have hb6 : ((d.toNat : Int) == 47) = true := beq_iff_eq.2 (by omega)
                        have HWS := hid (show L9.ws true (((lst s).drop (J + 1)).take (E - (J + 1))) = some fin by have h2 := hws.out; rw [hseg2] at h2 ⊢; exact ws_sl hp h47 hd47 h2)
                        clear hdd hseg2 hd47 h47 hc10 hp
                        clear hcc hseg hws
                        go_wp2_with (go_at_call 21; refine (HSP.out _).mono ?_; rintro e9 w9 ⟨rfl, rfl⟩)
                        go_round
                        case rel => exact ⟨J + 1, true, by omega, by omega, by go_num, rfl, HWS⟩
                        case measure => simp [intOf]; omega
                      · exact absurd hws.out (by rw [hseg2]; exact ws_no1 hp h47 hd47)
                    · exact absurd hws.out (by rw [show ((lst s).drop (J + 1)).take (E - (J + 1)) = [] by rw [show E - (J + 1) = 0 by omega, List.take_zero]]; exact ws_no2 hp h47)
                  · have hb7 : ((c.toNat : Int) == 47) = false := beq_eq_false_iff_ne.2 (by omega)
                    cases hW : L9.isW c
                    · exact absurd hws.out (ws_no3 h47 hW)
                    · rw [hW] at HSP
                      have HWS := hid (show L9.ws false (((lst s).drop (J + 1)).take (E - (J + 1))) = some fin by have h2 := hws.out; rwa [L9.ws_white hW] at h2)
                      clear h47 hc10 hp hW
                      clear hcc hseg hws
                      go_wp2_with (go_at_call 21; refine (HSP.out _).mono ?_; rintro e9 w9 ⟨rfl, rfl⟩)
                      go_round
                      case rel => exact ⟨J + 1, false, by omega, by omega, by go_num, rfl, HWS⟩
                      case measure => simp [intOf]; omega
                · have HWS := hid (show L9.ws true (((lst s).drop (J + 1)).take (E - (J + 1))) = some fin from ws_cm hp hws.out)
                  clear hc10 hp
                  clear hcc hseg hws
                  go_wp2_with (go_at_call 21; refine (HSP.out _).mono ?_; rintro e9 w9 ⟨rfl, rfl⟩)
                  go_round
                  case rel => exact ⟨J + 1, true, by omega, by omega, by go_num, rfl, HWS⟩
                  case measure => simp [intOf]; omega
            · obtain rfl : J = E := by omega
              have hcm : cm = fin := by have h2 := hws.out; rw [Nat.sub_self, List.take_zero] at h2; exact Option.some.inj h2
              subst hcm
              clear hws
              go_wp2
              go_ret
              exact ⟨rfl, HT.out.trans (HBW.out.mono HT.out.size)⟩
        · cases he
  · rw [q1, q2, q3] at HLX
    clear q1 q2 q3 hsz
    go_enter Tryd.func6, Tryd.ntmps6
    go_wp2_with fail
    refine HSA.out.mono ?_
    rintro e wn ⟨rfl, hb⟩
    have HT := hid (below_t HT.out hb)
    clear hb
    go_wp2_with fail
    refine (HLX.out wn (HK.out.up HT.out)).mono ?_
    rintro e w1 ⟨⟨v, rfl, hv⟩, hb⟩
    have HT := hid (below_t HT.out hb)
    have KV := hid hv
    obtain ⟨p, c, hf⟩ := hv.form
    subst hf
    clear hb hv
    go_wp2
    go_ret
    exact ⟨rfl, HT.out⟩
end Go.Proofs.YtgckigolbajhoaaDoor

/- Contract: Changed of the reference. -/
import Derived.Test.YtbejjindkcjecaaRefKeys
import Derived.Test.YtbejjindkcjecaaX
namespace Go.Proofs.Ytbejjindkcjecaa
open Go.RowKit Go
set_option linter.unusedVariables false
set_option linter.unusedSimpArgs false
/-- the last span's end is written -/
theorem so_set {W : World} {base g n c : Nat} {l : List (Int × Int)} {f t : Int} (x : Int) (h : SO W base (.slice (some ⟨g, 0, none⟩) n c) (l ++ [(f, t)])) :
    SO (W.setCell ⟨g, l.length * 2 + 1, none⟩ (.int .i64 x)) base (.slice (some ⟨g, 0, none⟩) n c) (l ++ [(f, x)]) ∧ Below base W (W.setCell ⟨g, l.length * 2 + 1, none⟩ (.int .i64 x)) ∧
      W.cell? ⟨g, l.length * 2 + 1, none⟩ = some (.int .i64 t) ∧ W.frozen? ⟨g, l.length * 2 + 1, none⟩ = false := by
  have hlen : (l ++ [(f, t)]).length = (l ++ [(f, x)]).length := by simp
  obtain ⟨h1, h2⟩ := h
  rcases h2 with ⟨e, _⟩ | ⟨g', cap, cur, e, hb, hg, hn, hm, hs, ht⟩
  · cases e
  · simp only [Value.slice.injEq, Option.some.injEq, Addr.mk.injEq, and_true] at e
    obtain ⟨rfl, e2, rfl⟩ := e
    have b : Blk W g 26 cur.toList := by unfold Blk; simpa using hg
    have b' := b.set (l.length * 2 + 1) (.int .i64 x)
    have hfl : ((l ++ [(f, t)]).flatMap pc).set (l.length * 2 + 1) (.int .i64 x) = (l ++ [(f, x)]).flatMap pc := by
      have hl : (l.flatMap pc).length = l.length * 2 := flat_length pc 2 pc_len l
      rw [List.flatMap_append, List.flatMap_append, List.set_append_right _ _ (by rw [hl]; omega), hl]
      rw [show l.length * 2 + 1 - l.length * 2 = 1 by omega]
      rfl
    have hgl : cur.toList[l.length * 2 + 1]? = some (.int .i64 t) := by
      have h3 : (cur.toList.take ((l ++ [(f, t)]).length * 2))[l.length * 2 + 1]? = some (.int .i64 t) := by
        rw [ht]
        exact flat_get pc 2 pc_len _ l.length 1 (f, t) _ (by simp) rfl
      rw [List.getElem?_take] at h3
      split at h3
      · exact h3
      · cases h3
    refine ⟨⟨?_, .inr ⟨g, c, (cur.toList.set (l.length * 2 + 1) (.int .i64 x)).toArray, ?_, hb, b', ?_, hm, ?_, ?_⟩⟩, (Below.refl _ _).setCell (p := ⟨g, l.length * 2 + 1, none⟩) hb _, b.cell _ _ hgl, b.frozen _⟩
    · rw [flat_length pc 2 pc_len]
    · rw [← hlen, ← e2]
    · rw [← hlen]; exact hn
    · simpa using hs
    · rw [← hlen]
      show (cur.toList.set _ _).take _ = _
      rw [List.take_set, ht, hfl]
/-- a change that has just been laid is appended to an empty literal -/
theorem app_change0 {w : World} {base B : Nat} (hB : B < w.heap.size) (k : KE) (p : Option Addr) (n c : Nat) (s : List (Int × Int)) (hs : SO w base (.slice p n c) s) (hb : base ≤ w.heap.size) :
    ∃ v' w', (Builtin.append_ #[46, 46] 46 #[.slice (some ⟨B, 0, none⟩) 0 0, .slice (some ⟨w.heap.size, 0, none⟩) 1 1]).run Try.prog (w.alloc (.cells #[.int .i64 k.1, .int .i64 k.2.1, .int .i64 k.2.2, .slice p n c] 57)) = .ok v' w' ∧
      CS w' base v' [(k, s)] ∧ Below w.heap.size w w' := by
  obtain ⟨i, hi, hf⟩ := Option.map_eq_some_iff.1 info57
  simp only [Prod.mk.injEq] at hf
  obtain ⟨hz, hs4, hbyt⟩ := hf
  obtain ⟨z, hz, hzs⟩ := Option.map_eq_some_iff.1 hz
  have hal : Below w.heap.size w (w.alloc (.cells #[.int .i64 k.1, .int .i64 k.2.1, .int .i64 k.2.2, .slice p n c] 57)) := (Below.refl _ _).alloc (Nat.le_refl _) _
  have bk : Blk (w.alloc (.cells #[.int .i64 k.1, .int .i64 k.2.1, .int .i64 k.2.2, .slice p n c] 57)) w.heap.size 57 (cc (k, p, n, c)) := Blk.new w 57 (cc (k, p, n, c))
  obtain ⟨v', W', h1, h2, h3⟩ := run_append_arg_grows (P := Try.prog) (w.alloc (.cells #[.int .i64 k.1, .int .i64 k.2.1, .int .i64 k.2.2, .slice p n c] 57)) 46 46 57 i z 4 48 Try.underlying46 hi hz hs4 hbyt hzs (by omega) ⟨B, 0, none⟩ 0 0 [] rfl (fun j u hj => by simp at hj) ⟨w.heap.size, 0, none⟩ 1 1 (cc (k, p, n, c)) rfl (fun j u hj => by rw [add_plain, Nat.zero_add]; exact bk.cell j u hj) (by omega) (by unfold maxLen; omega) (by omega)
  have hgr : Below (w.alloc (.cells #[.int .i64 k.1, .int .i64 k.2.1, .int .i64 k.2.2, .slice p n c] 57)).heap.size (w.alloc (.cells #[.int .i64 k.1, .int .i64 k.2.1, .int .i64 k.2.2, .slice p n c] 57)) W' := (Below.refl _ _).grown h3 (Nat.le_refl _) (fun j hj => by cases hj)
  refine ⟨v', W', h1, ⟨[(k, p, n, c)], ?_, rfl, fun j x y hx hy => ?_⟩, below_t hal hgr⟩
  · refine GO.mono (b := (w.alloc (.cells #[.int .i64 k.1, .int .i64 k.2.1, .int .i64 k.2.2, .slice p n c] 57)).heap.size) ?_ (by simp; omega)
    show GO 57 4 cc W' _ v' [(k, p, n, c)]
    unfold GO
    rw [Nat.zero_add, List.nil_append] at h2
    simpa using h2
  · cases j with
    | zero =>
      simp at hx hy
      subst hx; subst hy
      exact ⟨rfl, hs.ups (below_t hal hgr)⟩
    | succ j => simp at hx
def rch (q q' : Int) (L : List FA) (k : KE) : Option (KE × List (Int × Int)) := if F7.difs k q q' L = [] then none else some (k, F7.difs k q q' L)
theorem changes_rch (q q' : Int) (L : List FA) : F7.changes q q' L = (F7.keys L).filterMap (rch q q' L) := rfl
theorem ofs_next (k : KE) (q q' : Int) (L : List FA) (m : Nat) : T6.ofs (F7.dif k q q' L) (m + 1) = if F7.dif k q q' L m then T6.grow (T6.ofs (F7.dif k q q' L) m) m else T6.ofs (F7.dif k q q' L) m := rfl
theorem grow_length (l : List (Int × Int)) (x : Int) : (T6.grow l x).length ≤ l.length + 1 := by
  unfold T6.grow
  cases hl : l.getLast? with
  | none => simp
  | some s =>
    obtain ⟨f, t⟩ := s
    dsimp only
    split
    · simp; try omega
    · simp
theorem ofs_length (P : Int → Prop) [DecidablePred P] : ∀ m : Nat, (T6.ofs P m).length ≤ m
  | 0 => by simp [T6.ofs]
  | m + 1 => by
    have h := ofs_length P m
    show (if P (m : Int) then T6.grow (T6.ofs P m) m else T6.ofs P m).length ≤ m + 1
    split
    · have := grow_length (T6.ofs P m) m; omega
    · omega
set_option maxRecDepth 100000 in
set_option maxHeartbeats 16000000 in
theorem refChanged_any (v : Value) (L : List FA) (q q' : Int) (w : World) (hv : FS w v L) (hL : L.length ≤ 1000) :
    Calls Try.prog 25 #[v, .int .i64 q, .int .i64 q'] w fun e w' => ∃ u, e = .returned u ∧ CG w' u (F7.changes q q' L) ∧ Below w.heap.size w w' := by
  have DF := hid (fun (k : KE) (t : Int) W (h : Below w.heap.size w W) => differs_any v L k t q q' W (hv.ups h) (by omega))
  have KY := hid (fun W (h : Below w.heap.size w W) => refKeys_any v L W (hv.ups h) hL)
  have HKL := hid (show (F7.keys L).length ≤ 1000 from by have := keys_length L; omega)
  obtain ⟨p, c, hf⟩ := hv.form
  obtain ⟨n, hn⟩ : ∃ n, n = L.length := ⟨_, rfl⟩
  rw [← hn] at hf
  subst hf
  clear hv hn hL
  obtain ⟨Y, hY⟩ : ∃ Z, Z = w.alloc (.cells #[] 57) := ⟨_, rfl⟩
  have HY := hid (show Below w.heap.size w Y from by rw [hY]; exact (Below.refl _ w).alloc (Nat.le_refl _) _)
  have HBL := hid (show w.heap.size < Y.heap.size from by rw [hY]; simp)
  obtain ⟨B0, hB0⟩ : ∃ x, x = w.heap.size := ⟨_, rfl⟩
  rw [← hB0] at HBL
  go_enter Try.func25, Try.ntmps25
  go_upto_region 2 with fail
  rw [← hY, ← hB0]
  clear hY hB0
  go_wp2_with fail
  refine (KY.out _ HY.out).mono ?_
  rintro e w2 ⟨uk, rfl, hks, hb2⟩
  have HB2 := hid (HY.out.trans (hb2.mono HY.out.size))
  have HB0 := hid (Nat.lt_of_lt_of_le HBL.out hb2.size)
  obtain ⟨pk, ck, hfk⟩ := hks.form
  obtain ⟨nk, hnk⟩ : ∃ x, x = (F7.keys L).length := ⟨_, rfl⟩
  rw [← hnk] at hfk
  subst hfk
  have hck := hks.cap.2.1
  have HCK := hid hck
  have HKR := hid (show KR pk w2.heap.size (F7.keys L) w2 from hks.gr 3 kc_len (by omega))
  have HNK := hid hnk
  have hnk1 : nk ≤ 1000 := by rw [hnk]; exact HKL.out
  clear hb2 hks hnk KY HBL
  go_wp2_with fail
  go_loopw [7, 9] (fun u ii wr => ∃ (i : Nat) (pu : Option Addr) (nu cu : Nat), i ≤ nk ∧ ii = .int .i64 i ∧ u = .slice pu nu cu ∧ Below w2.heap.size w2 wr ∧ Hid ((Value.slice pu nu cu = .slice (some ⟨B0, 0, none⟩) 0 0 ∧ ((F7.keys L).take i).filterMap (rch q q' L) = []) ∨ CS wr w2.heap.size (.slice pu nu cu) (((F7.keys L).take i).filterMap (rch q q' L)))) (fun _ ii _ => nk - (intOf ii).toNat)
  case atStart => exact ⟨0, _, _, _, by omega, rfl, rfl, Below.refl _ _, hid (.inl ⟨rfl, rfl⟩)⟩
  case round =>
    obtain ⟨i, pu, nu, cu, hi, rfl, rfl, hbw, hcs⟩ := hrel
    have HBW := hid hbw
    have HWW := hid (HB2.out.trans (hbw.mono HB2.out.size))
    clear hbw
    by_cases hlt : i < nk
    · obtain ⟨kx, hk⟩ := get_lt (l := F7.keys L) (i := i) (by rw [← HNK.out]; exact hlt)
      have HIL := hid hlt
      have HSN := hid (show ((F7.keys L).take (i + 1)).filterMap (rch q q' L) = ((F7.keys L).take i).filterMap (rch q q' L) ++ (rch q q' L kx).toList by rw [take_snoc hk, List.filterMap_append]; cases h : rch q q' L kx <;> simp [h])
      have HAL := hid (show (((F7.keys L).take i).filterMap (rch q q' L)).length ≤ 1000 from Nat.le_trans (List.length_filterMap_le _ _) (by rw [List.length_take]; have := HKL.out; omega))
      obtain ⟨bk, okk, rfl, hbk, hkc⟩ := HKR.out i kx hk
      have HKC := hid (fun (W : World) (hW : Below w2.heap.size w2 W) => show W.cell? ⟨bk, okk + i * 3, none⟩ = some (.int .i64 kx.1) ∧ W.cell? ⟨bk, okk + i * 3 + 1, none⟩ = some (.int .i64 kx.2.1) ∧ W.cell? ⟨bk, okk + i * 3 + 2, none⟩ = some (.int .i64 kx.2.2) from
        ⟨(hW.cell (p := ⟨bk, okk + i * 3, none⟩) hbk).trans (hkc 0 _ rfl), (hW.cell (p := ⟨bk, okk + i * 3 + 1, none⟩) hbk).trans (hkc 1 _ rfl), (hW.cell (p := ⟨bk, okk + i * 3 + 2, none⟩) hbk).trans (hkc 2 _ rfl)⟩)
      have HDF := hid (show F7.difs kx q q' L = T6.ofs (F7.dif kx q q' L) 1024 from rfl)
      have HNX := hid (ofs_next kx q q' L)
      have HOL := hid (fun m => ofs_length (F7.dif kx q q' L) m)
      clear hk hkc
      go_upto_region 7 with fail
      obtain ⟨Z, hZ⟩ : ∃ Z, Z = wr.alloc (.cells #[] 26) := ⟨_, rfl⟩
      have HWZ := hid (show Below wr.heap.size wr Z from by rw [hZ]; exact (Below.refl _ _).alloc (Nat.le_refl _) _)
      have HSO := hid (show SO Z wr.heap.size (.slice (some ⟨wr.heap.size, 0, none⟩) 0 0) [] from by
        rw [hZ]
        exact ⟨by simp, .inr ⟨wr.heap.size, 0, #[], rfl, Nat.le_refl _, heap_alloc_new wr _, Nat.le_refl _, by simp [maxLen], by simp, by simp⟩⟩)
      have HZS := hid HWZ.out.size
      rw [← hZ]
      clear hZ
      obtain ⟨WO, hWO⟩ : ∃ W, W = wr := ⟨_, rfl⟩
      rw [← hWO] at HWZ HSO HZS HWW HBW hcs ⊢
      clear hWO
      obtain ⟨b6, hb6⟩ : ∃ x, x = WO.heap.size := ⟨_, rfl⟩
      have HB6 := hid hb6
      rw [← hb6] at HWZ HSO HZS ⊢
      clear hb6
      go_wp2_with fail
      go_loopw [10, 11] (fun t mm wr2 => ∃ (m : Nat) (pt : Option Addr) (nt ct : Nat), m ≤ 1024 ∧ mm = .int .i64 m ∧ t = .slice pt nt ct ∧ SO wr2 b6 (.slice pt nt ct) (T6.ofs (F7.dif kx q q' L) m) ∧ Below b6 WO wr2) (fun _ mm _ => 1024 - (intOf mm).toNat)
      case atStart => exact ⟨0, _, _, _, by omega, rfl, rfl, HSO.out, HWZ.out⟩
      case round =>
        obtain ⟨m, pt, nt, ct, hm, rfl, rfl, hso, hb3⟩ := hrel
        have HS := hid hso; have HB3 := hid hb3
        have HNT := hid (show nt = (T6.ofs (F7.dif kx q q' L) m).length from hso.gs.cap.1)
        have hct := hso.gs.cap.2.1
        have HRW := hid (show Below w2.heap.size w2 wr from HBW.out.trans (hb3.mono (by rw [HB6.out]; exact HBW.out.size)))
        have HRR := hid (show Below w.heap.size w wr from HB2.out.trans (HRW.out.mono HB2.out.size))
        have HZW := hid (show b6 ≤ wr.heap.size from by rw [HB6.out]; exact hb3.size)
        clear hso hb3
        by_cases hmt : m < 1024
        · have D := hid (DF.out kx m wr HRR.out)
          obtain ⟨c0, c1, c2⟩ := HKC.out _ HRW.out
          have hnx := HNX.out m
          have HOM := hid (HOL.out m)
          by_cases hd : F7.dif kx q q' L m
          · rw [show decide (F7.dif kx q q' L m) = true from decide_eq_true hd] at D
            rw [if_pos hd] at hnx
            have HN := hid hnx
            clear hd hnx
            go_wp2_with fail
            refine D.out.mono ?_
            rintro e wn ⟨rfl, hb⟩
            have HS2 := hid (HS.out.ups hb)
            have HB4 := hid (HB3.out.trans (hb.mono HZW.out))
            have HZ4 := hid (Nat.le_trans HZW.out hb.size)
            clear hb c0 c1 c2 D
            obtain ⟨l, hl⟩ : ∃ l, l = T6.ofs (F7.dif kx q q' L) m := ⟨_, rfl⟩
            rw [← hl] at HN HS2 HNT HOM
            cases hgl : l.getLast? with
            | none =>
              have hln : l = [] := List.getLast?_eq_none_iff.1 hgl
              have hgr : T6.grow l m = [((m : Int), (m : Int) + 1)] := by unfold T6.grow; rw [hgl]
              have hnt0 : nt = 0 := by rw [HNT.out, hln]; rfl
              subst hnt0
              rw [hgr] at HN
              rw [hln] at HS2
              have HS3 := HS2
              obtain ⟨g, cap, w9, happ, hs9, hb9⟩ := app_span' HS3.out ((m : Int), (m : Int) + 1) (by simp) HZ4.out
              have HAPP := hid happ; have HS9 := hid hs9; have HB9 := hid (HB4.out.trans hb9)
              clear happ hs9 hb9 hgl hln hgr HS2 hl
              go_wp2_with (at_builtin; refine wpList_append_run rfl (.tmp 58) (.tmp 63) 55 55 ?_ _ _ _ ?_ ?_ HAPP.out ?_; exact rfl; exact rfl; exact rfl)
              go_roundw
              case rel => exact ⟨m + 1, _, _, _, by omega, by go_num, rfl, by rw [HN.out]; exact HS9.out, HB9.out⟩
              case measure => simp [intOf]; omega
            | some s =>
              obtain ⟨f, t⟩ := s
              obtain ⟨l0, rfl⟩ : ∃ l0, l = l0 ++ [(f, t)] := by
                have h := List.getLast?_eq_some_iff.1 hgl
                exact h
              obtain ⟨g, rfl⟩ : ∃ g, pt = some ⟨g, 0, none⟩ := by
                rcases HS2.out.2 with ⟨e, _⟩ | ⟨g, cap, cur, e, _⟩
                · exfalso
                  cases e
                  have := HNT.out
                  simp at this
                · simp only [Value.slice.injEq] at e
                  exact ⟨g, e.1⟩
              obtain ⟨n0, hn0⟩ : ∃ x, x = l0.length := ⟨_, rfl⟩
              have hnt : nt = n0 + 1 := by rw [HNT.out, hn0]; simp
              subst hnt
              have hn1 : n0 ≤ 1024 := by have := HOM.out; rw [List.length_append, ← hn0] at this; simp at this; omega
              obtain ⟨s1, s2, s3, s4⟩ := so_set ((m : Int) + 1) HS2.out
              rw [← hn0] at s1 s2 s3 s4
              by_cases htm : t = (m : Int)
              · subst htm
                have hgr : T6.grow (l0 ++ [(f, (m : Int))]) m = l0 ++ [(f, (m : Int) + 1)] := by unfold T6.grow; rw [hgl]; simp
                rw [hgr] at HN
                have HS9 := hid s1; have HB9 := hid (HB4.out.trans s2)
                clear s1 s2 hgl hgr HS2 hl hn0 HNT HOM
                go_wp2
                go_roundw
                case rel => exact ⟨m + 1, _, _, _, by omega, by go_num, rfl, by rw [HN.out]; exact HS9.out, HB9.out⟩
                case measure => simp [intOf]; omega
              · have htm2 : (t == (m : Int)) = false := by simpa using htm
                have hgr : T6.grow (l0 ++ [(f, t)]) m = (l0 ++ [(f, t)]) ++ [((m : Int), (m : Int) + 1)] := by unfold T6.grow; rw [hgl]; simp only [if_neg htm]
                rw [hgr] at HN
                have hlen : (l0 ++ [(f, t)]).length = n0 + 1 := by rw [List.length_append, ← hn0]; rfl
                obtain ⟨g9, cap, w9, happ, hs9, hb9⟩ := app_span' HS2.out ((m : Int), (m : Int) + 1) (by rw [hlen]; omega) HZ4.out
                rw [hlen] at happ hs9
                have HAPP := hid happ; have HS9 := hid hs9; have HB9 := hid (HB4.out.trans hb9)
                clear happ hs9 hb9 hgl hgr HS2 hl hn0 HNT HOM hlen s1 s2 s4 htm
                go_wp2_with (at_builtin; refine wpList_append_run rfl (.tmp 58) (.tmp 63) 55 55 ?_ _ _ _ ?_ ?_ HAPP.out ?_; exact rfl; exact rfl; exact rfl)
                go_roundw
                case rel => exact ⟨m + 1, _, _, _, by omega, by go_num, rfl, by rw [HN.out]; exact HS9.out, HB9.out⟩
                case measure => simp [intOf]; omega
          · rw [show decide (F7.dif kx q q' L m) = false from decide_eq_false hd] at D
            rw [if_neg hd] at hnx
            have HN := hid hnx
            clear hd hnx
            go_wp2_with fail
            refine D.out.mono ?_
            rintro e wn ⟨rfl, hb⟩
            have HS2 := hid (HS.out.ups hb)
            have HB4 := hid (HB3.out.trans (hb.mono HZW.out))
            clear hb c0 c1 c2 D
            go_wp2
            go_roundw
            case rel => exact ⟨m + 1, _, _, _, by omega, by go_num, rfl, by rw [HN.out]; exact HS2.out, HB4.out⟩
            case measure => simp [intOf]; omega
        · obtain rfl : m = 1024 := by omega
          have HDS := hid (show SO wr b6 (.slice pt nt ct) (F7.difs kx q q' L) from by rw [HDF.out]; exact HS.out)
          have HND := hid (show nt = (F7.difs kx q q' L).length from HDS.out.gs.cap.1)
          have HB5 := hid (show Below WO.heap.size WO wr from by rw [← HB6.out]; exact HB3.out)
          have hw2 : w2.heap.size ≤ b6 := by rw [HB6.out]; exact HBW.out.size
          have HD2 := hid (show SO wr w2.heap.size (.slice pt nt ct) (F7.difs kx q q' L) from GO.mono HDS.out hw2)
          have HWS := hid (show w2.heap.size ≤ wr.heap.size from HRW.out.size)
          have hil := HIL.out
          have hnt2 : nt ≤ 1024 := by have h := HOL.out 1024; rw [HNT.out]; exact h
          by_cases h0 : nt = 0
          · subst h0
            have hde : F7.difs kx q q' L = [] := List.eq_nil_of_length_eq_zero HND.out.symm
            have hac : ((F7.keys L).take (i + 1)).filterMap (rch q q' L) = ((F7.keys L).take i).filterMap (rch q q' L) := by
              rw [HSN.out, show rch q q' L kx = none from if_pos hde]; simp
            have HCS2 := hid (show (Value.slice pu nu cu = .slice (some ⟨B0, 0, none⟩) 0 0 ∧ ((F7.keys L).take (i + 1)).filterMap (rch q q' L) = []) ∨ CS wr w2.heap.size (.slice pu nu cu) (((F7.keys L).take (i + 1)).filterMap (rch q q' L)) from by
              rw [hac]
              exact hcs.out.imp id (fun h => h.ups HB5.out))
            clear hde hac hcs hw2
            go_wp2
            go_roundw
            case rel => exact ⟨i + 1, _, _, _, by omega, by go_num, rfl, HRW.out, HCS2⟩
            case measure => simp [intOf]; omega
          · have hnt3 : 0 < nt := by omega
            have hdn : F7.difs kx q q' L ≠ [] := fun e => h0 (by rw [HND.out, e]; rfl)
            have HAC := hid (show ((F7.keys L).take (i + 1)).filterMap (rch q q' L) = ((F7.keys L).take i).filterMap (rch q q' L) ++ [(kx, F7.difs kx q q' L)] by
              rw [HSN.out, show rch q q' L kx = some (kx, F7.difs kx q q' L) from if_neg hdn]; rfl)
            obtain ⟨c0, c1, c2⟩ := HKC.out _ HRW.out
            rcases hcs.out with ⟨h1, h2⟩ | h1
            · simp only [Value.slice.injEq] at h1
              obtain ⟨rfl, rfl, rfl⟩ := h1
              obtain ⟨v', w9, happ, hcs9, hb9⟩ := app_change0 (Nat.lt_of_lt_of_le HB0.out HWS.out) kx pt nt ct (F7.difs kx q q' L) HD2.out HWS.out
              obtain ⟨p9, n9, c9, rfl⟩ : ∃ p9 n9 c9, v' = .slice p9 n9 c9 := by
                obtain ⟨l', h, _⟩ := hcs9
                obtain ⟨p', c', h'⟩ := h.gs.form
                exact ⟨_, _, _, h'⟩
              have HAPP := hid happ
              have HC9 := hid (show CS w9 w2.heap.size (.slice p9 n9 c9) (((F7.keys L).take (i + 1)).filterMap (rch q q' L)) from by rw [HAC.out, h2]; exact hcs9)
              have HB9 := hid (show Below w2.heap.size w2 w9 from below_t HRW.out hb9)
              clear happ hcs9 hb9 hcs h2 hw2 hdn h0
              go_wp2_with (at_builtin; refine wpList_append_run rfl (.tmp 68) (.tmp 75) 46 46 ?_ _ _ _ ?_ ?_ HAPP.out ?_; exact rfl; exact rfl; exact rfl)
              go_roundw
              case rel => exact ⟨i + 1, _, _, _, by omega, by go_num, rfl, HB9.out, hid (.inr HC9.out)⟩
              case measure => simp [intOf]; omega
            · obtain ⟨g9, cap9, w9, happ, hcs9, hb9⟩ := app_change (h1.ups HB5.out) kx pt nt ct (F7.difs kx q q' L) HD2.out (by have := HAL.out; omega) HWS.out
              obtain ⟨nn9, hnn9⟩ : ∃ x, x = (((F7.keys L).take i).filterMap (rch q q' L)).length + 1 := ⟨_, rfl⟩
              rw [← hnn9] at happ hcs9
              have HAPP := hid happ
              have HC9 := hid (show CS w9 w2.heap.size (.slice (some ⟨g9, 0, none⟩) nn9 cap9) (((F7.keys L).take (i + 1)).filterMap (rch q q' L)) from by rw [HAC.out]; exact hcs9)
              have HB9 := hid (show Below w2.heap.size w2 w9 from HRW.out.trans hb9)
              clear happ hcs9 hb9 hcs h1 hw2 hdn h0 hnn9
              go_wp2_with (at_builtin; refine wpList_append_run rfl (.tmp 68) (.tmp 75) 46 46 ?_ _ _ _ ?_ ?_ HAPP.out ?_; exact rfl; exact rfl; exact rfl)
              go_roundw
              case rel => exact ⟨i + 1, _, _, _, by omega, by go_num, rfl, HB9.out, hid (.inr HC9.out)⟩
              case measure => simp [intOf]; omega
    · have HRES := hid (show ((F7.keys L).take i).filterMap (rch q q' L) = F7.changes q q' L by rw [List.take_of_length_le (by have := HNK.out; omega)]; rfl)
      have HFIN := hid (show CG wr (.slice pu nu cu) (F7.changes q q' L) from by
        rw [← HRES.out]
        rcases hcs.out with ⟨h1, h2⟩ | h1
        · rw [h1, h2]
          exact ⟨[], .inr ⟨⟨B0, 0, none⟩, 0, rfl, Nat.le_refl _, by simp [maxLen], fun j v hj => by simp at hj, Nat.lt_of_lt_of_le HB0.out HBW.out.size⟩, rfl, fun j x y hx => by simp at hx⟩
        · exact h1.cg)
      clear hcs
      go_wp2
      go_ret
      exact ⟨_, rfl, HFIN.out, HWW.out⟩
end Go.Proofs.Ytbejjindkcjecaa

/- Contract: Keys of the reference. -/
import Derived.Test.YtbejjindkcjecaaRefP
namespace Go.Proofs.Ytbejjindkcjecaa
open Go.RowKit Go
set_option linter.unusedVariables false
set_option linter.unusedSimpArgs false
/-- the rest from i on -/
theorem size37k : ∀ w : World, (sizeOf (Try.prog.elem 37)).run Try.prog w = .ok 3 w := by
  have he : Try.prog.elem 37 = 24 := by kernel_rfl
  rw [he]
  exact Try.sizeOf24
theorem und37k : Try.prog.underlying 37 = some (.slice (Try.prog.elem 37)) := by kernel_rfl
theorem slice_rest (p : Option Addr) (i len cap : Nat) (hi : i ≤ len) (hc : len ≤ cap) (hm : cap ≤ 9224772036854775807) :
    ∃ q m k, ∀ W : World, (Instr.slice 37 (.slice p len cap) (some (.int .i64 (i : Int))) none none).run Try.prog W = .ok (.slice q m k) W ∧ ∀ l, l.length = len → KS W (.slice p len cap) l → KS W (.slice q m k) (l.drop i) := by
  refine ⟨if cap = i then p else p.map (·.add (i * 3)), len - i, cap - i, fun W => ⟨?_, ?_⟩⟩
  · rw [run_slice_l W 37 p len cap und37k .i64 (i : Int) (by omega) (by omega)]
    simp [size37k, Result.andThen, sliced]
  · intro l hl h
    rcases h with ⟨h1, rfl⟩ | ⟨a, cap', h1, h2, h3, h4, h5⟩
    · simp only [Value.slice.injEq] at h1
      obtain ⟨rfl, rfl, rfl⟩ := h1
      exact .inl ⟨by simp, by simp⟩
    · simp only [Value.slice.injEq] at h1
      obtain ⟨rfl, rfl, rfl⟩ := h1
      by_cases hci : cap = i
      · rw [if_pos hci]
        have hnil : l.drop i = [] := by rw [List.drop_eq_nil_iff]; omega
        refine .inr ⟨a, cap - i, by rw [hnil]; simp; omega, by rw [hnil]; simp, by omega, by rw [hnil]; intro j v hj; simp at hj, h5⟩
      · rw [if_neg hci]
        refine .inr ⟨a.add (i * 3), cap - i, by simp, by simp; omega, by omega, ?_, by rw [add_block]; exact h5⟩
        by_cases hnil : l.drop i = []
        · rw [hnil]; intro j v hj; simp at hj
        · intro j v hj
          have hne : l ≠ [] := fun e => hnil (by rw [e]; simp)
          have ha : a = ⟨a.block, a.off, none⟩ := by
            obtain ⟨x, r, rfl⟩ := List.exists_cons_of_ne_nil hne
            exact Cells.spot (v := .int .i64 x.1) (vs := [.int .i64 x.2.1, .int .i64 x.2.2] ++ r.flatMap kc) h4
          have hfl : (l.drop i).flatMap kc = (l.flatMap kc).drop (i * 3) := by
            have e := congrArg (List.flatMap kc) (List.take_append_drop i l)
            rw [List.flatMap_append] at e
            rw [← e, List.drop_left' (by rw [flat_length kc 3 kc_len, List.length_take]; congr 1; omega)]
          rw [hfl, List.getElem?_drop] at hj
          have := h4 _ _ hj
          rw [ha] at this ⊢
          rw [add_plain] at this
          rw [add_plain, add_plain, Nat.add_assoc]
          exact this

theorem ks_take {W : World} {a : Addr} {n c j : Nat} {l : List KE} (h : KS W (.slice (some a) n c) l) (hj : j ≤ n) : KS W (.slice (some a) j j) (l.take j) := by
  rcases h with ⟨h1, _⟩ | ⟨a', cap', h1, h2, h3, h4, h5⟩
  · cases h1
  · simp only [Value.slice.injEq, Option.some.injEq] at h1
    obtain ⟨rfl, rfl, rfl⟩ := h1
    have hl : (l.take j).length = j := by rw [List.length_take]; omega
    refine .inr ⟨a, j, by rw [hl], by rw [hl]; exact Nat.le_refl _, by omega, fun k v hk => ?_, h5⟩
    refine h4 k v ?_
    have e := congrArg (List.flatMap kc) (List.take_append_drop j l)
    rw [List.flatMap_append] at e
    rw [← e, List.getElem?_append_left (List.getElem?_eq_some_iff.1 hk).1]
    exact hk
theorem app_none37 {W : World} {b : Option Addr} {n cap : Nat} {q : Option Addr} {c : Nat} (hle : n ≤ cap) (h : q = none → c = 0) : (Builtin.append_ #[37, 37] 37 #[.slice b n cap, .slice q 0 c]).run Try.prog W = .ok (.slice b n cap) W := by
  obtain ⟨i, hi, hf⟩ := Option.map_eq_some_iff.1 info24
  cases q with
  | none =>
    obtain rfl := h rfl
    cases b <;> simp [Builtin.append_, run_underlying Try.underlying37, sizeOf, typeInfo, hi, Builtin.lenOf, run_firstCells_none, hle, storeCells]
  | some a =>
    have hfc := run_firstCells_some (P := Try.prog) W i.size 0 a 0 c [] (by simp) (fun j v hj => by simp at hj)
    cases b <;> simp [Builtin.append_, run_underlying Try.underlying37, sizeOf, typeInfo, hi, Builtin.lenOf, hfc, hle, storeCells]
theorem app_full {W : World} {a : Addr} {n : Nat} {x : Value} {l m : List KE} (h : KS W (.slice (some a) n n) l) (hx : KS W x m) (hl : l.length ≤ 100000) (hm : m.length ≤ 100000) (h0 : m ≠ []) :
    ∃ v' W', (Builtin.append_ #[37, 37] 37 #[.slice (some a) n n, x]).run Try.prog W = .ok v' W' ∧ KS W' v' (l ++ m) ∧ Below W.heap.size W W' ∧ ∃ g n c, v' = .slice (some ⟨g, 0, none⟩) n c := by
  obtain ⟨i, hi, hf⟩ := Option.map_eq_some_iff.1 info24
  simp only [Prod.mk.injEq] at hf
  obtain ⟨hz, hs, hbyt⟩ := hf
  obtain ⟨z, hz, hzs⟩ := Option.map_eq_some_iff.1 hz
  rcases h with ⟨e, _⟩ | ⟨a', c, e, hlc, hmx, hcs, hab⟩
  · cases e
  · simp only [Value.slice.injEq, Option.some.injEq] at e
    obtain ⟨rfl, rfl, rfl⟩ := e
    rcases hx with ⟨_, e⟩ | ⟨ax, cx, rfl, hlx, hmxx, hcx, hax⟩
    · exact absurd e h0
    · have hpos : 0 < m.length := List.length_pos_iff.2 h0
      obtain ⟨v', W', h1, h2, h3⟩ := run_append_arg_grows (P := Try.prog) W 37 37 24 i z 3 24 Try.underlying37 hi hz hs hbyt hzs (by omega) a l.length l.length (l.flatMap kc) (flat_length kc 3 kc_len l) (fun j u hj => hcs j u hj) ax m.length cx (m.flatMap kc) (flat_length kc 3 kc_len m) (fun j u hj => hcx j u hj) (by omega) (by unfold maxLen; omega) (by omega)
      have hko : KO W' W.heap.size v' (l ++ m) := by
        unfold KO GO
        rw [List.length_append, List.flatMap_append]; exact h2
      obtain ⟨g, c', e, _⟩ := h2.form (by omega)
      exact ⟨v', W', h1, hko.gs, (Below.refl _ W).grown h3 (Nat.le_refl _) (fun j hj => by cases hj), g, _, c', e⟩
/-- a key ahead of a row -/
theorem app_ks1 (W : World) (k : KE) (x : Value) (m : List KE) (hx : KS W x m) (hm : m.length ≤ 10000) :
    ∃ v' W', (Builtin.append_ #[37, 37] 37 #[.slice (some ⟨W.heap.size, 0, none⟩) 1 1, x]).run Try.prog (W.alloc (.cells #[.int .i64 k.1, .int .i64 k.2.1, .int .i64 k.2.2] 24)) = .ok v' W' ∧ KS W' v' (k :: m) ∧ Below W.heap.size W W' ∧ ∃ g n c, v' = .slice (some ⟨g, 0, none⟩) n c := by
  have hal : Below W.heap.size W (W.alloc (.cells #[.int .i64 k.1, .int .i64 k.2.1, .int .i64 k.2.2] 24)) := (Below.refl _ _).alloc (Nat.le_refl _) _
  have hb : Blk (W.alloc (.cells #[.int .i64 k.1, .int .i64 k.2.1, .int .i64 k.2.2] 24)) W.heap.size 24 (kc k) := Blk.new W 24 (kc k)
  have hk1 : KS (W.alloc (.cells #[.int .i64 k.1, .int .i64 k.2.1, .int .i64 k.2.2] 24)) (.slice (some ⟨W.heap.size, 0, none⟩) 1 1) [k] := (ko_lit hb (Nat.le_refl _)).gs
  by_cases h0 : m = []
  · subst h0
    obtain ⟨q, c', hq⟩ := hx.form
    subst hq
    refine ⟨_, _, app_none37 (Nat.le_refl _) (fun e => ?_), hk1, hal, W.heap.size, 1, 1, rfl⟩
    rcases hx with ⟨e', _⟩ | ⟨a, c2, e', _⟩
    · cases e'; rfl
    · cases e'; cases e
  · obtain ⟨v', W', h1, h2, h3, g, n, c, h4⟩ := app_full hk1 (hx.ups hal) (by simp) (by omega) h0
    exact ⟨v', W', h1, h2, below_t hal h3, g, n, c, h4⟩
theorem ins_at (k : KE) : ∀ (l : List KE) (j : Nat), (∀ j' x, j' < j → l[j']? = some x → F7.kl x k) → j ≤ l.length → (∀ x, l[j]? = some x → ¬ F7.kl x k) → F7.ins k l = if l[j]? = some k then l else l.take j ++ k :: l.drop j
  | [], j, h1, h2, h3 => by
    obtain rfl : j = 0 := by simpa using h2
    simp [F7.ins]
  | x :: r, 0, h1, h2, h3 => by
    have hx := h3 x rfl
    unfold F7.ins
    rw [if_neg hx]
    by_cases e : x = k
    · rw [if_pos e]; simp [e]
    · rw [if_neg e]; simp [e]
  | x :: r, j + 1, h1, h2, h3 => by
    have hx := h1 0 x (by omega) rfl
    unfold F7.ins
    rw [if_pos hx, ins_at k r j (fun j' y hj hy => h1 (j' + 1) y (by omega) (by simpa using hy)) (by simpa using h2) (fun y hy => h3 y (by simpa using hy))]
    by_cases e : r[j]? = some k
    · rw [if_pos e]; simp [e]
    · rw [if_neg e]; simp [e]
theorem ins_length (k : KE) : ∀ l : List KE, (F7.ins k l).length ≤ l.length + 1
  | [] => by simp [F7.ins]
  | x :: r => by
    unfold F7.ins
    have := ins_length k r
    split
    · simp only [List.length_cons]; omega
    · split <;> simp
theorem keys_length (l : List FA) : (F7.keys l).length ≤ l.length := by
  refine F7.snocRec (P := fun l => (F7.keys l).length ≤ l.length) (by simp [F7.keys]) (fun l f ih => ?_) l
  rw [F7.keys_snoc, List.length_append, List.length_singleton]
  have := ins_length f.key (F7.keys l)
  omega
set_option maxRecDepth 100000 in
set_option maxHeartbeats 8000000 in
theorem refKeys_any (v : Value) (L : List FA) (w : World) (hv : FS w v L) (hL : L.length ≤ 1000) : Calls Try.prog 45 #[v] w fun e w' => ∃ u, e = .returned u ∧ KS w' u (F7.keys L) ∧ Below w.heap.size w w' := by
  obtain ⟨p, c, hf⟩ := hv.form
  obtain ⟨n, hn⟩ : ∃ n, n = L.length := ⟨_, rfl⟩
  rw [← hn] at hf hL
  subst hf
  have hc1 := hv.cap.2.1
  have hc2 := hv.cap.2.2
  unfold maxLen at hc2
  have HCP := hid (show n ≤ c ∧ c ≤ 9223372036854775807 from ⟨hc1, by omega⟩)
  have HR := hid (show FR p w.heap.size L w from hv.gr 8 fc_len (by omega))
  have HN := hid hn
  have HG := hid (show Try.prog.eqGuardType Try.prog.depth 24 = false by kernel_rfl)
  have HKE0 := hid (show ∀ i, (F7.keys (L.take i)).length ≤ 1000 from fun i => by have := keys_length (L.take i); rw [List.length_take] at this; omega)
  have HZ := hid ((Below.refl _ w).alloc (Nat.le_refl _) (.cells #[] 24))
  have HK0 := hid (show KS (w.alloc (.cells #[] 24)) (.slice (some ⟨w.heap.size, 0, none⟩) 0 0) [] from .inr ⟨⟨w.heap.size, 0, none⟩, 0, rfl, Nat.le_refl _, by simp [maxLen], fun j v hj => by simp at hj, by simp⟩)
  clear hv hn hc2
  go_enter Try.func45, Try.ntmps45
  go_wp2
  go_loopw [3, 4] (fun u ii wr => ∃ (i ba oa nn cc : Nat), i ≤ n ∧ ii = .int .i64 i ∧ u = .slice (some ⟨ba, oa, none⟩) nn cc ∧ KS wr u (F7.keys (L.take i)) ∧ Below w.heap.size w wr) (fun _ ii _ => n - (intOf ii).toNat)
  case atStart => exact ⟨0, _, _, _, _, by omega, rfl, rfl, HK0.out, HZ.out⟩
  case round =>
    obtain ⟨i, ba, oa, nn, cc, hi, rfl, rfl, hks, hbw⟩ := hrel
    have HBW := hid hbw
    have hwsz := hbw.size
    have HWS := hid hwsz
    have HKO := hid hks
    have HNN := hid (show nn = (F7.keys (L.take i)).length from hks.cap.1)
    have hck1 := hks.cap.2.1
    have hck2 := hks.cap.2.2
    unfold maxLen at hck2
    have HCK := hid (show nn ≤ cc ∧ cc ≤ 9223372036854775807 from ⟨hck1, by omega⟩)
    have HKL := hid (show (F7.keys (L.take i)).length ≤ 1000 from HKE0.out i)
    have HKB := hid (show nn ≤ 1000 by rw [HNN.out]; exact HKE0.out i)
    have hnn := HKB.out
    clear hbw hks hck2 hwsz
    by_cases hlt : i < n
    · obtain ⟨f, hf⟩ := get_lt (l := L) (i := i) (by rw [← HN.out]; exact hlt)
      have HIL := hid hlt
      have HKS := hid (show F7.keys (L.take (i + 1)) = F7.ins f.key (F7.keys (L.take i)) by rw [take_snoc hf, F7.keys_snoc])
      obtain ⟨b, o, rfl, hbl, _⟩ := GR.at8 (HR.out.up HBW.out) hf
      have HAB := hid (fun (W : World) (hW : Below w.heap.size w W) => show At8 W b (o + i * 8) f from by
        obtain ⟨b', o', e', hl', z0, z1, z2, z3, z4, z5, z6, z7⟩ := GR.at8 (HR.out.up hW) hf
        injection e' with e'
        injection e' with e1 e2 e3
        subst e1; subst e2
        exact ⟨z0, z1, z2, z3, z4, z5, z6, z7⟩)
      clear hf hbl
      go_wp2_with fail
      go_loopw [5] (fun x wr2 => ∃ j : Nat, j ≤ nn ∧ x = .int .i64 j ∧ Below wr.heap.size wr wr2 ∧ Hid (∀ j' x, j' < j → (F7.keys (L.take i))[j']? = some x → F7.kl x f.key)) (fun x _ => nn - (intOf x).toNat)
      case atStart => exact ⟨0, by omega, rfl, Below.refl _ _, hid (fun j' x h => by omega)⟩
      case round =>
        obtain ⟨j, hj, rfl, hb2, hles⟩ := hrel
        have HKO := hid (HKO.out.ups hb2)
        have HB2 := hid hb2
        have HBW := hid (HBW.out.trans (hb2.mono HWS.out))
        clear hb2
        have HT := hid (Below.refl wr.heap.size wr)
        have HA := hid (fun (W : World) (hW : Below wr.heap.size wr W) => HAB.out W (HBW.out.trans (hW.mono HBW.out.size)))
        have HJE := hid hj
        by_cases hjn : j < nn
        · obtain ⟨y, hy⟩ := get_lt (l := F7.keys (L.take i)) (i := j) (by rw [← HNN.out]; exact hjn)
          have HJ := hid hjn; have HJL := hid hjn
          have HKJ := hid (fun (W : World) (hW : Below wr.heap.size wr W) => show W.cell? ⟨ba, oa + j * 3, none⟩ = some (.int .i64 y.1) ∧ W.cell? ⟨ba, oa + j * 3 + 1, none⟩ = some (.int .i64 y.2.1) ∧ W.cell? ⟨ba, oa + j * 3 + 2, none⟩ = some (.int .i64 y.2.2) from by
            have hr : KR (some ⟨ba, oa, none⟩) wr.heap.size (F7.keys (L.take i)) wr := HKO.out.gr 3 kc_len (by omega)
            obtain ⟨b', o', e', hl', z0⟩ := (hr.up hW) j y hy
            injection e' with e'
            injection e' with e1 e2 e3
            subst e1; subst e2
            exact ⟨z0 0 _ rfl, z0 1 _ rfl, z0 2 _ rfl⟩)
          have LK0 := hid (fun W => show Calls Try.prog 58 #[KV y, .agg #[.int .i64 f.kind, .int .i64 f.subj, .int .i64 f.obj]] W _ from lessKey_any y f.key W)
          have HKE := hid (fun w => show (Op.equalIn 10000 24 (KV y) (.agg #[.int .i64 f.kind, .int .i64 f.subj, .int .i64 f.obj])).run Try.prog w = _ from key_eq y f.key w)
          have HIA := hid (fun (h : ¬ F7.kl y f.key) => ins_at f.key (F7.keys (L.take i)) j hles.out (by rw [← HNN.out]; exact hj) (fun x hx => by rw [hy] at hx; cases hx; exact h))
          have HLS := hid (fun (h : F7.kl y f.key) j' x (hj' : j' < j + 1) (hx : (F7.keys (L.take i))[j']? = some x) => show F7.kl x f.key from by
            by_cases e : j' = j
            · subst e; rw [hy] at hx; cases hx; exact h
            · exact hles.out j' x (by omega) hx)
          have HY := hid hy
          obtain ⟨y0, y1, y2⟩ := y
          simp only at HKJ
          clear hy
          by_cases hkl : F7.kl (y0, y1, y2) f.key
          · have LK := LK0
            rw [show decide (F7.kl (y0, y1, y2) f.key) = true from decide_eq_true hkl] at LK
            have HLN := hid (HLS.out hkl)
            clear hkl LK0 HKE HIA HLS
            go_upto_region 6 with fail
            have HT := hid HT.out.drew
            refine wa_start (S := fun W => Below wr.heap.size wr W) (by kernel_rfl) HT.out ?_
            refine wa_tk 0 (some 14) (.int .i64 (j : Int)) rfl (by kernel_rfl) rfl rfl HT.out (fun w h0 => by go_simp) ?_
            try simp only [Act.put, List.setIfInBounds_toArray, List.set_cons_zero, List.set_cons_succ]
            refine wa_tk 1 (some 15) (.slice (some ⟨ba, oa, none⟩) nn cc) rfl (by kernel_rfl) rfl rfl HT.out (fun w h0 => by go_simp) ?_
            try simp only [Act.put, List.setIfInBounds_toArray, List.set_cons_zero, List.set_cons_succ]
            refine wa_tk 2 (some 16) (.int .i64 (nn : Int)) rfl (by kernel_rfl) rfl rfl HT.out (fun w h0 => by go_simp) ?_
            try simp only [Act.put, List.setIfInBounds_toArray, List.set_cons_zero, List.set_cons_succ]
            refine wa_tk 3 (some 17) (.bool true) rfl (by kernel_rfl) rfl rfl HT.out (fun w h0 => by have hj := HJ.out; (go_simp) <;> omega) ?_
            try simp only [Act.put, List.setIfInBounds_toArray, List.set_cons_zero, List.set_cons_succ]
            refine wa_tk 4 (some 18) (.bool true) rfl (by kernel_rfl) rfl rfl HT.out (fun w h0 => by go_simp) ?_
            try simp only [Act.put, List.setIfInBounds_toArray, List.set_cons_zero, List.set_cons_succ]
            refine wa_tkg 5 (some 19) (.slice (some ⟨ba, oa, none⟩) nn cc) rfl (by kernel_rfl) rfl rfl HT.out (fun w h0 => by go_simp) ?_
            try simp only [Act.put, List.setIfInBounds_toArray, List.set_cons_zero, List.set_cons_succ]
            refine wa_tkg 6 (some 20) (.int .i64 (j : Int)) rfl (by kernel_rfl) rfl rfl HT.out (fun w h0 => by go_simp) ?_
            try simp only [Act.put, List.setIfInBounds_toArray, List.set_cons_zero, List.set_cons_succ]
            refine wa_tkg 7 (some 21) (.pointer (some ⟨ba, oa + j * 3, none⟩)) rfl (by kernel_rfl) rfl rfl HT.out (fun w h0 => by have hj := HJL.out; have hc := HCK.out; go_simp) ?_
            try simp only [Act.put, List.setIfInBounds_toArray, List.set_cons_zero, List.set_cons_succ]
            refine wa_tkg 8 (some 22) (KV (y0, y1, y2)) rfl (by kernel_rfl) rfl rfl HT.out (fun w h0 => by obtain ⟨x0, x1, x2⟩ := HKJ.out _ h0; go_simp) ?_
            try simp only [Act.put, List.setIfInBounds_toArray, List.set_cons_zero, List.set_cons_succ]
            refine wa_tkg 9 (some 23) (.slice (some ⟨b, o, none⟩) n c) rfl (by kernel_rfl) rfl rfl HT.out (fun w h0 => by go_simp) ?_
            try simp only [Act.put, List.setIfInBounds_toArray, List.set_cons_zero, List.set_cons_succ]
            refine wa_tkg 10 (some 24) (.int .i64 (i : Int)) rfl (by kernel_rfl) rfl rfl HT.out (fun w h0 => by go_simp) ?_
            try simp only [Act.put, List.setIfInBounds_toArray, List.set_cons_zero, List.set_cons_succ]
            refine wa_tkg 11 (some 25) (.pointer (some ⟨b, o + i * 8, none⟩)) rfl (by kernel_rfl) rfl rfl HT.out (fun w h0 => by have hi := HIL.out; have hc := HCP.out; go_simp) ?_
            try simp only [Act.put, List.setIfInBounds_toArray, List.set_cons_zero, List.set_cons_succ]
            refine wa_tkg 12 (some 26) (.pointer (some ⟨b, o + i * 8, none⟩)) rfl (by kernel_rfl) rfl rfl HT.out (fun w h0 => by go_simp) ?_
            try simp only [Act.put, List.setIfInBounds_toArray, List.set_cons_zero, List.set_cons_succ]
            refine wa_tkg 13 (some 27) (.agg #[.int .i64 f.kind, .int .i64 f.subj, .int .i64 f.obj]) rfl (by kernel_rfl) rfl rfl HT.out (fun w h0 => by obtain ⟨x0, x1, x2, x3, x4, x5, x6, x7⟩ := HA.out _ h0; go_simp) ?_
            try simp only [Act.put, List.setIfInBounds_toArray, List.set_cons_zero, List.set_cons_succ]
            refine wa_branch [14] (by decide +kernel) rfl ?_
            refine ar_opg 14 rfl rfl (fun K hK => ?_) ar_nil
            unfold Oper.wp
            go_simp
            go_at_call 58
            refine (LK.out _).mono ?_
            rintro e wz ⟨rfl, hbz⟩
            have HT := hid (below_t HT.out hbz)
            clear hbz
            go_simp
            refine hK.out _ _ HT.out ?_
            clear hK K
            try simp only [Act.put, List.setIfInBounds_toArray, List.set_cons_zero, List.set_cons_succ]
            refine wa_tk 15 (some 29) (.bool true) rfl (by kernel_rfl) rfl rfl HT.out (fun w h0 => by go_simp) ?_
            try simp only [Act.put, List.setIfInBounds_toArray, List.set_cons_zero, List.set_cons_succ]
            refine wa_done (by decide +kernel) ?_
            go_wp2
            go_roundw
            case rel => exact ⟨j + 1, by have := HJL.out; omega, by go_num, below_t HB2.out HT.out, HLN⟩
            case measure => have := HJL.out; simp [intOf]; omega
          · have LK := LK0
            rw [show decide (F7.kl (y0, y1, y2) f.key) = false from decide_eq_false hkl] at LK
            have hia := HIA.out hkl
            rw [HY.out] at hia
            clear hkl LK0 HIA HLS
            by_cases hyk : ((y0, y1, y2) : KE) = f.key
            · rw [show decide (((y0, y1, y2) : KE) = f.key) = true from decide_eq_true hyk] at HKE
              have HNEW := hid (show F7.keys (L.take (i + 1)) = F7.keys (L.take i) by rw [HKS.out, hia, if_pos (by rw [hyk])])
              clear hia hyk hles
              go_upto_region 6 with fail
              have HT := hid HT.out.drew
              refine wa_start (S := fun W => Below wr.heap.size wr W) (by kernel_rfl) HT.out ?_
              refine wa_tk 0 (some 14) (.int .i64 (j : Int)) rfl (by kernel_rfl) rfl rfl HT.out (fun w h0 => by go_simp) ?_
              try simp only [Act.put, List.setIfInBounds_toArray, List.set_cons_zero, List.set_cons_succ]
              refine wa_tk 1 (some 15) (.slice (some ⟨ba, oa, none⟩) nn cc) rfl (by kernel_rfl) rfl rfl HT.out (fun w h0 => by go_simp) ?_
              try simp only [Act.put, List.setIfInBounds_toArray, List.set_cons_zero, List.set_cons_succ]
              refine wa_tk 2 (some 16) (.int .i64 (nn : Int)) rfl (by kernel_rfl) rfl rfl HT.out (fun w h0 => by go_simp) ?_
              try simp only [Act.put, List.setIfInBounds_toArray, List.set_cons_zero, List.set_cons_succ]
              refine wa_tk 3 (some 17) (.bool true) rfl (by kernel_rfl) rfl rfl HT.out (fun w h0 => by have hj := HJ.out; (go_simp) <;> omega) ?_
              try simp only [Act.put, List.setIfInBounds_toArray, List.set_cons_zero, List.set_cons_succ]
              refine wa_tk 4 (some 18) (.bool true) rfl (by kernel_rfl) rfl rfl HT.out (fun w h0 => by go_simp) ?_
              try simp only [Act.put, List.setIfInBounds_toArray, List.set_cons_zero, List.set_cons_succ]
              refine wa_tkg 5 (some 19) (.slice (some ⟨ba, oa, none⟩) nn cc) rfl (by kernel_rfl) rfl rfl HT.out (fun w h0 => by go_simp) ?_
              try simp only [Act.put, List.setIfInBounds_toArray, List.set_cons_zero, List.set_cons_succ]
              refine wa_tkg 6 (some 20) (.int .i64 (j : Int)) rfl (by kernel_rfl) rfl rfl HT.out (fun w h0 => by go_simp) ?_
              try simp only [Act.put, List.setIfInBounds_toArray, List.set_cons_zero, List.set_cons_succ]
              refine wa_tkg 7 (some 21) (.pointer (some ⟨ba, oa + j * 3, none⟩)) rfl (by kernel_rfl) rfl rfl HT.out (fun w h0 => by have hj := HJL.out; have hc := HCK.out; go_simp) ?_
              try simp only [Act.put, List.setIfInBounds_toArray, List.set_cons_zero, List.set_cons_succ]
              refine wa_tkg 8 (some 22) (KV (y0, y1, y2)) rfl (by kernel_rfl) rfl rfl HT.out (fun w h0 => by obtain ⟨x0, x1, x2⟩ := HKJ.out _ h0; go_simp) ?_
              try simp only [Act.put, List.setIfInBounds_toArray, List.set_cons_zero, List.set_cons_succ]
              refine wa_tkg 9 (some 23) (.slice (some ⟨b, o, none⟩) n c) rfl (by kernel_rfl) rfl rfl HT.out (fun w h0 => by go_simp) ?_
              try simp only [Act.put, List.setIfInBounds_toArray, List.set_cons_zero, List.set_cons_succ]
              refine wa_tkg 10 (some 24) (.int .i64 (i : Int)) rfl (by kernel_rfl) rfl rfl HT.out (fun w h0 => by go_simp) ?_
              try simp only [Act.put, List.setIfInBounds_toArray, List.set_cons_zero, List.set_cons_succ]
              refine wa_tkg 11 (some 25) (.pointer (some ⟨b, o + i * 8, none⟩)) rfl (by kernel_rfl) rfl rfl HT.out (fun w h0 => by have hi := HIL.out; have hc := HCP.out; go_simp) ?_
              try simp only [Act.put, List.setIfInBounds_toArray, List.set_cons_zero, List.set_cons_succ]
              refine wa_tkg 12 (some 26) (.pointer (some ⟨b, o + i * 8, none⟩)) rfl (by kernel_rfl) rfl rfl HT.out (fun w h0 => by go_simp) ?_
              try simp only [Act.put, List.setIfInBounds_toArray, List.set_cons_zero, List.set_cons_succ]
              refine wa_tkg 13 (some 27) (.agg #[.int .i64 f.kind, .int .i64 f.subj, .int .i64 f.obj]) rfl (by kernel_rfl) rfl rfl HT.out (fun w h0 => by obtain ⟨x0, x1, x2, x3, x4, x5, x6, x7⟩ := HA.out _ h0; go_simp) ?_
              try simp only [Act.put, List.setIfInBounds_toArray, List.set_cons_zero, List.set_cons_succ]
              refine wa_branch [14] (by decide +kernel) rfl ?_
              refine ar_opg 14 rfl rfl (fun K hK => ?_) ar_nil
              unfold Oper.wp
              go_simp
              go_at_call 58
              refine (LK.out _).mono ?_
              rintro e wz ⟨rfl, hbz⟩
              have HT := hid (below_t HT.out hbz)
              clear hbz
              go_simp
              refine hK.out _ _ HT.out ?_
              clear hK K
              try simp only [Act.put, List.setIfInBounds_toArray, List.set_cons_zero, List.set_cons_succ]
              refine wa_tk 15 (some 29) (.bool false) rfl (by kernel_rfl) rfl rfl HT.out (fun w h0 => by go_simp) ?_
              try simp only [Act.put, List.setIfInBounds_toArray, List.set_cons_zero, List.set_cons_succ]
              refine wa_done (by decide +kernel) ?_
              go_upto_region 8 with fail
              have HT := hid HT.out.drew
              refine wa_start (S := fun W => Below wr.heap.size wr W) (by kernel_rfl) HT.out ?_
              refine wa_tk 0 (some 32) (.int .i64 (j : Int)) rfl (by kernel_rfl) rfl rfl HT.out (fun w h0 => by go_simp) ?_
              try simp only [Act.put, List.setIfInBounds_toArray, List.set_cons_zero, List.set_cons_succ]
              refine wa_tk 1 (some 33) (.slice (some ⟨ba, oa, none⟩) nn cc) rfl (by kernel_rfl) rfl rfl HT.out (fun w h0 => by go_simp) ?_
              try simp only [Act.put, List.setIfInBounds_toArray, List.set_cons_zero, List.set_cons_succ]
              refine wa_tk 2 (some 34) (.int .i64 (nn : Int)) rfl (by kernel_rfl) rfl rfl HT.out (fun w h0 => by go_simp) ?_
              try simp only [Act.put, List.setIfInBounds_toArray, List.set_cons_zero, List.set_cons_succ]
              refine wa_tk 3 (some 35) (.bool true) rfl (by kernel_rfl) rfl rfl HT.out (fun w h0 => by have hj := HJ.out; (go_simp) <;> omega) ?_
              try simp only [Act.put, List.setIfInBounds_toArray, List.set_cons_zero, List.set_cons_succ]
              refine wa_tk 4 (some 36) (.bool true) rfl (by kernel_rfl) rfl rfl HT.out (fun w h0 => by go_simp) ?_
              try simp only [Act.put, List.setIfInBounds_toArray, List.set_cons_zero, List.set_cons_succ]
              refine wa_tkg 5 (some 37) (.slice (some ⟨ba, oa, none⟩) nn cc) rfl (by kernel_rfl) rfl rfl HT.out (fun w h0 => by go_simp) ?_
              try simp only [Act.put, List.setIfInBounds_toArray, List.set_cons_zero, List.set_cons_succ]
              refine wa_tkg 6 (some 38) (.int .i64 (j : Int)) rfl (by kernel_rfl) rfl rfl HT.out (fun w h0 => by go_simp) ?_
              try simp only [Act.put, List.setIfInBounds_toArray, List.set_cons_zero, List.set_cons_succ]
              refine wa_tkg 7 (some 39) (.pointer (some ⟨ba, oa + j * 3, none⟩)) rfl (by kernel_rfl) rfl rfl HT.out (fun w h0 => by have hj := HJL.out; have hc := HCK.out; go_simp) ?_
              try simp only [Act.put, List.setIfInBounds_toArray, List.set_cons_zero, List.set_cons_succ]
              refine wa_tkg 8 (some 40) (KV (y0, y1, y2)) rfl (by kernel_rfl) rfl rfl HT.out (fun w h0 => by obtain ⟨x0, x1, x2⟩ := HKJ.out _ h0; go_simp) ?_
              try simp only [Act.put, List.setIfInBounds_toArray, List.set_cons_zero, List.set_cons_succ]
              refine wa_tkg 9 (some 41) (.slice (some ⟨b, o, none⟩) n c) rfl (by kernel_rfl) rfl rfl HT.out (fun w h0 => by go_simp) ?_
              try simp only [Act.put, List.setIfInBounds_toArray, List.set_cons_zero, List.set_cons_succ]
              refine wa_tkg 10 (some 42) (.int .i64 (i : Int)) rfl (by kernel_rfl) rfl rfl HT.out (fun w h0 => by go_simp) ?_
              try simp only [Act.put, List.setIfInBounds_toArray, List.set_cons_zero, List.set_cons_succ]
              refine wa_tkg 11 (some 43) (.pointer (some ⟨b, o + i * 8, none⟩)) rfl (by kernel_rfl) rfl rfl HT.out (fun w h0 => by have hi := HIL.out; have hc := HCP.out; go_simp) ?_
              try simp only [Act.put, List.setIfInBounds_toArray, List.set_cons_zero, List.set_cons_succ]
              refine wa_tkg 12 (some 44) (.pointer (some ⟨b, o + i * 8, none⟩)) rfl (by kernel_rfl) rfl rfl HT.out (fun w h0 => by go_simp) ?_
              try simp only [Act.put, List.setIfInBounds_toArray, List.set_cons_zero, List.set_cons_succ]
              refine wa_tkg 13 (some 45) (.agg #[.int .i64 f.kind, .int .i64 f.subj, .int .i64 f.obj]) rfl (by kernel_rfl) rfl rfl HT.out (fun w h0 => by obtain ⟨x0, x1, x2, x3, x4, x5, x6, x7⟩ := HA.out _ h0; go_simp) ?_
              try simp only [Act.put, List.setIfInBounds_toArray, List.set_cons_zero, List.set_cons_succ]
              refine wa_tkg 14 (some 46) (.bool true) rfl (by kernel_rfl) rfl rfl HT.out (fun w h0 => by have hpe := HKE.out; have hg60 := HG.out; go_simp) ?_
              try simp only [Act.put, List.setIfInBounds_toArray, List.set_cons_zero, List.set_cons_succ]
              refine wa_tk 15 (some 47) (.bool true) rfl (by kernel_rfl) rfl rfl HT.out (fun w h0 => by go_simp) ?_
              try simp only [Act.put, List.setIfInBounds_toArray, List.set_cons_zero, List.set_cons_succ]
              refine wa_done (by decide +kernel) ?_
              go_wp2
              go_roundw
              case rel => exact ⟨i + 1, _, _, _, _, by have := HIL.out; omega, by go_num, rfl, by rw [HNEW.out]; exact HKO.out.ups HT.out, HBW.out.trans (HT.out.mono HBW.out.size)⟩
              case measure => have := HIL.out; simp [intOf]; omega
            · rw [show decide (((y0, y1, y2) : KE) = f.key) = false from decide_eq_false hyk] at HKE
              have HNEW := hid (show F7.keys (L.take (i + 1)) = (F7.keys (L.take i)).take j ++ f.key :: (F7.keys (L.take i)).drop j by rw [HKS.out, hia, if_neg (fun e => hyk (Option.some.inj e))])
              clear hia hyk hles
              go_upto_region 6 with fail
              have HT := hid HT.out.drew
              refine wa_start (S := fun W => Below wr.heap.size wr W) (by kernel_rfl) HT.out ?_
              refine wa_tk 0 (some 14) (.int .i64 (j : Int)) rfl (by kernel_rfl) rfl rfl HT.out (fun w h0 => by go_simp) ?_
              try simp only [Act.put, List.setIfInBounds_toArray, List.set_cons_zero, List.set_cons_succ]
              refine wa_tk 1 (some 15) (.slice (some ⟨ba, oa, none⟩) nn cc) rfl (by kernel_rfl) rfl rfl HT.out (fun w h0 => by go_simp) ?_
              try simp only [Act.put, List.setIfInBounds_toArray, List.set_cons_zero, List.set_cons_succ]
              refine wa_tk 2 (some 16) (.int .i64 (nn : Int)) rfl (by kernel_rfl) rfl rfl HT.out (fun w h0 => by go_simp) ?_
              try simp only [Act.put, List.setIfInBounds_toArray, List.set_cons_zero, List.set_cons_succ]
              refine wa_tk 3 (some 17) (.bool true) rfl (by kernel_rfl) rfl rfl HT.out (fun w h0 => by have hj := HJ.out; (go_simp) <;> omega) ?_
              try simp only [Act.put, List.setIfInBounds_toArray, List.set_cons_zero, List.set_cons_succ]
              refine wa_tk 4 (some 18) (.bool true) rfl (by kernel_rfl) rfl rfl HT.out (fun w h0 => by go_simp) ?_
              try simp only [Act.put, List.setIfInBounds_toArray, List.set_cons_zero, List.set_cons_succ]
              refine wa_tkg 5 (some 19) (.slice (some ⟨ba, oa, none⟩) nn cc) rfl (by kernel_rfl) rfl rfl HT.out (fun w h0 => by go_simp) ?_
              try simp only [Act.put, List.setIfInBounds_toArray, List.set_cons_zero, List.set_cons_succ]
              refine wa_tkg 6 (some 20) (.int .i64 (j : Int)) rfl (by kernel_rfl) rfl rfl HT.out (fun w h0 => by go_simp) ?_
              try simp only [Act.put, List.setIfInBounds_toArray, List.set_cons_zero, List.set_cons_succ]
              refine wa_tkg 7 (some 21) (.pointer (some ⟨ba, oa + j * 3, none⟩)) rfl (by kernel_rfl) rfl rfl HT.out (fun w h0 => by have hj := HJL.out; have hc := HCK.out; go_simp) ?_
              try simp only [Act.put, List.setIfInBounds_toArray, List.set_cons_zero, List.set_cons_succ]
              refine wa_tkg 8 (some 22) (KV (y0, y1, y2)) rfl (by kernel_rfl) rfl rfl HT.out (fun w h0 => by obtain ⟨x0, x1, x2⟩ := HKJ.out _ h0; go_simp) ?_
              try simp only [Act.put, List.setIfInBounds_toArray, List.set_cons_zero, List.set_cons_succ]
              refine wa_tkg 9 (some 23) (.slice (some ⟨b, o, none⟩) n c) rfl (by kernel_rfl) rfl rfl HT.out (fun w h0 => by go_simp) ?_
              try simp only [Act.put, List.setIfInBounds_toArray, List.set_cons_zero, List.set_cons_succ]
              refine wa_tkg 10 (some 24) (.int .i64 (i : Int)) rfl (by kernel_rfl) rfl rfl HT.out (fun w h0 => by go_simp) ?_
              try simp only [Act.put, List.setIfInBounds_toArray, List.set_cons_zero, List.set_cons_succ]
              refine wa_tkg 11 (some 25) (.pointer (some ⟨b, o + i * 8, none⟩)) rfl (by kernel_rfl) rfl rfl HT.out (fun w h0 => by have hi := HIL.out; have hc := HCP.out; go_simp) ?_
              try simp only [Act.put, List.setIfInBounds_toArray, List.set_cons_zero, List.set_cons_succ]
              refine wa_tkg 12 (some 26) (.pointer (some ⟨b, o + i * 8, none⟩)) rfl (by kernel_rfl) rfl rfl HT.out (fun w h0 => by go_simp) ?_
              try simp only [Act.put, List.setIfInBounds_toArray, List.set_cons_zero, List.set_cons_succ]
              refine wa_tkg 13 (some 27) (.agg #[.int .i64 f.kind, .int .i64 f.subj, .int .i64 f.obj]) rfl (by kernel_rfl) rfl rfl HT.out (fun w h0 => by obtain ⟨x0, x1, x2, x3, x4, x5, x6, x7⟩ := HA.out _ h0; go_simp) ?_
              try simp only [Act.put, List.setIfInBounds_toArray, List.set_cons_zero, List.set_cons_succ]
              refine wa_branch [14] (by decide +kernel) rfl ?_
              refine ar_opg 14 rfl rfl (fun K hK => ?_) ar_nil
              unfold Oper.wp
              go_simp
              go_at_call 58
              refine (LK.out _).mono ?_
              rintro e wz ⟨rfl, hbz⟩
              have HT := hid (below_t HT.out hbz)
              clear hbz
              go_simp
              refine hK.out _ _ HT.out ?_
              clear hK K
              try simp only [Act.put, List.setIfInBounds_toArray, List.set_cons_zero, List.set_cons_succ]
              refine wa_tk 15 (some 29) (.bool false) rfl (by kernel_rfl) rfl rfl HT.out (fun w h0 => by go_simp) ?_
              try simp only [Act.put, List.setIfInBounds_toArray, List.set_cons_zero, List.set_cons_succ]
              refine wa_done (by decide +kernel) ?_
              go_upto_region 8 with fail
              have HT := hid HT.out.drew
              refine wa_start (S := fun W => Below wr.heap.size wr W) (by kernel_rfl) HT.out ?_
              refine wa_tk 0 (some 32) (.int .i64 (j : Int)) rfl (by kernel_rfl) rfl rfl HT.out (fun w h0 => by go_simp) ?_
              try simp only [Act.put, List.setIfInBounds_toArray, List.set_cons_zero, List.set_cons_succ]
              refine wa_tk 1 (some 33) (.slice (some ⟨ba, oa, none⟩) nn cc) rfl (by kernel_rfl) rfl rfl HT.out (fun w h0 => by go_simp) ?_
              try simp only [Act.put, List.setIfInBounds_toArray, List.set_cons_zero, List.set_cons_succ]
              refine wa_tk 2 (some 34) (.int .i64 (nn : Int)) rfl (by kernel_rfl) rfl rfl HT.out (fun w h0 => by go_simp) ?_
              try simp only [Act.put, List.setIfInBounds_toArray, List.set_cons_zero, List.set_cons_succ]
              refine wa_tk 3 (some 35) (.bool true) rfl (by kernel_rfl) rfl rfl HT.out (fun w h0 => by have hj := HJ.out; (go_simp) <;> omega) ?_
              try simp only [Act.put, List.setIfInBounds_toArray, List.set_cons_zero, List.set_cons_succ]
              refine wa_tk 4 (some 36) (.bool true) rfl (by kernel_rfl) rfl rfl HT.out (fun w h0 => by go_simp) ?_
              try simp only [Act.put, List.setIfInBounds_toArray, List.set_cons_zero, List.set_cons_succ]
              refine wa_tkg 5 (some 37) (.slice (some ⟨ba, oa, none⟩) nn cc) rfl (by kernel_rfl) rfl rfl HT.out (fun w h0 => by go_simp) ?_
              try simp only [Act.put, List.setIfInBounds_toArray, List.set_cons_zero, List.set_cons_succ]
              refine wa_tkg 6 (some 38) (.int .i64 (j : Int)) rfl (by kernel_rfl) rfl rfl HT.out (fun w h0 => by go_simp) ?_
              try simp only [Act.put, List.setIfInBounds_toArray, List.set_cons_zero, List.set_cons_succ]
              refine wa_tkg 7 (some 39) (.pointer (some ⟨ba, oa + j * 3, none⟩)) rfl (by kernel_rfl) rfl rfl HT.out (fun w h0 => by have hj := HJL.out; have hc := HCK.out; go_simp) ?_
              try simp only [Act.put, List.setIfInBounds_toArray, List.set_cons_zero, List.set_cons_succ]
              refine wa_tkg 8 (some 40) (KV (y0, y1, y2)) rfl (by kernel_rfl) rfl rfl HT.out (fun w h0 => by obtain ⟨x0, x1, x2⟩ := HKJ.out _ h0; go_simp) ?_
              try simp only [Act.put, List.setIfInBounds_toArray, List.set_cons_zero, List.set_cons_succ]
              refine wa_tkg 9 (some 41) (.slice (some ⟨b, o, none⟩) n c) rfl (by kernel_rfl) rfl rfl HT.out (fun w h0 => by go_simp) ?_
              try simp only [Act.put, List.setIfInBounds_toArray, List.set_cons_zero, List.set_cons_succ]
              refine wa_tkg 10 (some 42) (.int .i64 (i : Int)) rfl (by kernel_rfl) rfl rfl HT.out (fun w h0 => by go_simp) ?_
              try simp only [Act.put, List.setIfInBounds_toArray, List.set_cons_zero, List.set_cons_succ]
              refine wa_tkg 11 (some 43) (.pointer (some ⟨b, o + i * 8, none⟩)) rfl (by kernel_rfl) rfl rfl HT.out (fun w h0 => by have hi := HIL.out; have hc := HCP.out; go_simp) ?_
              try simp only [Act.put, List.setIfInBounds_toArray, List.set_cons_zero, List.set_cons_succ]
              refine wa_tkg 12 (some 44) (.pointer (some ⟨b, o + i * 8, none⟩)) rfl (by kernel_rfl) rfl rfl HT.out (fun w h0 => by go_simp) ?_
              try simp only [Act.put, List.setIfInBounds_toArray, List.set_cons_zero, List.set_cons_succ]
              refine wa_tkg 13 (some 45) (.agg #[.int .i64 f.kind, .int .i64 f.subj, .int .i64 f.obj]) rfl (by kernel_rfl) rfl rfl HT.out (fun w h0 => by obtain ⟨x0, x1, x2, x3, x4, x5, x6, x7⟩ := HA.out _ h0; go_simp) ?_
              try simp only [Act.put, List.setIfInBounds_toArray, List.set_cons_zero, List.set_cons_succ]
              refine wa_tkg 14 (some 46) (.bool false) rfl (by kernel_rfl) rfl rfl HT.out (fun w h0 => by have hpe := HKE.out; have hg60 := HG.out; go_simp) ?_
              try simp only [Act.put, List.setIfInBounds_toArray, List.set_cons_zero, List.set_cons_succ]
              refine wa_tk 15 (some 47) (.bool false) rfl (by kernel_rfl) rfl rfl HT.out (fun w h0 => by go_simp) ?_
              try simp only [Act.put, List.setIfInBounds_toArray, List.set_cons_zero, List.set_cons_succ]
              refine wa_done (by decide +kernel) ?_
              go_upto_region 9 with fail
              obtain ⟨qr, mr, kr, hsr⟩ := slice_rest (some ⟨ba, oa, none⟩) j nn cc HJE.out HCK.out.1 (by have := HCK.out.2; omega)
              have HSR := hid hsr
              clear hsr
              have HT := hid HT.out.drew
              refine wa_start (S := fun W => Below wr.heap.size wr W) (by kernel_rfl) HT.out ?_
              generalize hWD : World.drew _ = WD at HT ⊢
              clear hWD
              refine wa_tk 0 (some 48) (.slice (some ⟨b, o, none⟩) n c) rfl (by kernel_rfl) rfl rfl HT.out (fun w h0 => by go_simp) ?_
              try simp only [Act.put, List.setIfInBounds_toArray, List.set_cons_zero, List.set_cons_succ]
              refine wa_tk 1 (some 49) (.int .i64 (i : Int)) rfl (by kernel_rfl) rfl rfl HT.out (fun w h0 => by go_simp) ?_
              try simp only [Act.put, List.setIfInBounds_toArray, List.set_cons_zero, List.set_cons_succ]
              refine wa_tk 2 (some 50) (.pointer (some ⟨b, o + i * 8, none⟩)) rfl (by kernel_rfl) rfl rfl HT.out (fun w h0 => by have hi := HIL.out; have hc := HCP.out; go_simp) ?_
              try simp only [Act.put, List.setIfInBounds_toArray, List.set_cons_zero, List.set_cons_succ]
              refine wa_tk 3 (some 51) (.pointer (some ⟨b, o + i * 8, none⟩)) rfl (by kernel_rfl) rfl rfl HT.out (fun w h0 => by go_simp) ?_
              try simp only [Act.put, List.setIfInBounds_toArray, List.set_cons_zero, List.set_cons_succ]
              refine wa_tk 4 (some 52) (.agg #[.int .i64 f.kind, .int .i64 f.subj, .int .i64 f.obj]) rfl (by kernel_rfl) rfl rfl HT.out (fun w h0 => by obtain ⟨x0, x1, x2, x3, x4, x5, x6, x7⟩ := HA.out _ h0; go_simp) ?_
              try simp only [Act.put, List.setIfInBounds_toArray, List.set_cons_zero, List.set_cons_succ]
              refine wa_tk 6 (some 54) (.slice (some ⟨ba, oa, none⟩) nn cc) rfl (by kernel_rfl) rfl rfl HT.out (fun w h0 => by go_simp) ?_
              try simp only [Act.put, List.setIfInBounds_toArray, List.set_cons_zero, List.set_cons_succ]
              refine wa_tk 7 (some 55) (.int .i64 (j : Int)) rfl (by kernel_rfl) rfl rfl HT.out (fun w h0 => by go_simp) ?_
              try simp only [Act.put, List.setIfInBounds_toArray, List.set_cons_zero, List.set_cons_succ]
              refine wa_tk 8 (some 56) (.slice qr mr kr) rfl (by kernel_rfl) rfl rfl HT.out (fun w h0 => by have hs := (HSR.out w).1; go_simp) ?_
              try simp only [Act.put, List.setIfInBounds_toArray, List.set_cons_zero, List.set_cons_succ]
              refine wa_branch [5] (by decide +kernel) rfl ?_
              refine ar_op 5 rfl rfl (fun K hK => ?_) ar_nil
              unfold Oper.wp
              go_simp
              refine hK.out _ _ (HT.out.alloc HT.out.size _) ?_
              clear hK K
              try simp only [Act.put, List.setIfInBounds_toArray, List.set_cons_zero, List.set_cons_succ]
              obtain ⟨v9, w9, happ, hks9, hb9, g9, n9, c9, hv9⟩ := app_ks1 WD f.key (.slice qr mr kr) ((F7.keys (L.take i)).drop j) ((HSR.out _).2 _ HNN.out.symm (HKO.out.ups HT.out)) (by have := HKL.out; simp; omega)
              have HT2 := hid (below_t HT.out hb9)
              have HK9 := hid hks9
              subst hv9
              have HAPP := hid happ
              clear happ hks9 hb9
              refine wa_branch [9] (by decide +kernel) rfl ?_
              refine ar_op 9 rfl rfl (fun K hK => ?_) ar_nil
              refine st_append (some 57) rfl (.tmp 53) (.tmp 56) 37 37 rfl rfl _ _ _ _ rfl rfl HAPP.out ?_
              refine hK.out _ _ HT2.out ?_
              clear hK K
              try simp only [Act.put, List.setIfInBounds_toArray, List.set_cons_zero, List.set_cons_succ]
              refine wa_branch [10] (by decide +kernel) rfl ?_
              refine ar_op 10 rfl rfl (fun K hK => ?_) ar_nil
              unfold Oper.wp
              go_simp
              refine hK.out _ _ HT2.out ?_
              clear hK K
              try simp only [Act.put, List.setIfInBounds_toArray, List.set_cons_zero, List.set_cons_succ]
              refine wa_done (by decide +kernel) ?_
              obtain ⟨v10, w10, happ2, hks10, hb10, g10, n10, c10, hv10⟩ := app_full (ks_take (HKO.out.ups HT2.out) HJE.out) HK9.out (by have := HKL.out; simp; omega) (by have := HKL.out; simp; omega) (by simp)
              subst hv10
              have HAP2 := hid happ2
              have HK10 := hid hks10
              have HT3 := hid (below_t HT2.out hb10)
              clear happ2 hks10 hb10
              have hje := HJE.out
              have hck := HCK.out.1
              have hjc : j ≤ cc := Nat.le_trans hje hck
              go_wp2_with (at_builtin; refine wpList_append_run rfl (.tmp 61) (.tmp 62) 37 37 ?_ _ _ _ ?_ ?_ HAP2.out ?_; exact rfl; exact rfl; exact rfl)
              go_roundw
              case rel => exact ⟨i + 1, _, _, _, _, by have := HIL.out; omega, by go_num, rfl, by rw [HNEW.out]; exact HK10.out, HBW.out.trans (HT3.out.mono HBW.out.size)⟩
              case measure => have := HIL.out; simp [intOf]; omega
        · have HJ := hid hjn
          have HNEW := hid (show F7.keys (L.take (i + 1)) = (F7.keys (L.take i)).take j ++ f.key :: (F7.keys (L.take i)).drop j by
            have hjl : j = (F7.keys (L.take i)).length := by have := HNN.out; omega
            have hno : (F7.keys (L.take i))[j]? = none := by rw [List.getElem?_eq_none_iff]; omega
            rw [HKS.out, ins_at f.key _ j hles.out (by omega) (fun x hx => by rw [hno] at hx; cases hx), hno, if_neg (fun e => by cases e)])
          clear hles
          go_upto_region 6 with fail
          have HT := hid HT.out.drew
          refine wa_start (S := fun W => Below wr.heap.size wr W) (by kernel_rfl) HT.out ?_
          refine wa_tk 0 (some 14) (.int .i64 (j : Int)) rfl (by kernel_rfl) rfl rfl HT.out (fun w h0 => by go_simp) ?_
          try simp only [Act.put, List.setIfInBounds_toArray, List.set_cons_zero, List.set_cons_succ]
          refine wa_tk 1 (some 15) (.slice (some ⟨ba, oa, none⟩) nn cc) rfl (by kernel_rfl) rfl rfl HT.out (fun w h0 => by go_simp) ?_
          try simp only [Act.put, List.setIfInBounds_toArray, List.set_cons_zero, List.set_cons_succ]
          refine wa_tk 2 (some 16) (.int .i64 (nn : Int)) rfl (by kernel_rfl) rfl rfl HT.out (fun w h0 => by go_simp) ?_
          try simp only [Act.put, List.setIfInBounds_toArray, List.set_cons_zero, List.set_cons_succ]
          refine wa_tk 3 (some 17) (.bool false) rfl (by kernel_rfl) rfl rfl HT.out (fun w h0 => by have hj := HJ.out; (go_simp) <;> omega) ?_
          try simp only [Act.put, List.setIfInBounds_toArray, List.set_cons_zero, List.set_cons_succ]
          refine wa_tk 4 (some 18) (.bool false) rfl (by kernel_rfl) rfl rfl HT.out (fun w h0 => by go_simp) ?_
          try simp only [Act.put, List.setIfInBounds_toArray, List.set_cons_zero, List.set_cons_succ]
          refine wa_skg 5 (some 19) rfl (by kernel_rfl) rfl rfl HT.out ?_
          try simp only [Act.put, List.setIfInBounds_toArray, List.set_cons_zero, List.set_cons_succ]
          refine wa_skg 6 (some 20) rfl (by kernel_rfl) rfl rfl HT.out ?_
          try simp only [Act.put, List.setIfInBounds_toArray, List.set_cons_zero, List.set_cons_succ]
          refine wa_skg 7 (some 21) rfl (by kernel_rfl) rfl rfl HT.out ?_
          try simp only [Act.put, List.setIfInBounds_toArray, List.set_cons_zero, List.set_cons_succ]
          refine wa_skg 8 (some 22) rfl (by kernel_rfl) rfl rfl HT.out ?_
          try simp only [Act.put, List.setIfInBounds_toArray, List.set_cons_zero, List.set_cons_succ]
          refine wa_skg 9 (some 23) rfl (by kernel_rfl) rfl rfl HT.out ?_
          try simp only [Act.put, List.setIfInBounds_toArray, List.set_cons_zero, List.set_cons_succ]
          refine wa_skg 10 (some 24) rfl (by kernel_rfl) rfl rfl HT.out ?_
          try simp only [Act.put, List.setIfInBounds_toArray, List.set_cons_zero, List.set_cons_succ]
          refine wa_skg 11 (some 25) rfl (by kernel_rfl) rfl rfl HT.out ?_
          try simp only [Act.put, List.setIfInBounds_toArray, List.set_cons_zero, List.set_cons_succ]
          refine wa_skg 12 (some 26) rfl (by kernel_rfl) rfl rfl HT.out ?_
          try simp only [Act.put, List.setIfInBounds_toArray, List.set_cons_zero, List.set_cons_succ]
          refine wa_skg 13 (some 27) rfl (by kernel_rfl) rfl rfl HT.out ?_
          try simp only [Act.put, List.setIfInBounds_toArray, List.set_cons_zero, List.set_cons_succ]
          refine wa_skg 14 (some 28) rfl (by kernel_rfl) rfl rfl HT.out ?_
          try simp only [Act.put, List.setIfInBounds_toArray, List.set_cons_zero, List.set_cons_succ]
          refine wa_tk 15 (some 29) (.bool false) rfl (by kernel_rfl) rfl rfl HT.out (fun w h0 => by go_simp) ?_
          try simp only [Act.put, List.setIfInBounds_toArray, List.set_cons_zero, List.set_cons_succ]
          refine wa_done (by decide +kernel) ?_
          go_upto_region 8 with fail
          have HT := hid HT.out.drew
          refine wa_start (S := fun W => Below wr.heap.size wr W) (by kernel_rfl) HT.out ?_
          refine wa_tk 0 (some 32) (.int .i64 (j : Int)) rfl (by kernel_rfl) rfl rfl HT.out (fun w h0 => by go_simp) ?_
          try simp only [Act.put, List.setIfInBounds_toArray, List.set_cons_zero, List.set_cons_succ]
          refine wa_tk 1 (some 33) (.slice (some ⟨ba, oa, none⟩) nn cc) rfl (by kernel_rfl) rfl rfl HT.out (fun w h0 => by go_simp) ?_
          try simp only [Act.put, List.setIfInBounds_toArray, List.set_cons_zero, List.set_cons_succ]
          refine wa_tk 2 (some 34) (.int .i64 (nn : Int)) rfl (by kernel_rfl) rfl rfl HT.out (fun w h0 => by go_simp) ?_
          try simp only [Act.put, List.setIfInBounds_toArray, List.set_cons_zero, List.set_cons_succ]
          refine wa_tk 3 (some 35) (.bool false) rfl (by kernel_rfl) rfl rfl HT.out (fun w h0 => by have hj := HJ.out; (go_simp) <;> omega) ?_
          try simp only [Act.put, List.setIfInBounds_toArray, List.set_cons_zero, List.set_cons_succ]
          refine wa_tk 4 (some 36) (.bool false) rfl (by kernel_rfl) rfl rfl HT.out (fun w h0 => by go_simp) ?_
          try simp only [Act.put, List.setIfInBounds_toArray, List.set_cons_zero, List.set_cons_succ]
          refine wa_skg 5 (some 37) rfl (by kernel_rfl) rfl rfl HT.out ?_
          try simp only [Act.put, List.setIfInBounds_toArray, List.set_cons_zero, List.set_cons_succ]
          refine wa_skg 6 (some 38) rfl (by kernel_rfl) rfl rfl HT.out ?_
          try simp only [Act.put, List.setIfInBounds_toArray, List.set_cons_zero, List.set_cons_succ]
          refine wa_skg 7 (some 39) rfl (by kernel_rfl) rfl rfl HT.out ?_
          try simp only [Act.put, List.setIfInBounds_toArray, List.set_cons_zero, List.set_cons_succ]
          refine wa_skg 8 (some 40) rfl (by kernel_rfl) rfl rfl HT.out ?_
          try simp only [Act.put, List.setIfInBounds_toArray, List.set_cons_zero, List.set_cons_succ]
          refine wa_skg 9 (some 41) rfl (by kernel_rfl) rfl rfl HT.out ?_
          try simp only [Act.put, List.setIfInBounds_toArray, List.set_cons_zero, List.set_cons_succ]
          refine wa_skg 10 (some 42) rfl (by kernel_rfl) rfl rfl HT.out ?_
          try simp only [Act.put, List.setIfInBounds_toArray, List.set_cons_zero, List.set_cons_succ]
          refine wa_skg 11 (some 43) rfl (by kernel_rfl) rfl rfl HT.out ?_
          try simp only [Act.put, List.setIfInBounds_toArray, List.set_cons_zero, List.set_cons_succ]
          refine wa_skg 12 (some 44) rfl (by kernel_rfl) rfl rfl HT.out ?_
          try simp only [Act.put, List.setIfInBounds_toArray, List.set_cons_zero, List.set_cons_succ]
          refine wa_skg 13 (some 45) rfl (by kernel_rfl) rfl rfl HT.out ?_
          try simp only [Act.put, List.setIfInBounds_toArray, List.set_cons_zero, List.set_cons_succ]
          refine wa_skg 14 (some 46) rfl (by kernel_rfl) rfl rfl HT.out ?_
          try simp only [Act.put, List.setIfInBounds_toArray, List.set_cons_zero, List.set_cons_succ]
          refine wa_tk 15 (some 47) (.bool false) rfl (by kernel_rfl) rfl rfl HT.out (fun w h0 => by go_simp) ?_
          try simp only [Act.put, List.setIfInBounds_toArray, List.set_cons_zero, List.set_cons_succ]
          refine wa_done (by decide +kernel) ?_
          go_upto_region 9 with fail
          obtain ⟨qr, mr, kr, hsr⟩ := slice_rest (some ⟨ba, oa, none⟩) j nn cc HJE.out HCK.out.1 (by have := HCK.out.2; omega)
          have HSR := hid hsr
          clear hsr
          have HT := hid HT.out.drew
          refine wa_start (S := fun W => Below wr.heap.size wr W) (by kernel_rfl) HT.out ?_
          generalize hWD : World.drew _ = WD at HT ⊢
          clear hWD
          refine wa_tk 0 (some 48) (.slice (some ⟨b, o, none⟩) n c) rfl (by kernel_rfl) rfl rfl HT.out (fun w h0 => by go_simp) ?_
          try simp only [Act.put, List.setIfInBounds_toArray, List.set_cons_zero, List.set_cons_succ]
          refine wa_tk 1 (some 49) (.int .i64 (i : Int)) rfl (by kernel_rfl) rfl rfl HT.out (fun w h0 => by go_simp) ?_
          try simp only [Act.put, List.setIfInBounds_toArray, List.set_cons_zero, List.set_cons_succ]
          refine wa_tk 2 (some 50) (.pointer (some ⟨b, o + i * 8, none⟩)) rfl (by kernel_rfl) rfl rfl HT.out (fun w h0 => by have hi := HIL.out; have hc := HCP.out; go_simp) ?_
          try simp only [Act.put, List.setIfInBounds_toArray, List.set_cons_zero, List.set_cons_succ]
          refine wa_tk 3 (some 51) (.pointer (some ⟨b, o + i * 8, none⟩)) rfl (by kernel_rfl) rfl rfl HT.out (fun w h0 => by go_simp) ?_
          try simp only [Act.put, List.setIfInBounds_toArray, List.set_cons_zero, List.set_cons_succ]
          refine wa_tk 4 (some 52) (.agg #[.int .i64 f.kind, .int .i64 f.subj, .int .i64 f.obj]) rfl (by kernel_rfl) rfl rfl HT.out (fun w h0 => by obtain ⟨x0, x1, x2, x3, x4, x5, x6, x7⟩ := HA.out _ h0; go_simp) ?_
          try simp only [Act.put, List.setIfInBounds_toArray, List.set_cons_zero, List.set_cons_succ]
          refine wa_tk 6 (some 54) (.slice (some ⟨ba, oa, none⟩) nn cc) rfl (by kernel_rfl) rfl rfl HT.out (fun w h0 => by go_simp) ?_
          try simp only [Act.put, List.setIfInBounds_toArray, List.set_cons_zero, List.set_cons_succ]
          refine wa_tk 7 (some 55) (.int .i64 (j : Int)) rfl (by kernel_rfl) rfl rfl HT.out (fun w h0 => by go_simp) ?_
          try simp only [Act.put, List.setIfInBounds_toArray, List.set_cons_zero, List.set_cons_succ]
          refine wa_tk 8 (some 56) (.slice qr mr kr) rfl (by kernel_rfl) rfl rfl HT.out (fun w h0 => by have hs := (HSR.out w).1; go_simp) ?_
          try simp only [Act.put, List.setIfInBounds_toArray, List.set_cons_zero, List.set_cons_succ]
          refine wa_branch [5] (by decide +kernel) rfl ?_
          refine ar_op 5 rfl rfl (fun K hK => ?_) ar_nil
          unfold Oper.wp
          go_simp
          refine hK.out _ _ (HT.out.alloc HT.out.size _) ?_
          clear hK K
          try simp only [Act.put, List.setIfInBounds_toArray, List.set_cons_zero, List.set_cons_succ]
          obtain ⟨v9, w9, happ, hks9, hb9, g9, n9, c9, hv9⟩ := app_ks1 WD f.key (.slice qr mr kr) ((F7.keys (L.take i)).drop j) ((HSR.out _).2 _ HNN.out.symm (HKO.out.ups HT.out)) (by have := HKL.out; simp; omega)
          have HT2 := hid (below_t HT.out hb9)
          have HK9 := hid hks9
          subst hv9
          have HAPP := hid happ
          clear happ hks9 hb9
          refine wa_branch [9] (by decide +kernel) rfl ?_
          refine ar_op 9 rfl rfl (fun K hK => ?_) ar_nil
          refine st_append (some 57) rfl (.tmp 53) (.tmp 56) 37 37 rfl rfl _ _ _ _ rfl rfl HAPP.out ?_
          refine hK.out _ _ HT2.out ?_
          clear hK K
          try simp only [Act.put, List.setIfInBounds_toArray, List.set_cons_zero, List.set_cons_succ]
          refine wa_branch [10] (by decide +kernel) rfl ?_
          refine ar_op 10 rfl rfl (fun K hK => ?_) ar_nil
          unfold Oper.wp
          go_simp
          refine hK.out _ _ HT2.out ?_
          clear hK K
          try simp only [Act.put, List.setIfInBounds_toArray, List.set_cons_zero, List.set_cons_succ]
          refine wa_done (by decide +kernel) ?_
          obtain ⟨v10, w10, happ2, hks10, hb10, g10, n10, c10, hv10⟩ := app_full (ks_take (HKO.out.ups HT2.out) HJE.out) HK9.out (by have := HKL.out; simp; omega) (by have := HKL.out; simp; omega) (by simp)
          subst hv10
          have HAP2 := hid happ2
          have HK10 := hid hks10
          have HT3 := hid (below_t HT2.out hb10)
          clear happ2 hks10 hb10
          have hje := HJE.out
          have hck := HCK.out.1
          have hjc : j ≤ cc := Nat.le_trans hje hck
          go_wp2_with (at_builtin; refine wpList_append_run rfl (.tmp 61) (.tmp 62) 37 37 ?_ _ _ _ ?_ ?_ HAP2.out ?_; exact rfl; exact rfl; exact rfl)
          go_roundw
          case rel => exact ⟨i + 1, _, _, _, _, by have := HIL.out; omega, by go_num, rfl, by rw [HNEW.out]; exact HK10.out, HBW.out.trans (HT3.out.mono HBW.out.size)⟩
          case measure => have := HIL.out; simp [intOf]; omega
    · have HNEW := hid (show F7.keys (L.take i) = F7.keys L by rw [List.take_of_length_le]; have := HN.out; omega)
      go_wp2
      go_ret
      exact ⟨_, rfl, by rw [← HNEW.out]; exact HKO.out, HBW.out⟩
end Go.Proofs.Ytbejjindkcjecaa

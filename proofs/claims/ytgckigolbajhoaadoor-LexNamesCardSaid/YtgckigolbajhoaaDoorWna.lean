/- The law LexNames. -/
import Derived.Test.YtgckigolbajhoaaDoorLw
namespace Go.Proofs.YtgckigolbajhoaaDoor
open Go.RowKit Go
set_option linter.unusedVariables false
set_option linter.unusedSimpArgs false
theorem txt_one (s : List UInt8) (hs : s.length ≤ 1000) : ([⟨1, s, 0, 0⟩] : List Tk).all L9.vld = true → (Lib.join (([⟨1, s, 0, 0⟩] : List Tk).map L9.tx) [32]).length ≤ 140737488355328 := by
  intro _
  rw [List.map_singleton, Lib.join_one]
  simp [L9.tx]; omega
set_option maxRecDepth 100000 in
set_option maxHeartbeats 8000000 in
theorem names_any (s : ByteArray) (w : World) (hk : Konst w) : Calls Tryd.prog 9 #[.string s] w fun e w' => e = .returned (.bool true) ∧ Below w.heap.size w w' := by
  have HK := hid hk
  have HSA := hid (sane_any w hk)
  have HT := hid (Below.refl w.heap.size w)
  have hsz : (lst s).length = s.size := rfl
  clear hk
  by_cases h1 : (1000 : Int) < s.size
  · clear hsz
    go_enter Tryd.func9, Tryd.ntmps9
    go_wp2_with fail
    refine (HSA.out).mono ?_
    rintro e wn ⟨rfl, hb⟩
    have HT := hid (below_t HT.out hb)
    clear hb
    go_wp2
    go_ret
    exact ⟨rfl, HT.out⟩
  have HLX := hid (fun W (hk : Konst W) => Lex_any s W hk)
  have HTX := hid (fun v W (hk : Konst W) (hv : KS W v [⟨1, lst s, 0, 0⟩]) => Text_any v [⟨1, lst s, 0, 0⟩] W hk hv (by simp) (by intro x hx; simp at hx; subst hx; simp only; unfold maxLen; omega) (txt_one (lst s) (by omega)))
  rw [txe_one] at HTX
  have HNM := hid (fun W (hk : Konst W) => name_any s W hk (by unfold maxLen; omega))
  cases hn : L9.nm (lst s)
  · rw [hn] at HTX HNM
    rw [if_neg (by decide)] at HTX
    rcases lex_two (lst s) (by omega) with ⟨l, _, q1, q2, q3⟩ | ⟨b, _, q1, q2, q3⟩
    · rw [q1, q2, q3] at HLX
      by_cases hl : l.length = 1
      · obtain ⟨x, rfl⟩ := List.length_eq_one_iff.1 hl
        obtain ⟨xk, xt, xn, xa⟩ := x
        by_cases hk1 : xk = 1
        · have hne := lex_noname hn q1 hk1
          subst hk1
          simp only at hne
          have he : ¬ (ByteArray.mk xt.toArray).toList = s.toList := by rw [mk_empty, Lib.toList_data]; exact hne
          have he2 : ((ByteArray.mk xt.toArray).toList == s.toList) = false := by simpa using he
          have he3 : ¬ ByteArray.mk xt.toArray = s := fun e => he (by rw [e])
          have he4 : ¬ xt = s.toList := by rw [Lib.toList_data]; exact hne
          have he5 : decide (xt = s.toList) = false := decide_eq_false he4
          clear q1 q2 q3 hl hn hne hsz
          go_enter Tryd.func9, Tryd.ntmps9
          go_wp2_with fail
          refine (HSA.out).mono ?_
          rintro e wn ⟨rfl, hb⟩
          have HT := hid (below_t HT.out hb)
          clear hb
          go_wp2_with fail
          refine (HLX.out _ (HK.out.up HT.out)).mono ?_
          rintro e wn ⟨⟨v, rfl, hv⟩, hb⟩
          have HT := hid (below_t HT.out hb)
          clear hb
          obtain ⟨pv, cv, hf⟩ := hv.form
          have hf2 : v = .slice pv 1 cv := hf
          subst hf2
          obtain ⟨b, o, hp, hbl, k0, k1, k2, k3⟩ := KR.at4 (hv.gr 4 kc_len (by omega)) (i := 0) rfl
          subst hp
          simp only [Nat.zero_mul, Nat.add_zero, mk_lst] at k0 k1 k2 k3
          clear hv k2 k3
          go_wp2_with fail
          obtain ⟨Y, hY⟩ : ∃ Y, Y = wn.alloc (.cells #[.int .i64 1, .string s, .int .i64 0, .int .i64 0] 35) := ⟨_, rfl⟩
          have hb : Below wn.heap.size wn Y := by rw [hY]; exact (Below.refl _ wn).alloc (Nat.le_refl _) _
          have hkY : KS Y (.slice (some ⟨wn.heap.size, 0, none⟩) 1 1) [⟨1, lst s, 0, 0⟩] := by rw [hY]; refine ks_new (l := [⟨1, lst s, 0, 0⟩]) ?_ (by simp [maxLen]); have h := Blk.new wn 35 (([⟨1, lst s, 0, 0⟩] : List Tk).flatMap kc); simp only [kc, List.flatMap_cons, List.flatMap_nil, List.append_nil, mk_lst] at h ⊢; exact h
          have HT := hid (below_t HT.out hb)
          have KY := hid hkY
          obtain ⟨xY, hxY⟩ : ∃ x, x = wn.heap.size := ⟨_, rfl⟩
          rw [← hxY] at KY
          rw [← hY, ← hxY]
          clear hY hb hkY hxY
          refine (HTX.out _ _ (HK.out.up HT.out) KY.out).mono ?_
          rintro e wn ⟨rfl, hb⟩
          have HT := hid (below_t HT.out hb)
          clear hb KY
          go_wp2_with fail
          refine (HNM.out _ (HK.out.up HT.out)).mono ?_
          rintro e wn ⟨rfl, hb⟩
          have HT := hid (below_t HT.out hb)
          clear hb
          go_wp2
          go_ret
          exact ⟨rfl, HT.out⟩
        · have he : (xk == 1) = false := by simpa using hk1
          clear q1 q2 q3 hl hn hsz hk1
          go_enter Tryd.func9, Tryd.ntmps9
          go_wp2_with fail
          refine (HSA.out).mono ?_
          rintro e wn ⟨rfl, hb⟩
          have HT := hid (below_t HT.out hb)
          clear hb
          go_wp2_with fail
          refine (HLX.out _ (HK.out.up HT.out)).mono ?_
          rintro e wn ⟨⟨v, rfl, hv⟩, hb⟩
          have HT := hid (below_t HT.out hb)
          clear hb
          obtain ⟨pv, cv, hf⟩ := hv.form
          have hf2 : v = .slice pv 1 cv := hf
          subst hf2
          obtain ⟨b, o, hp, hbl, k0, k1, k2, k3⟩ := KR.at4 (hv.gr 4 kc_len (by omega)) (i := 0) rfl
          subst hp
          simp only [Nat.zero_mul, Nat.add_zero, mk_lst] at k0 k1 k2 k3
          clear hv k1 k2 k3
          go_wp2_with fail
          obtain ⟨Y, hY⟩ : ∃ Y, Y = wn.alloc (.cells #[.int .i64 1, .string s, .int .i64 0, .int .i64 0] 35) := ⟨_, rfl⟩
          have hb : Below wn.heap.size wn Y := by rw [hY]; exact (Below.refl _ wn).alloc (Nat.le_refl _) _
          have hkY : KS Y (.slice (some ⟨wn.heap.size, 0, none⟩) 1 1) [⟨1, lst s, 0, 0⟩] := by rw [hY]; refine ks_new (l := [⟨1, lst s, 0, 0⟩]) ?_ (by simp [maxLen]); have h := Blk.new wn 35 (([⟨1, lst s, 0, 0⟩] : List Tk).flatMap kc); simp only [kc, List.flatMap_cons, List.flatMap_nil, List.append_nil, mk_lst] at h ⊢; exact h
          have HT := hid (below_t HT.out hb)
          have KY := hid hkY
          obtain ⟨xY, hxY⟩ : ∃ x, x = wn.heap.size := ⟨_, rfl⟩
          rw [← hxY] at KY
          rw [← hY, ← hxY]
          clear hY hb hkY hxY
          refine (HTX.out _ _ (HK.out.up HT.out) KY.out).mono ?_
          rintro e wn ⟨rfl, hb⟩
          have HT := hid (below_t HT.out hb)
          clear hb KY
          go_wp2_with fail
          refine (HNM.out _ (HK.out.up HT.out)).mono ?_
          rintro e wn ⟨rfl, hb⟩
          have HT := hid (below_t HT.out hb)
          clear hb
          go_wp2
          go_ret
          exact ⟨rfl, HT.out⟩
      · obtain ⟨m, hm⟩ : ∃ m, m = l.length := ⟨_, rfl⟩
        have he : ((m : Int) == 1) = false := by simp; omega
        have HM := hid hm
        clear q1 q2 q3 hl hn hsz hm
        go_enter Tryd.func9, Tryd.ntmps9
        go_wp2_with fail
        refine (HSA.out).mono ?_
        rintro e wn ⟨rfl, hb⟩
        have HT := hid (below_t HT.out hb)
        clear hb
        go_wp2_with fail
        refine (HLX.out _ (HK.out.up HT.out)).mono ?_
        rintro e wn ⟨⟨v, rfl, hv⟩, hb⟩
        have HT := hid (below_t HT.out hb)
        clear hb
        obtain ⟨pv, cv, hf⟩ := hv.form
        rw [← HM.out] at hf
        subst hf
        clear hv
        go_wp2_with fail
        obtain ⟨Y, hY⟩ : ∃ Y, Y = wn.alloc (.cells #[.int .i64 1, .string s, .int .i64 0, .int .i64 0] 35) := ⟨_, rfl⟩
        have hb : Below wn.heap.size wn Y := by rw [hY]; exact (Below.refl _ wn).alloc (Nat.le_refl _) _
        have hkY : KS Y (.slice (some ⟨wn.heap.size, 0, none⟩) 1 1) [⟨1, lst s, 0, 0⟩] := by rw [hY]; refine ks_new (l := [⟨1, lst s, 0, 0⟩]) ?_ (by simp [maxLen]); have h := Blk.new wn 35 (([⟨1, lst s, 0, 0⟩] : List Tk).flatMap kc); simp only [kc, List.flatMap_cons, List.flatMap_nil, List.append_nil, mk_lst] at h ⊢; exact h
        have HT := hid (below_t HT.out hb)
        have KY := hid hkY
        obtain ⟨xY, hxY⟩ : ∃ x, x = wn.heap.size := ⟨_, rfl⟩
        rw [← hxY] at KY
        rw [← hY, ← hxY]
        clear hY hb hkY hxY
        refine (HTX.out _ _ (HK.out.up HT.out) KY.out).mono ?_
        rintro e wn ⟨rfl, hb⟩
        have HT := hid (below_t HT.out hb)
        clear hb KY
        go_wp2_with fail
        refine (HNM.out _ (HK.out.up HT.out)).mono ?_
        rintro e wn ⟨rfl, hb⟩
        have HT := hid (below_t HT.out hb)
        clear hb
        go_wp2
        go_ret
        exact ⟨rfl, HT.out⟩
    · rw [q1, q2, q3] at HLX
      clear q1 q2 q3 hn hsz
      go_enter Tryd.func9, Tryd.ntmps9
      go_wp2_with fail
      refine (HSA.out).mono ?_
      rintro e wn ⟨rfl, hb⟩
      have HT := hid (below_t HT.out hb)
      clear hb
      go_wp2_with fail
      refine (HLX.out _ (HK.out.up HT.out)).mono ?_
      rintro e wn ⟨⟨v, rfl, hv⟩, hb⟩
      have HT := hid (below_t HT.out hb)
      clear hb
      obtain ⟨pv, cv, hf⟩ := hv.form
      subst hf
      clear hv
      go_wp2_with fail
      obtain ⟨Y, hY⟩ : ∃ Y, Y = wn.alloc (.cells #[.int .i64 1, .string s, .int .i64 0, .int .i64 0] 35) := ⟨_, rfl⟩
      have hb : Below wn.heap.size wn Y := by rw [hY]; exact (Below.refl _ wn).alloc (Nat.le_refl _) _
      have hkY : KS Y (.slice (some ⟨wn.heap.size, 0, none⟩) 1 1) [⟨1, lst s, 0, 0⟩] := by rw [hY]; refine ks_new (l := [⟨1, lst s, 0, 0⟩]) ?_ (by simp [maxLen]); have h := Blk.new wn 35 (([⟨1, lst s, 0, 0⟩] : List Tk).flatMap kc); simp only [kc, List.flatMap_cons, List.flatMap_nil, List.append_nil, mk_lst] at h ⊢; exact h
      have HT := hid (below_t HT.out hb)
      have KY := hid hkY
      obtain ⟨xY, hxY⟩ : ∃ x, x = wn.heap.size := ⟨_, rfl⟩
      rw [← hxY] at KY
      rw [← hY, ← hxY]
      clear hY hb hkY hxY
      refine (HTX.out _ _ (HK.out.up HT.out) KY.out).mono ?_
      rintro e wn ⟨rfl, hb⟩
      have HT := hid (below_t HT.out hb)
      clear hb KY
      go_wp2_with fail
      refine (HNM.out _ (HK.out.up HT.out)).mono ?_
      rintro e wn ⟨rfl, hb⟩
      have HT := hid (below_t HT.out hb)
      clear hb
      go_wp2
      go_ret
      exact ⟨rfl, HT.out⟩
  · rw [hn] at HTX HNM
    rw [if_pos rfl] at HTX
    obtain ⟨q1, q2, q3⟩ := lex_name hn
    rw [q1, q2, q3] at HLX
    clear q1 q2 q3 hn hsz
    go_enter Tryd.func9, Tryd.ntmps9
    go_wp2_with fail
    refine (HSA.out).mono ?_
    rintro e wn ⟨rfl, hb⟩
    have HT := hid (below_t HT.out hb)
    clear hb
    go_wp2_with fail
    refine (HLX.out _ (HK.out.up HT.out)).mono ?_
    rintro e wn ⟨⟨v, rfl, hv⟩, hb⟩
    have HT := hid (below_t HT.out hb)
    clear hb
    obtain ⟨pv, cv, hf⟩ := hv.form
    have hf2 : v = .slice pv 1 cv := hf
    subst hf2
    obtain ⟨b, o, hp, hbl, k0, k1, k2, k3⟩ := KR.at4 (hv.gr 4 kc_len (by omega)) (i := 0) rfl
    subst hp
    simp only [Nat.zero_mul, Nat.add_zero, mk_lst] at k0 k1 k2 k3
    clear hv
    go_wp2_with fail
    obtain ⟨Y, hY⟩ : ∃ Y, Y = wn.alloc (.cells #[.int .i64 1, .string s, .int .i64 0, .int .i64 0] 35) := ⟨_, rfl⟩
    have hb : Below wn.heap.size wn Y := by rw [hY]; exact (Below.refl _ wn).alloc (Nat.le_refl _) _
    have hkY : KS Y (.slice (some ⟨wn.heap.size, 0, none⟩) 1 1) [⟨1, lst s, 0, 0⟩] := by rw [hY]; refine ks_new (l := [⟨1, lst s, 0, 0⟩]) ?_ (by simp [maxLen]); have h := Blk.new wn 35 (([⟨1, lst s, 0, 0⟩] : List Tk).flatMap kc); simp only [kc, List.flatMap_cons, List.flatMap_nil, List.append_nil, mk_lst] at h ⊢; exact h
    have HT := hid (below_t HT.out hb)
    have KY := hid hkY
    obtain ⟨xY, hxY⟩ : ∃ x, x = wn.heap.size := ⟨_, rfl⟩
    rw [← hxY] at KY
    rw [← hY, ← hxY]
    clear hY hb hkY hxY
    refine (HTX.out _ _ (HK.out.up HT.out) KY.out).mono ?_
    rintro e wn ⟨rfl, hb⟩
    have HT := hid (below_t HT.out hb)
    clear hb KY
    go_wp2_with fail
    refine (HNM.out _ (HK.out.up HT.out)).mono ?_
    rintro e wn ⟨rfl, hb⟩
    have HT := hid (below_t HT.out hb)
    clear hb
    go_wp2
    go_ret
    exact ⟨rfl, HT.out⟩
end Go.Proofs.YtgckigolbajhoaaDoor

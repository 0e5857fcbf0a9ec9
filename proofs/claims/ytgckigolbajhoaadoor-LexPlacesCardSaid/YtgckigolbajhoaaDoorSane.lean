/- The examples of the chapter. -/
import Derived.Test.YtgckigolbajhoaaDoorV2
namespace Go.Proofs.YtgckigolbajhoaaDoor
open Go.RowKit Go
set_option linter.unusedVariables false
set_option linter.unusedSimpArgs false
theorem ks_new {W : World} {B n : Nat} {l : List Tk} (h : Blk W B 35 (l.flatMap kc)) (hl : l.length ≤ maxLen) (hn : n = l.length := by rfl) : KS W (.slice (some ⟨B, 0, none⟩) n n) l := by
  subst hn
  exact .inr ⟨⟨B, 0, none⟩, l.length, rfl, Nat.le_refl _, hl, fun j u hj => by rw [add_plain, Nat.zero_add]; exact h.cell j u hj, h.lt⟩
theorem lex_at (s : ByteArray) (l : List Tk) (a : Nat) (x : Int) (h1 : lexl (lst s) = l) (h2 : lexa (lst s) = a) (h3 : lexe (lst s) = x) (W : World) (hk : Konst W) :
    Calls Tryd.prog 11 #[.string s] W fun e w' => (∃ v, e = .returned (.tuple #[v, .int .i64 a, .int .i64 x]) ∧ KS w' v l) ∧ Below W.heap.size W w' := by
  have h := Lex_any s W hk
  rw [h1, h2, h3] at h; exact h
theorem text_at (l : List Tk) (s : List UInt8) (x : Int) (h1 : txt l = s) (h2 : txe l = x) (hl : l.length ≤ 10000) (ht : ∀ x ∈ l, x.t.length ≤ maxLen) (hj : l.all L9.vld = true → (Lib.join (l.map L9.tx) [32]).length ≤ 140737488355328) (v : Value) (W : World) (hk : Konst W) (hv : KS W v l) :
    Calls Tryd.prog 15 #[v] W fun e w' => e = .returned (.tuple #[.string ⟨s.toArray⟩, .int .i64 x]) ∧ Below W.heap.size W w' := by
  have h := Text_any v l W hk hv hl ht hj
  rw [h1, h2] at h; exact h
theorem jn3 : Lib.join ([⟨1, [97], 0, 0⟩, ⟨3, [61], 0, 1⟩, ⟨2, [], 1, 2⟩].map L9.tx) [32] = [97, 32, 61, 32, 49] := by
  simp [L9.tx, Lib.join, List.intercalate, Lib.decDigits_one]
theorem jn0 : Lib.join ([⟨0, [], 0, 0⟩].map L9.tx) [32] = [] := by
  simp [L9.tx, Lib.join, List.intercalate]
set_option maxRecDepth 100000 in
set_option maxHeartbeats 8000000 in
theorem sane_any (w : World) (hk : Konst w) : Calls Tryd.prog 10 #[] w fun e w' => e = .returned (.bool true) ∧ Below w.heap.size w w' := by
  have HK := hid hk
  have HT := hid (Below.refl w.heap.size w)
  have L1 := hid (fun W (hk : Konst W) => lex_at ⟨#[101, 97, 114, 110, 32, 51, 48, 59]⟩ [⟨1, [101, 97, 114, 110], 0, 0⟩, ⟨2, [], 30, 5⟩, ⟨3, [59], 0, 7⟩] 0 0 (by decide +kernel) (by decide +kernel) (by decide +kernel) W hk)
  have L2 := hid (fun W (hk : Konst W) => lex_at ⟨#[48, 48, 55]⟩ [] 0 90 (by decide +kernel) (by decide +kernel) (by decide +kernel) W hk)
  have L3 := hid (fun W (hk : Konst W) => lex_at ⟨#[49, 48, 57, 57, 53, 49, 49, 54, 50, 55, 55, 55, 54]⟩ [⟨2, [], 1099511627776, 0⟩] 0 0 (by decide +kernel) (by decide +kernel) (by decide +kernel) W hk)
  have L4 := hid (fun W (hk : Konst W) => lex_at ⟨#[97, 32, 47, 47, 32, 98]⟩ [⟨1, [97], 0, 0⟩] 0 0 (by decide +kernel) (by decide +kernel) (by decide +kernel) W hk)
  have L5 := hid (fun W (hk : Konst W) => lex_at ⟨#[97, 32, 36]⟩ [] 2 90 (by decide +kernel) (by decide +kernel) (by decide +kernel) W hk)
  have L6 := hid (fun W (hk : Konst W) => lex_at ⟨#[97, 61, 49]⟩ [⟨1, [97], 0, 0⟩, ⟨3, [61], 0, 1⟩, ⟨2, [], 1, 2⟩] 0 0 (by decide +kernel) (by decide +kernel) (by decide +kernel) W hk)
  have L8 := hid (fun W (hk : Konst W) => lex_at ⟨#[]⟩ [] 0 0 (by decide +kernel) (by decide +kernel) (by decide +kernel) W hk)
  have TX := hid (text_at [⟨1, [97], 0, 0⟩, ⟨3, [61], 0, 1⟩, ⟨2, [], 1, 2⟩] [97, 32, 61, 32, 49] 0 (by unfold txt; rw [if_pos (by decide +kernel)]; exact jn3) (by decide +kernel) (by decide) (by intro x hx; simp at hx; rcases hx with rfl | rfl | rfl <;> simp [maxLen]) (fun _ => by rw [jn3]; decide))
  have TZ := hid (text_at [⟨0, [], 0, 0⟩] [] 90 (by unfold txt; rw [if_neg (by decide +kernel)]) (by decide +kernel) (by decide) (by intro x hx; simp at hx; rcases hx with rfl; simp [maxLen]) (fun _ => by rw [jn0]; decide))
  have NB := hid (fun W (hk : Konst W) => show Calls Tryd.prog 19 #[.string ⟨#[66, 95, 49, 50]⟩] W fun e w' => e = .returned (.bool true) ∧ Below W.heap.size W w' from by
    have h := name_any ⟨#[66, 95, 49, 50]⟩ W hk (by decide)
    rw [show L9.nm (lst ⟨#[66, 95, 49, 50]⟩) = true by decide +kernel] at h; exact h)
  have NU := hid (fun W (hk : Konst W) => show Calls Tryd.prog 19 #[.string ⟨#[95, 49, 50]⟩] W fun e w' => e = .returned (.bool false) ∧ Below W.heap.size W w' from by
    have h := name_any ⟨#[95, 49, 50]⟩ W hk (by decide)
    rw [show L9.nm (lst ⟨#[95, 49, 50]⟩) = false by decide +kernel] at h; exact h)
  clear hk
  go_enter Tryd.func10, Tryd.ntmps10
  go_wp2_with fail
  refine (L1.out _ (HK.out.up HT.out)).mono ?_
  rintro e wn ⟨⟨v, rfl, hv⟩, hb⟩
  have HT := hid (below_t HT.out hb)
  obtain ⟨pL1, cL1, hf⟩ := hv.form
  have hf2 : v = .slice pL1 3 cL1 := hf
  subst hf2
  have KL1 := hid hv
  clear hb hv hf
  go_upto_region 3 with fail
  obtain ⟨Y, hY⟩ : ∃ Y, Y = wn.alloc (.cells #[.int .i64 1, .string ⟨#[101, 97, 114, 110]⟩, .int .i64 0, .int .i64 0, .int .i64 2, .string ⟨#[]⟩, .int .i64 30, .int .i64 5, .int .i64 3, .string ⟨#[59]⟩, .int .i64 0, .int .i64 7] 35) := ⟨_, rfl⟩
  have hb : Below wn.heap.size wn Y := by rw [hY]; exact (Below.refl _ wn).alloc (Nat.le_refl _) _
  have hkW : KS Y (.slice (some ⟨wn.heap.size, 0, none⟩) 3 3) [⟨1, [101, 97, 114, 110], 0, 0⟩, ⟨2, [], 30, 5⟩, ⟨3, [59], 0, 7⟩] := by rw [hY]; exact ks_new (l := [⟨1, [101, 97, 114, 110], 0, 0⟩, ⟨2, [], 30, 5⟩, ⟨3, [59], 0, 7⟩]) (Blk.new wn 35 (([⟨1, [101, 97, 114, 110], 0, 0⟩, ⟨2, [], 30, 5⟩, ⟨3, [59], 0, 7⟩] : List Tk).flatMap kc)) (by simp [maxLen])
  have KL1 := hid (KL1.out.ups hb)
  have HT := hid (below_t HT.out hb)
  have KW := hid hkW
  obtain ⟨xW, hxW⟩ : ∃ x, x = wn.heap.size := ⟨_, rfl⟩
  rw [← hxW] at KW
  rw [← hY, ← hxW]
  clear hY hb hkW hxW
  go_wp2_with fail
  refine (L2.out _ (HK.out.up HT.out)).mono ?_
  rintro e wn ⟨⟨v, rfl, hv⟩, hb⟩
  have KL1 := hid (KL1.out.ups hb)
  have KW := hid (KW.out.ups hb)
  have HT := hid (below_t HT.out hb)
  obtain ⟨pL2, cL2, hf⟩ := hv.form
  have hf2 : v = .slice pL2 0 cL2 := hf
  subst hf2
  have KL2 := hid hv
  clear hb hv hf
  go_wp2_with fail
  refine (L3.out _ (HK.out.up HT.out)).mono ?_
  rintro e wn ⟨⟨v, rfl, hv⟩, hb⟩
  have KL1 := hid (KL1.out.ups hb)
  have KW := hid (KW.out.ups hb)
  have KL2 := hid (KL2.out.ups hb)
  have HT := hid (below_t HT.out hb)
  obtain ⟨pL3, cL3, hf⟩ := hv.form
  have hf2 : v = .slice pL3 1 cL3 := hf
  subst hf2
  have KL3 := hid hv
  clear hb hv hf
  go_wp2_with fail
  refine (L4.out _ (HK.out.up HT.out)).mono ?_
  rintro e wn ⟨⟨v, rfl, hv⟩, hb⟩
  have KL1 := hid (KL1.out.ups hb)
  have KW := hid (KW.out.ups hb)
  have KL2 := hid (KL2.out.ups hb)
  have KL3 := hid (KL3.out.ups hb)
  have HT := hid (below_t HT.out hb)
  obtain ⟨pL4, cL4, hf⟩ := hv.form
  have hf2 : v = .slice pL4 1 cL4 := hf
  subst hf2
  have KL4 := hid hv
  clear hb hv hf
  go_wp2_with fail
  refine (L5.out _ (HK.out.up HT.out)).mono ?_
  rintro e wn ⟨⟨v, rfl, hv⟩, hb⟩
  have KL1 := hid (KL1.out.ups hb)
  have KW := hid (KW.out.ups hb)
  have KL2 := hid (KL2.out.ups hb)
  have KL3 := hid (KL3.out.ups hb)
  have KL4 := hid (KL4.out.ups hb)
  have HT := hid (below_t HT.out hb)
  obtain ⟨pL5, cL5, hf⟩ := hv.form
  have hf2 : v = .slice pL5 0 cL5 := hf
  subst hf2
  have KL5 := hid hv
  clear hb hv hf
  go_wp2_with fail
  refine (L6.out _ (HK.out.up HT.out)).mono ?_
  rintro e wn ⟨⟨v, rfl, hv⟩, hb⟩
  have KL1 := hid (KL1.out.ups hb)
  have KW := hid (KW.out.ups hb)
  have KL2 := hid (KL2.out.ups hb)
  have KL3 := hid (KL3.out.ups hb)
  have KL4 := hid (KL4.out.ups hb)
  have KL5 := hid (KL5.out.ups hb)
  have HT := hid (below_t HT.out hb)
  obtain ⟨pL6, cL6, hf⟩ := hv.form
  have hf2 : v = .slice pL6 3 cL6 := hf
  subst hf2
  have KL6 := hid hv
  clear hb hv hf
  go_wp2_with fail
  refine (TX.out _ _ (HK.out.up HT.out) KL6.out).mono ?_
  rintro e wn ⟨rfl, hb⟩
  have KL1 := hid (KL1.out.ups hb)
  have KW := hid (KW.out.ups hb)
  have KL2 := hid (KL2.out.ups hb)
  have KL3 := hid (KL3.out.ups hb)
  have KL4 := hid (KL4.out.ups hb)
  have KL5 := hid (KL5.out.ups hb)
  have KL6 := hid (KL6.out.ups hb)
  have HT := hid (below_t HT.out hb)
  clear hb
  go_wp2_with fail
  refine (L8.out _ (HK.out.up HT.out)).mono ?_
  rintro e wn ⟨⟨v, rfl, hv⟩, hb⟩
  have KL1 := hid (KL1.out.ups hb)
  have KW := hid (KW.out.ups hb)
  have KL2 := hid (KL2.out.ups hb)
  have KL3 := hid (KL3.out.ups hb)
  have KL4 := hid (KL4.out.ups hb)
  have KL5 := hid (KL5.out.ups hb)
  have KL6 := hid (KL6.out.ups hb)
  have HT := hid (below_t HT.out hb)
  obtain ⟨pL8, cL8, hf⟩ := hv.form
  have hf2 : v = .slice pL8 0 cL8 := hf
  subst hf2
  have KL8 := hid hv
  clear hb hv hf
  go_wp2_with fail
  obtain ⟨Y, hY⟩ : ∃ Y, Y = wn.alloc (.cells #[.int .i64 0, .string ⟨#[]⟩, .int .i64 0, .int .i64 0] 35) := ⟨_, rfl⟩
  have hb : Below wn.heap.size wn Y := by rw [hY]; exact (Below.refl _ wn).alloc (Nat.le_refl _) _
  have hkZ : KS Y (.slice (some ⟨wn.heap.size, 0, none⟩) 1 1) [⟨0, [], 0, 0⟩] := by rw [hY]; exact ks_new (l := [⟨0, [], 0, 0⟩]) (Blk.new wn 35 (([⟨0, [], 0, 0⟩] : List Tk).flatMap kc)) (by simp [maxLen])
  have KL1 := hid (KL1.out.ups hb)
  have KW := hid (KW.out.ups hb)
  have KL2 := hid (KL2.out.ups hb)
  have KL3 := hid (KL3.out.ups hb)
  have KL4 := hid (KL4.out.ups hb)
  have KL5 := hid (KL5.out.ups hb)
  have KL6 := hid (KL6.out.ups hb)
  have KL8 := hid (KL8.out.ups hb)
  have HT := hid (below_t HT.out hb)
  have KZ := hid hkZ
  obtain ⟨xZ, hxZ⟩ : ∃ x, x = wn.heap.size := ⟨_, rfl⟩
  rw [← hxZ] at KZ
  rw [← hY, ← hxZ]
  clear hY hb hkZ hxZ
  refine (TZ.out _ _ (HK.out.up HT.out) KZ.out).mono ?_
  rintro e wn ⟨rfl, hb⟩
  have KL1 := hid (KL1.out.ups hb)
  have KW := hid (KW.out.ups hb)
  have KL2 := hid (KL2.out.ups hb)
  have KL3 := hid (KL3.out.ups hb)
  have KL4 := hid (KL4.out.ups hb)
  have KL5 := hid (KL5.out.ups hb)
  have KL6 := hid (KL6.out.ups hb)
  have KL8 := hid (KL8.out.ups hb)
  have KZ := hid (KZ.out.ups hb)
  have HT := hid (below_t HT.out hb)
  clear hb
  go_wp2_with fail
  have hq := requal_any _ _ _ _ wn KL1.out KW.out
  rw [show decide (([⟨1, [101, 97, 114, 110], 0, 0⟩, ⟨2, [], 30, 5⟩, ⟨3, [59], 0, 7⟩] : List Tk) = [⟨1, [101, 97, 114, 110], 0, 0⟩, ⟨2, [], 30, 5⟩, ⟨3, [59], 0, 7⟩]) = true from decide_eq_true rfl] at hq
  refine hq.mono ?_
  clear hq
  rintro e wn ⟨rfl, hb⟩
  have KL1 := hid (KL1.out.ups hb)
  have KW := hid (KW.out.ups hb)
  have KL2 := hid (KL2.out.ups hb)
  have KL3 := hid (KL3.out.ups hb)
  have KL4 := hid (KL4.out.ups hb)
  have KL5 := hid (KL5.out.ups hb)
  have KL6 := hid (KL6.out.ups hb)
  have KL8 := hid (KL8.out.ups hb)
  have KZ := hid (KZ.out.ups hb)
  have HT := hid (below_t HT.out hb)
  clear hb
  obtain ⟨b3, o3, hp3, hl3, _, _, n3, _⟩ := KR.at4 (KL3.out.gr 4 kc_len (by omega)) (i := 0) rfl
  subst hp3
  obtain ⟨b4, o4, hp4, hl4, _, t4, _, _⟩ := KR.at4 (KL4.out.gr 4 kc_len (by omega)) (i := 0) rfl
  subst hp4
  simp only [Nat.zero_mul, Nat.add_zero] at n3 t4
  have ea : (ByteArray.mk #[97]).toList = [97] := mk_empty [97]
  have eb : (ByteArray.mk #[97, 32, 61, 32, 49]).toList = [97, 32, 61, 32, 49] := mk_empty [97, 32, 61, 32, 49]
  go_wp2_with fail
  refine (NB.out _ (HK.out.up HT.out)).mono ?_
  rintro e wn ⟨rfl, hb⟩
  clear n3 t4
  have KL1 := hid (KL1.out.ups hb)
  have KW := hid (KW.out.ups hb)
  have KL2 := hid (KL2.out.ups hb)
  have KL3 := hid (KL3.out.ups hb)
  have KL4 := hid (KL4.out.ups hb)
  have KL5 := hid (KL5.out.ups hb)
  have KL6 := hid (KL6.out.ups hb)
  have KL8 := hid (KL8.out.ups hb)
  have KZ := hid (KZ.out.ups hb)
  have HT := hid (below_t HT.out hb)
  clear hb
  go_wp2_with fail
  refine (NU.out _ (HK.out.up HT.out)).mono ?_
  rintro e wn ⟨rfl, hb⟩
  have KL1 := hid (KL1.out.ups hb)
  have KW := hid (KW.out.ups hb)
  have KL2 := hid (KL2.out.ups hb)
  have KL3 := hid (KL3.out.ups hb)
  have KL4 := hid (KL4.out.ups hb)
  have KL5 := hid (KL5.out.ups hb)
  have KL6 := hid (KL6.out.ups hb)
  have KL8 := hid (KL8.out.ups hb)
  have KZ := hid (KZ.out.ups hb)
  have HT := hid (below_t HT.out hb)
  clear hb
  go_wp2_with fail
  have hq := Same_any _ _ _ _ wn KL4.out KL6.out
  rw [show sme [⟨1, [97], 0, 0⟩] [⟨1, [97], 0, 0⟩, ⟨3, [61], 0, 1⟩, ⟨2, [], 1, 2⟩] = false by decide +kernel] at hq
  refine hq.mono ?_
  clear hq
  rintro e wn ⟨rfl, hb⟩
  have KL1 := hid (KL1.out.ups hb)
  have KW := hid (KW.out.ups hb)
  have KL2 := hid (KL2.out.ups hb)
  have KL3 := hid (KL3.out.ups hb)
  have KL4 := hid (KL4.out.ups hb)
  have KL5 := hid (KL5.out.ups hb)
  have KL6 := hid (KL6.out.ups hb)
  have KL8 := hid (KL8.out.ups hb)
  have KZ := hid (KZ.out.ups hb)
  have HT := hid (below_t HT.out hb)
  clear hb
  go_wp2_with fail
  obtain ⟨Y, hY⟩ : ∃ Y, Y = wn.alloc (.cells #[.int .i64 1, .string ⟨#[97]⟩, .int .i64 0, .int .i64 9] 35) := ⟨_, rfl⟩
  have hb : Below wn.heap.size wn Y := by rw [hY]; exact (Below.refl _ wn).alloc (Nat.le_refl _) _
  have hkY : KS Y (.slice (some ⟨wn.heap.size, 0, none⟩) 1 1) [⟨1, [97], 0, 9⟩] := by rw [hY]; exact ks_new (l := [⟨1, [97], 0, 9⟩]) (Blk.new wn 35 (([⟨1, [97], 0, 9⟩] : List Tk).flatMap kc)) (by simp [maxLen])
  have KL1 := hid (KL1.out.ups hb)
  have KW := hid (KW.out.ups hb)
  have KL2 := hid (KL2.out.ups hb)
  have KL3 := hid (KL3.out.ups hb)
  have KL4 := hid (KL4.out.ups hb)
  have KL5 := hid (KL5.out.ups hb)
  have KL6 := hid (KL6.out.ups hb)
  have KL8 := hid (KL8.out.ups hb)
  have KZ := hid (KZ.out.ups hb)
  have HT := hid (below_t HT.out hb)
  have KY := hid hkY
  obtain ⟨xY, hxY⟩ : ∃ x, x = wn.heap.size := ⟨_, rfl⟩
  rw [← hxY] at KY
  rw [← hY, ← hxY]
  clear hY hb hkY hxY
  have hq := Same_any _ _ _ _ Y KL4.out KY.out
  rw [show sme [⟨1, [97], 0, 0⟩] [⟨1, [97], 0, 9⟩] = true by decide +kernel] at hq
  refine hq.mono ?_
  clear hq
  rintro e wn ⟨rfl, hb⟩
  have KL1 := hid (KL1.out.ups hb)
  have KW := hid (KW.out.ups hb)
  have KL2 := hid (KL2.out.ups hb)
  have KL3 := hid (KL3.out.ups hb)
  have KL4 := hid (KL4.out.ups hb)
  have KL5 := hid (KL5.out.ups hb)
  have KL6 := hid (KL6.out.ups hb)
  have KL8 := hid (KL8.out.ups hb)
  have KZ := hid (KZ.out.ups hb)
  have KY := hid (KY.out.ups hb)
  have HT := hid (below_t HT.out hb)
  clear hb
  go_wp2
  go_ret
  exact ⟨rfl, HT.out⟩
end Go.Proofs.YtgckigolbajhoaaDoor

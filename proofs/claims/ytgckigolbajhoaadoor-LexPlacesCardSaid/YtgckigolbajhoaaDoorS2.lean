/- Contract: isValid. -/
import Derived.Test.YtgckigolbajhoaaDoorS
namespace Go.Proofs.YtgckigolbajhoaaDoor
open Go.RowKit Go
set_option linter.unusedVariables false
set_option linter.unusedSimpArgs false
abbrev tok (x : Tk) : Value := .agg #[.int .i64 x.k, .string ⟨x.t.toArray⟩, .int .i64 x.n, .int .i64 x.a]
theorem vld1 {k n a : Int} {t : List UInt8} (h : k = 1) : L9.vld ⟨k, t, n, a⟩ = (L9.nm t && decide (n = 0)) := by simp [L9.vld, h]
theorem vld2 {k n a : Int} {t : List UInt8} (h : k = 2) : L9.vld ⟨k, t, n, a⟩ = decide (t = [] ∧ 0 ≤ n ∧ n ≤ 1099511627776) := by simp [L9.vld, h]
theorem vld3 {k n a : Int} {t : List UInt8} (h : k = 3) : L9.vld ⟨k, t, n, a⟩ = (sgn t && decide (n = 0)) := by
  unfold L9.vld sgn
  simp only [h]
  rw [if_neg (by decide), if_neg (by decide), if_pos trivial]
  match t with
  | [c] => rfl
  | [] => rfl
  | _ :: _ :: _ => rfl
theorem vld0 {k n a : Int} {t : List UInt8} (h1 : k ≠ 1) (h2 : k ≠ 2) (h3 : k ≠ 3) : L9.vld ⟨k, t, n, a⟩ = false := by simp [L9.vld, h1, h2, h3]
theorem mk_size (t : List UInt8) : (ByteArray.mk t.toArray).size = t.length := by show t.toArray.size = _; simp
theorem mk_empty (t : List UInt8) : (ByteArray.mk t.toArray).toList = t := by rw [Lib.toList_data]
set_option maxRecDepth 100000 in
set_option maxHeartbeats 8000000 in
theorem isValid_any (k n a : Int) (t : List UInt8) (w : World) (hk : Konst w) (hs : t.length ≤ maxLen) : Calls Tryd.prog 31 #[.agg #[.int .i64 k, .string ⟨t.toArray⟩, .int .i64 n, .int .i64 a]] w fun e w' => e = .returned (.bool (L9.vld ⟨k, t, n, a⟩)) ∧ Below w.heap.size w w' := by
  have HBX := hid ((Below.refl w.heap.size w).alloc (Nat.le_refl _) (.cells #[.int .i64 k, .string ⟨t.toArray⟩, .int .i64 n, .int .i64 a] 35))
  have HN := hid (name_any ⟨t.toArray⟩ _ (hk.up HBX.out) (by rw [mk_size]; exact hs))
  have HI := hid (isSign_any ⟨t.toArray⟩ _ (hk.up HBX.out) (by rw [mk_size]; exact hs))
  rw [lst_mk] at HN HI
  have hcell : ∀ (W : World) (j : Nat) (v : Value), Below (w.alloc (.cells #[.int .i64 k, .string ⟨t.toArray⟩, .int .i64 n, .int .i64 a] 35)).heap.size (w.alloc (.cells #[.int .i64 k, .string ⟨t.toArray⟩, .int .i64 n, .int .i64 a] 35)) W → #[Value.int .i64 k, .string ⟨t.toArray⟩, .int .i64 n, .int .i64 a][j]? = some v → W.cell? ⟨w.heap.size, j, none⟩ = some v :=
    fun W j v hW hj => (hW.cell (p := ⟨w.heap.size, j, none⟩) (by simp)).trans (cell_lit w _ 35 j v hj)
  have HCE := hid hcell
  clear hk hs hcell
  by_cases h1 : k = 1
  · have hv := vld1 (n := n) (a := a) (t := t) h1
    subst h1
    cases hq : L9.nm t
    · rw [hq] at HN
      have HV := hid (show L9.vld ⟨1, t, n, a⟩ = false by rw [hv, hq]; rfl)
      clear hv hq
      go_enter Tryd.func31, Tryd.ntmps31
      go_wp2_with fail
      refine HN.out.mono ?_
      rintro e w1 ⟨rfl, hb⟩
      have c2 := HCE.out w1 2 _ hb rfl
      have HB1 := hid (HBX.out.trans (hb.mono HBX.out.size))
      clear hb
      go_wp2
      go_ret
      exact ⟨by rw [HV.out]; rfl, HB1.out⟩
    · rw [hq] at HN
      have HV := hid (show L9.vld ⟨1, t, n, a⟩ = (n == 0) by rw [hv, hq]; rfl)
      clear hv hq
      go_enter Tryd.func31, Tryd.ntmps31
      go_wp2_with fail
      refine HN.out.mono ?_
      rintro e w1 ⟨rfl, hb⟩
      have c2 := HCE.out w1 2 _ hb rfl
      have HB1 := hid (HBX.out.trans (hb.mono HBX.out.size))
      clear hb
      go_wp2
      go_ret
      exact ⟨by rw [HV.out]; rfl, HB1.out⟩
  by_cases h2 : k = 2
  · have hv := vld2 (n := n) (a := a) (t := t) h2
    subst h2
    have he := mk_empty t
    by_cases ht : t = []
    · rw [ht] at hv he
      have he2 : (ByteArray.mk t.toArray).toList.isEmpty = true := by rw [mk_empty]; rw [ht]; rfl
      by_cases hn0 : 0 ≤ n
      · have HV := hid (show L9.vld ⟨2, t, n, a⟩ = decide (n ≤ 1099511627776) by rw [ht, hv]; simp [hn0])
        subst ht
        clear hv he
        go_enter Tryd.func31, Tryd.ntmps31
        go_wp2
        go_ret
        exact ⟨by rw [HV.out]; rfl, HBX.out⟩
      · have HV := hid (show L9.vld ⟨2, t, n, a⟩ = false by rw [ht, hv]; simp [hn0])
        subst ht
        clear hv he
        go_enter Tryd.func31, Tryd.ntmps31
        go_wp2
        go_ret
        exact ⟨by rw [HV.out]; rfl, HBX.out⟩
    · have HV := hid (show L9.vld ⟨2, t, n, a⟩ = false by rw [hv]; simp [ht])
      have he2 : (ByteArray.mk t.toArray).toList.isEmpty = false := by rw [he]; simpa using ht
      have he3 : ¬ (ByteArray.mk t.toArray).toList = [] := by rw [he]; exact ht
      clear hv he
      go_enter Tryd.func31, Tryd.ntmps31
      go_wp2
      go_ret
      exact ⟨by rw [HV.out]; rfl, HBX.out⟩
  by_cases h3 : k = 3
  · have hv := vld3 (n := n) (a := a) (t := t) h3
    subst h3
    cases hq : sgn t
    · rw [hq] at HI
      have HV := hid (show L9.vld ⟨3, t, n, a⟩ = false by rw [hv, hq]; rfl)
      clear hv hq
      go_enter Tryd.func31, Tryd.ntmps31
      go_wp2_with fail
      refine HI.out.mono ?_
      rintro e w1 ⟨rfl, hb⟩
      have c2 := HCE.out w1 2 _ hb rfl
      have HB1 := hid (HBX.out.trans (hb.mono HBX.out.size))
      clear hb
      go_wp2
      go_ret
      exact ⟨by rw [HV.out]; rfl, HB1.out⟩
    · rw [hq] at HI
      have HV := hid (show L9.vld ⟨3, t, n, a⟩ = (n == 0) by rw [hv, hq]; rfl)
      clear hv hq
      go_enter Tryd.func31, Tryd.ntmps31
      go_wp2_with fail
      refine HI.out.mono ?_
      rintro e w1 ⟨rfl, hb⟩
      have c2 := HCE.out w1 2 _ hb rfl
      have HB1 := hid (HBX.out.trans (hb.mono HBX.out.size))
      clear hb
      go_wp2
      go_ret
      exact ⟨by rw [HV.out]; rfl, HB1.out⟩
  have HV := hid (vld0 (n := n) (a := a) (t := t) h1 h2 h3)
  have b1 : (k == 1) = false := by simpa using h1
  have b2 : (k == 2) = false := by simpa using h2
  have b3 : (k == 3) = false := by simpa using h3
  clear h1 h2 h3
  go_enter Tryd.func31, Tryd.ntmps31
  go_wp2
  go_ret
  exact ⟨by rw [HV.out]; rfl, HBX.out⟩
end Go.Proofs.YtgckigolbajhoaaDoor

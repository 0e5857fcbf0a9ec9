/- Contract: the reference's Valid. -/
import Derived.Test.YtgckigolbajhoaaDoorRn
namespace Go.Proofs.YtgckigolbajhoaaDoor
open Go.RowKit Go
set_option linter.unusedVariables false
set_option linter.unusedSimpArgs false
set_option maxRecDepth 100000 in
set_option maxHeartbeats 8000000 in
theorem rvalid_any (k n a : Int) (t : List UInt8) (w : World) (hs : t.length ≤ maxLen) : Calls Tryd.prog 34 #[.agg #[.int .i64 k, .string ⟨t.toArray⟩, .int .i64 n, .int .i64 a]] w fun e w' => e = .returned (.bool (L9.vld ⟨k, t, n, a⟩)) ∧ Below w.heap.size w w' := by
  have HBX := hid ((Below.refl w.heap.size w).alloc (Nat.le_refl _) (.cells #[.int .i64 k, .string ⟨t.toArray⟩, .int .i64 n, .int .i64 a] 35))
  have HN := hid (rname2_any ⟨t.toArray⟩ (w.alloc (.cells #[.int .i64 k, .string ⟨t.toArray⟩, .int .i64 n, .int .i64 a] 35)) (by rw [mk_size]; exact hs))
  rw [lst_mk] at HN
  have HSZ := hid (mk_size t)
  clear hs
  by_cases h1 : k = 1
  · have hv := vld1 (n := n) (a := a) (t := t) h1
    subst h1
    cases hq : L9.nm t
    · rw [hq] at HN
      have HV := hid (show L9.vld ⟨1, t, n, a⟩ = false by rw [hv, hq]; rfl)
      clear hv hq
      go_enter Tryd.func34, Tryd.ntmps34
      go_wp2_with fail
      refine HN.out.mono ?_
      rintro e w1 ⟨rfl, rfl⟩
      go_wp2
      go_ret
      exact ⟨by rw [HV.out]; rfl, HBX.out⟩
    · rw [hq] at HN
      have HV := hid (show L9.vld ⟨1, t, n, a⟩ = (n == 0) by rw [hv, hq]; rfl)
      clear hv hq
      go_enter Tryd.func34, Tryd.ntmps34
      go_wp2_with fail
      refine HN.out.mono ?_
      rintro e w1 ⟨rfl, rfl⟩
      go_wp2
      go_ret
      exact ⟨by rw [HV.out]; rfl, HBX.out⟩
  by_cases h2 : k = 2
  · have hv := vld2 (n := n) (a := a) (t := t) h2
    subst h2
    have he := mk_empty t
    by_cases ht : t = []
    · rw [ht] at hv he
      have he2 : (ByteArray.mk t.toArray).toList.isEmpty = true := by rw [mk_empty]; rw [ht]; rfl
      by_cases hn0 : 0 ≤ n
      · have HV := hid (show L9.vld ⟨2, t, n, a⟩ = decide (n ≤ 1099511627776) by rw [ht, hv]; simp [hn0])
        subst ht
        clear hv he
        go_enter Tryd.func34, Tryd.ntmps34
        go_wp2
        go_ret
        exact ⟨by rw [HV.out]; rfl, HBX.out⟩
      · have HV := hid (show L9.vld ⟨2, t, n, a⟩ = false by rw [ht, hv]; simp [hn0])
        subst ht
        clear hv he
        go_enter Tryd.func34, Tryd.ntmps34
        go_wp2
        go_ret
        exact ⟨by rw [HV.out]; rfl, HBX.out⟩
    · have HV := hid (show L9.vld ⟨2, t, n, a⟩ = false by rw [hv]; simp [ht])
      have he2 : (ByteArray.mk t.toArray).toList.isEmpty = false := by rw [he]; simpa using ht
      have he3 : ¬ (ByteArray.mk t.toArray).toList = [] := by rw [he]; exact ht
      clear hv he
      go_enter Tryd.func34, Tryd.ntmps34
      go_wp2
      go_ret
      exact ⟨by rw [HV.out]; rfl, HBX.out⟩
  by_cases h3 : k = 3
  · have hv := vld3 (n := n) (a := a) (t := t) h3
    subst h3
    by_cases hl : t.length = 1
    · obtain ⟨c, rfl⟩ := List.length_eq_one_iff.1 hl
      have HS := hid (rsign_any c (w.alloc (.cells #[.int .i64 3, .string ⟨([c] : List UInt8).toArray⟩, .int .i64 n, .int .i64 a] 35)))
      have hsg : sgn [c] = L9.isS c := rfl
      have e0 : (ByteArray.mk ([c] : List UInt8).toArray).size = 1 := rfl
      have hq0 : (ByteArray.mk ([c] : List UInt8).toArray)[0]'(by rw [e0]; omega) = c := rfl
      cases hq : L9.isS c
      · rw [hq] at HS
        have HV := hid (show L9.vld ⟨3, [c], n, a⟩ = false by rw [hv, hsg, hq]; rfl)
        clear hv hq hsg hl
        go_enter Tryd.func34, Tryd.ntmps34
        go_wp2_with fail
        refine HS.out.mono ?_
        rintro e w1 ⟨rfl, rfl⟩
        go_wp2
        go_ret
        exact ⟨by rw [HV.out]; rfl, HBX.out⟩
      · rw [hq] at HS
        have HV := hid (show L9.vld ⟨3, [c], n, a⟩ = (n == 0) by rw [hv, hsg, hq]; rfl)
        clear hv hq hsg hl
        go_enter Tryd.func34, Tryd.ntmps34
        go_wp2_with fail
        refine HS.out.mono ?_
        rintro e w1 ⟨rfl, rfl⟩
        go_wp2
        go_ret
        exact ⟨by rw [HV.out]; rfl, HBX.out⟩
    · have hsg : sgn t = false := by
        match t, hl with
        | [c], hl => exact absurd rfl hl
        | [], _ => rfl
        | _ :: _ :: _, _ => rfl
      have HV := hid (show L9.vld ⟨3, t, n, a⟩ = false by rw [hv, hsg]; rfl)
      have hsz := HSZ.out
      have hb : ((t.length : Int) == 1) = false := by simp; omega
      clear hv hsg hl
      go_enter Tryd.func34, Tryd.ntmps34
      go_wp2
      go_ret
      exact ⟨by rw [HV.out]; rfl, HBX.out⟩
  have HV := hid (vld0 (n := n) (a := a) (t := t) h1 h2 h3)
  have b1 : (k == 1) = false := by simpa using h1
  have b2 : (k == 2) = false := by simpa using h2
  have b3 : (k == 3) = false := by simpa using h3
  clear h1 h2 h3
  go_enter Tryd.func34, Tryd.ntmps34
  go_wp2
  go_ret
  exact ⟨by rw [HV.out]; rfl, HBX.out⟩
end Go.Proofs.YtgckigolbajhoaaDoor

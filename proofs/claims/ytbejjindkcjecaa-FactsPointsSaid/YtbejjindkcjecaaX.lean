/- Contract: ref.SameChanges. -/
import Derived.Test.YtbejjindkcjecaaW
namespace Go.Proofs.Ytbejjindkcjecaa
open Go.RowKit Go
set_option linter.unusedVariables false
set_option linter.unusedSimpArgs false
theorem GR.at4 {p : Option Addr} {n0 : Nat} {l : List CH} {W : World} (h : GR cc 4 p n0 l W) {i : Nat} {x : CH} (hi : l[i]? = some x) : ∃ b o, p = some ⟨b, o, none⟩ ∧ b < n0 ∧ W.cell? ⟨b, o + i * 4, none⟩ = some (.int .i64 x.1.1) ∧ W.cell? ⟨b, o + i * 4 + 1, none⟩ = some (.int .i64 x.1.2.1) ∧
    W.cell? ⟨b, o + i * 4 + 2, none⟩ = some (.int .i64 x.1.2.2) ∧ W.cell? ⟨b, o + i * 4 + 3, none⟩ = some (.slice x.2.1 x.2.2.1 x.2.2.2) := by
  obtain ⟨b, o, e, hl, h1⟩ := h i x hi
  exact ⟨b, o, e, hl, h1 0 _ rfl, h1 1 _ rfl, h1 2 _ rfl, h1 3 _ rfl⟩
abbrev CK := KE × List (Int × Int)
/-- a value that holds changes -/
def CG (w : World) (v : Value) (l : List CK) : Prop := ∃ l' : List CH, GS cc w v l' ∧ l'.length = l.length ∧ ∀ (i : Nat) (x : CH) (y : CK), l'[i]? = some x → l[i]? = some y → x.1 = y.1 ∧ PS w (.slice x.2.1 x.2.2.1 x.2.2.2) y.2
theorem CS.cg {w : World} {base : Nat} {v : Value} {l : List CK} (h : CS w base v l) : CG w v l := by
  obtain ⟨l', h1, h2, h3⟩ := h
  exact ⟨l', h1.gs, h2, fun i x y hx hy => ⟨(h3 i x y hx hy).1, (h3 i x y hx hy).2.gs⟩⟩
theorem CG.ups {w w' : World} {v : Value} {l : List CK} (h : CG w v l) (hb : Below w.heap.size w w') : CG w' v l := by
  obtain ⟨l', h1, h2, h3⟩ := h
  exact ⟨l', h1.ups hb, h2, fun i x y hx hy => ⟨(h3 i x y hx hy).1, (h3 i x y hx hy).2.ups hb⟩⟩
theorem span_eq (a b : Int × Int) (w : World) : (Op.equalIn 10000 26 (.agg #[.int .i64 a.1, .int .i64 a.2]) (.agg #[.int .i64 b.1, .int .i64 b.2])).run Try.prog w = .ok (decide (a = b)) w := by
  have u3 := Try.underlying3
  have a3 := Try.isAgg3
  have z3 := Try.sizeOf3
  have hS : Try.prog.underlying 26 = some (.struct (Try.prog.fieldsOf 26)) := by kernel_rfl
  have hp : Try.prog.stoodInHeld 26 = false := by kernel_rfl
  rw [show (10000 : Nat) = 9999 + 1 from rfl, run_equalIn_agg w 9999 26 _ _ hS hp]
  simp only [Program.fieldsOf, Try.underlying26]
  go_simp
  obtain ⟨a1, a2⟩ := a
  obtain ⟨b1, b2⟩ := b
  by_cases h1 : a1 = b1 <;> by_cases h2 : a2 = b2 <;> simp [h1, h2]
theorem ck_ne {l1 l2 : List CK} {n : Nat} {a b : CK} (h1 : l1[n]? = some a) (h2 : l2[n]? = some b) (h : a ≠ b) : decide (l1 = l2) = false :=
  decide_eq_false (fun e => h (by rw [e] at h1; rw [h1] at h2; cases h2; rfl))
set_option maxRecDepth 100000 in
set_option maxHeartbeats 8000000 in
theorem sameChanges_any (v1 v2 : Value) (l1 l2 : List CK) (w : World) (h1 : CG w v1 l1) (h2 : CG w v2 l2) :
    Calls Try.prog 23 #[v1, v2] w fun e w' => e = .returned (.bool (decide (l1 = l2))) ∧ Below w.heap.size w w' := by
  obtain ⟨c1, g1, e1, s1⟩ := h1
  obtain ⟨c2, g2, e2, s2⟩ := h2
  obtain ⟨p1, q1, rfl⟩ := g1.form
  obtain ⟨p2, q2, rfl⟩ := g2.form
  have hr1 : GR cc 4 p1 w.heap.size c1 w := g1.gr 4 cc_len (by omega)
  have hr2 : GR cc 4 p2 w.heap.size c2 w := g2.gr 4 cc_len (by omega)
  have hm1 := g1.len; have hm2 := g2.len
  unfold maxLen at hm1 hm2
  rw [e1] at hm1 ⊢
  rw [e2] at hm2 ⊢
  obtain ⟨n1, hn1⟩ : ∃ n, n = l1.length := ⟨_, rfl⟩
  obtain ⟨n2, hn2⟩ : ∃ n, n = l2.length := ⟨_, rfl⟩
  rw [← hn1] at hm1 ⊢
  rw [← hn2] at hm2 ⊢
  have HR1 := hid hr1; have HR2 := hid hr2; have HN1 := hid hn1; have HN2 := hid hn2
  have HE1 := hid e1; have HE2 := hid e2; have HS1 := hid s1; have HS2 := hid s2
  clear g1 g2 hr1 hr2 hn1 hn2 e1 e2 s1 s2
  by_cases hne : n1 = n2
  · subst hne
    go_enter Try.func23, Try.ntmps23
    go_wp2
    go_loopw [5] (fun i wr => ∃ n : Nat, n ≤ n1 ∧ i = .int .i64 n ∧ Hid (l1.take n = l2.take n) ∧ Hid (Below w.heap.size w wr)) (fun i _ => n1 - (intOf i).toNat)
    case atStart => exact ⟨0, by omega, rfl, hid (by simp), hid (Below.refl _ _)⟩
    case round =>
      obtain ⟨n, hn, rfl, heq, hbl⟩ := hrel
      by_cases hlt : n < n1
      · obtain ⟨y1, hy1⟩ := get_lt (l := l1) (i := n) (by rw [← HN1.out]; exact hlt)
        obtain ⟨y2, hy2⟩ := get_lt (l := l2) (i := n) (by rw [← HN2.out]; exact hlt)
        obtain ⟨x1, hx1⟩ := get_lt (l := c1) (i := n) (by rw [HE1.out, ← HN1.out]; exact hlt)
        obtain ⟨x2, hx2⟩ := get_lt (l := c2) (i := n) (by rw [HE2.out, ← HN2.out]; exact hlt)
        obtain ⟨hk1, hp1⟩ := HS1.out n x1 y1 hx1 hy1
        obtain ⟨hk2, hp2⟩ := HS2.out n x2 y2 hx2 hy2
        obtain ⟨⟨ka, kb, kc'⟩, a1, m1, b1⟩ := x1
        obtain ⟨⟨la, lb, lc⟩, a2, m2, b2⟩ := x2
        obtain ⟨k1, t1⟩ := y1
        obtain ⟨k2, t2⟩ := y2
        simp only at hk1 hk2 hp1 hp2
        subst hk1; subst hk2
        have hpc1 := hp1.cap; have hpc2 := hp2.cap
        have hpl1 := hp1.len; have hpl2 := hp2.len
        unfold maxLen at hpl1 hpl2
        have HP1 := hid (show PR a1 w.heap.size t1 w from hp1.gr 2 pc_len (by omega))
        have HP2 := hid (show PR a2 w.heap.size t2 w from hp2.gr 2 pc_len (by omega))
        have HM1 := hid hpc1.1; have HM2 := hid hpc2.1
        have hml1 : m1 ≤ 2 ^ 63 - 1 := by have := hpc1.1; omega
        have hml2 : m2 ≤ 2 ^ 63 - 1 := by have := hpc2.1; omega
        have HC1 := hid (fun (W : World) (hW : Below w.heap.size w W) => (HR1.out.up hW).at4 hx1)
        have HC2 := hid (fun (W : World) (hW : Below w.heap.size w W) => (HR2.out.up hW).at4 hx2)
        obtain ⟨bb, o, rfl, hb, x0, x1, x2, x3⟩ := HC1.out wr hbl.out
        obtain ⟨bb', o', rfl, hb', z0, z1, z2, z3⟩ := HC2.out wr hbl.out
        have hpe := fun w => key_eq (ka, kb, kc') (la, lb, lc) w
        have hg24 : Try.prog.eqGuardType Try.prog.depth 24 = false := by kernel_rfl
        have HY1 := hid hy1; have HY2 := hid hy2
        clear hx1 hx2 hp1 hp2 hpc1 hpc2 hpl1 hpl2 hb hb' hy1 hy2
        cases hd : decide ((ka, kb, kc') = (la, lb, lc)) with
        | false =>
          rw [hd] at hpe
          have he := of_decide_eq_false hd
          have HE := hid (ck_ne HY1.out HY2.out (fun e => he (by cases e; rfl)))
          clear heq hd he HC1 HC2 HP1 HP2 HR1 HR2 HS1 HS2
          go_upto_region 6 with fail
          go_quiet (fail)
          have HB := hid (below_t hbl.out (below_drewN nq))
          clear hbl
          go_wp2
          go_ret
          exact ⟨by rw [HE.out]; rfl, HB.out⟩
        | true =>
          rw [hd] at hpe
          have he := of_decide_eq_true hd
          by_cases hmm : m1 = m2
          · subst hmm
            have hne' : ((m1 : Int) != (m1 : Int)) = false := by simp
            have HKE := hid he
            clear hd he HR1 HR2 HS1 HS2
            go_upto_region 6 with fail
            go_quiet (fail)
            have HB := hid (below_t hbl.out (below_drewN nq))
            clear hbl x0 x1 x2 x3 z0 z1 z2 z3 hpe hg24
            obtain ⟨WQ, hWQ⟩ : ∃ x, x = wr.drewN nq := ⟨_, rfl⟩
            rw [← hWQ] at HB ⊢
            clear hWQ
            go_wp2_with fail
            go_loopw [6] (fun i wr => ∃ m : Nat, m ≤ m1 ∧ i = .int .i64 m ∧ Hid (t1.take m = t2.take m) ∧ Hid (Below w.heap.size w wr)) (fun i _ => m1 - (intOf i).toNat)
            case atStart => exact ⟨0, by omega, rfl, hid (by simp), HB⟩
            case round =>
              obtain ⟨m, hm, rfl, heq2, hbl⟩ := hrel
              obtain ⟨_, _, hba, hb, x0, x1, x2, x3⟩ := HC1.out wr hbl.out
              cases hba
              obtain ⟨_, _, hba, hb', z0, z1, z2, z3⟩ := HC2.out wr hbl.out
              cases hba
              clear hb hb' x0 x1 x2 z0 z1 z2
              by_cases hlt2 : m < m1
              · obtain ⟨f, hf⟩ := get_lt (l := t1) (i := m) (by rw [← HM1.out]; exact hlt2)
                obtain ⟨g, hg⟩ := get_lt (l := t2) (i := m) (by rw [← HM2.out]; exact hlt2)
                obtain ⟨b, q, rfl, hb, f0, f1⟩ := (HP1.out.up hbl.out).at2 hf
                obtain ⟨b', q', rfl, hb', g0, g1⟩ := (HP2.out.up hbl.out).at2 hg
                have hpe := fun w => span_eq f g w
                have hg26 : Try.prog.eqGuardType Try.prog.depth 26 = false := by kernel_rfl
                have T1 := hid (take_snoc hf); have T2 := hid (take_snoc hg)
                have HF := hid hf; have HG := hid hg
                clear hf hg hb hb' HP1 HP2 HC1 HC2
                cases hd2 : decide (f = g) with
                | true =>
                  rw [hd2] at hpe
                  have HEE := hid (show t1.take (m + 1) = t2.take (m + 1) by rw [T1.out, T2.out, heq2.out, of_decide_eq_true hd2])
                  clear hd2 T1 T2 HF HG heq2 HKE
                  go_upto_region 11 with fail
                  go_quiet (fail)
                  have HB2 := hid (below_t hbl.out (below_drewN nq))
                  clear hbl HB
                  go_wp2
                  go_roundw
                  case rel => exact ⟨m + 1, by omega, by go_num, HEE, HB2⟩
                  case measure => simp [intOf]; omega
                | false =>
                  rw [hd2] at hpe
                  have HE := hid (ck_ne HY1.out HY2.out (fun e => of_decide_eq_false hd2 (by cases e; have a := HF.out; have b := HG.out; rw [a] at b; cases b; rfl)))
                  clear hd2 T1 T2 HF HG heq2 HKE
                  go_upto_region 11 with fail
                  go_quiet (fail)
                  have HB2 := hid (below_t hbl.out (below_drewN nq))
                  clear hbl HB
                  go_wp2
                  go_ret
                  exact ⟨by rw [HE.out]; rfl, HB2.out⟩
              · have ht : t1 = t2 := by
                  have h := heq2.out
                  rwa [show m = t1.length by have := HM1.out; omega, List.take_length, show t1.length = t2.length by rw [← HM1.out, HM2.out], List.take_length] at h
                have HN := hid (show l1.take (n + 1) = l2.take (n + 1) by
                  rw [take_snoc HY1.out, take_snoc HY2.out, heq.out, HKE.out, ht])
                clear heq heq2 ht HP1 HP2 HC1 HC2
                go_wp2
                go_roundw
                case rel => exact ⟨n + 1, by omega, by go_num, HN, hbl⟩
                case measure => simp [intOf]; omega
          · have hne' : ((m1 : Int) != (m2 : Int)) = true := by simp; omega
            have HE := hid (ck_ne HY1.out HY2.out (fun e => hmm (by cases e; rw [HM1.out, HM2.out])))
            clear heq hd he HC1 HC2 HP1 HP2 HR1 HR2 HS1 HS2
            go_upto_region 6 with fail
            go_quiet (fail)
            have HB := hid (below_t hbl.out (below_drewN nq))
            clear hbl
            go_wp2
            go_ret
            exact ⟨by rw [HE.out]; rfl, HB.out⟩
      · have HE := hid (show decide (l1 = l2) = true from decide_eq_true (by
          have h := heq.out
          rwa [show n = l1.length by have := HN1.out; omega, List.take_length, show l1.length = l2.length by rw [← HN1.out, HN2.out], List.take_length] at h))
        clear heq
        go_wp2
        go_ret
        exact ⟨by rw [HE.out]; rfl, hbl.out⟩
  · have HE := hid (show decide (l1 = l2) = false from decide_eq_false (fun e => hne (by rw [HN1.out, HN2.out, e])))
    have hb1 : ((n1 : Int) != (n2 : Int)) = true := by simp; omega
    go_enter Try.func23, Try.ntmps23
    go_wp2
    go_ret
    exact ⟨by rw [HE.out]; rfl, Below.refl _ _⟩
end Go.Proofs.Ytbejjindkcjecaa

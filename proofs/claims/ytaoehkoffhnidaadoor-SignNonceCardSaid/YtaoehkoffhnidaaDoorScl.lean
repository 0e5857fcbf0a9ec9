/- Contract of Scalar: a scalar that the hash determines. -/
import Derived.Test.YtaoehkoffhnidaaDoorRef
import Derived.Test.YtaoehkoffhnidaaDoorDI
namespace Go.Proofs.YtaoehkoffhnidaaDoor
open Go.RowKit Go
open Dg (Konst BS RetD IsD tagd vb Tagged_any run_index_arr)
set_option linter.unusedVariables false
set_option maxRecDepth 20000
set_option linter.unusedSimpArgs false
theorem pz_c {c d e : Int} (h : c = d) : pz c e = pz d e := by rw [h]
theorem el1 : Hid (El 1) := Lib.hid ⟨by decide, by decide, by decide +kernel⟩
theorem below_tr {A B C : World} {n : Nat} (h : Below n A B) (k : Below B.heap.size B C) (hn : n ≤ A.heap.size := by omega) : Below n A C := h.trans (k.mono (Nat.le_trans hn h.size))
/-- a round of the remainder -/
def fo (r : Nat) (c : UInt8) : Nat := (r * 256 + c.toNat) % 2305843009213688668
def scl (l : List UInt8) : Nat := l.foldl fo 0
theorem fo_lt (r : Nat) (c : UInt8) : fo r c < 2305843009213688668 := Nat.mod_lt _ (by decide)
theorem foldl_lt (l : List UInt8) : ∀ r, r < 2305843009213688668 → l.foldl fo r < 2305843009213688668 := by
  induction l with
  | nil => intro r h; exact h
  | cons c l ih => intro r h; exact ih _ (fo_lt r c)
theorem scl_lt (l : List UInt8) : scl l < 2305843009213688668 := foldl_lt l 0 (by decide)
theorem dvR : Dv 2305843009213688668 := .inr ⟨by decide, by decide, by decide +kernel⟩
theorem rem_r (hi lo x : Nat) (h : Hid ((hi * 18446744073709551616 + lo) % 2305843009213688668 = x)) (hh : hi < 18446744073709551616) (hl : lo < 18446744073709551616) (w : World) :
    Calls Tryd.prog 62 #[.int .u64 (hi : Int), .int .u64 (lo : Int), .int .u64 2305843009213688668] w fun e w' => e = .returned (.int .u64 (x : Int)) ∧ ∃ n, w' = w.drewN n :=
  (rem_any hi lo 2305843009213688668 dvR hh hl w).mono fun e w' ⟨h1, h2⟩ => ⟨by rw [h1, h.out], h2⟩
set_option maxRecDepth 100000 in
theorem fold_any (r : Nat) (c : UInt8) (g : Nat) (w : World) (hr : r < 2305843009213688668) (hc : w.cell? ⟨g, 0, none⟩ = some (.int .u64 (r : Int))) (hf : w.frozen? ⟨g, 0, none⟩ = false) :
    Calls Tryd.prog 60 #[.int .u8 (c.toNat : Int), .pointer (some ⟨g, 0, none⟩)] w fun e w' => e = .returned (.tuple #[]) ∧ ∃ n, w' = (w.drewN n).setCell ⟨g, 0, none⟩ (.int .u64 (fo r c : Int)) := by
  obtain ⟨d, hd⟩ : ∃ d, d = c.toNat := ⟨_, rfl⟩
  have hdl : d < 256 := by rw [hd]; exact c.toNat_lt
  have hfo : fo r c = (r * 256 + d) % 2305843009213688668 := by rw [hd]; rfl
  rw [← hd, hfo]
  clear hd hfo
  obtain ⟨hi, hhi⟩ : ∃ hi, hi = r * 256 / 18446744073709551616 := ⟨_, rfl⟩
  obtain ⟨lo, hlo⟩ : ∃ lo, lo = r * 256 % 18446744073709551616 := ⟨_, rfl⟩
  have b1 : hi < 256 := by rw [hhi, Nat.div_lt_iff_lt_mul (by omega)]; exact Nat.lt_of_lt_of_le (Nat.mul_lt_mul_of_pos_right hr (by omega)) (by decide)
  have b2 : lo + 256 ≤ 18446744073709551616 := by omega
  have e : hi * 18446744073709551616 + (lo + d) = r * 256 + d := by
    rw [hhi, hlo, ← Nat.add_assoc, Nat.mul_comm (_ / _), Nat.div_add_mod]
  obtain ⟨x, hx⟩ : ∃ x, (r * 256 + d) % 2305843009213688668 = x := ⟨_, rfl⟩
  have HX : Hid ((hi * 18446744073709551616 + (lo + d)) % 2305843009213688668 = x) := Lib.hid (by rw [e, hx])
  rw [hx]
  clear e hx
  have hm := Tryd.bits_Mul64 r 256 (by omega) (by omega)
  rw [← hhi, ← hlo] at hm
  have HM := Lib.hid hm; clear hm hhi hlo
  go_enter Tryd.func60, Tryd.ntmps60
  go_wp2_with fail
  refine (HM.out _).mono ?_
  rintro e w1 ⟨rfl, hw⟩
  obtain rfl : w = w1 := hw.symm
  clear hw
  go_wp2_with fail
  refine (rem_r hi (lo + d) x HX (by omega) (by omega) _).mono ?_
  rintro e w1 ⟨rfl, n, rfl⟩
  go_wp2
  go_end0
  exact ⟨rfl, n, rfl⟩
theorem take_fold (L : List UInt8) (k : Nat) (c : UInt8) (h : L[k]? = some c) : (L.take (k + 1)).foldl fo 0 = fo ((L.take k).foldl fo 0) c := by
  rw [List.take_add_one, h]; simp
/-- what the cell holds between two rounds -/
def Cel (w : World) (g : Nat) (x : Nat) : Prop := w.cell? ⟨g, 0, none⟩ = some (.int .u64 (x : Int)) ∧ w.frozen? ⟨g, 0, none⟩ = false
set_option maxRecDepth 100000 in
set_option maxHeartbeats 2000000 in
theorem Scalar_any (tag : ByteArray) (v : Value) (b : List UInt8) (w : World) (hv : BS w v b) (hk : Konst w) (ht : tag.size ≤ 1000000000) (hn : b.length ≤ 70368744000000) :
    Calls Tryd.prog 30 #[.string tag, v] w fun e w' => e = .returned (.int .i64 ((1 + scl (tagd tag.data.toList b) : Nat) : Int)) ∧ Below w.heap.size w w' := by
  obtain ⟨L, hL⟩ : ∃ L, L = tagd tag.data.toList b := ⟨_, rfl⟩
  obtain ⟨x, hx⟩ : ∃ x, x = scl L := ⟨_, rfl⟩
  rw [← hL, ← hx]
  have HL := Lib.hid hL; have HX := Lib.hid hx; clear hL hx
  obtain ⟨p, cap, rfl⟩ := hv.form
  obtain ⟨len, hln⟩ : ∃ len, len = b.length := ⟨_, rfl⟩
  have c0 := cell_new_l w (.int .u64 0) 64
  have hb0 : Below w.heap.size w (w.alloc (.cells #[.int .u64 0] 64)) := (Below.refl _ _).alloc (Nat.le_refl _) _
  have hgs : w.heap.size < (w.alloc (.cells #[.int .u64 0] 64)).heap.size := by simp
  have HV := Lib.hid (hv.ups hb0); have HK := Lib.hid (hk.ups hb0)
  have HT := Lib.hid ht; have HN := Lib.hid hn
  rw [← hln] at HV ⊢
  clear hv hk hn hln ht
  go_enter Tryd.func30, Tryd.ntmps30
  go_wp2_with fail
  generalize w.alloc (.cells #[.int .u64 0] 64) = w0 at *
  obtain ⟨g, hg⟩ : ∃ g, g = w.heap.size := ⟨_, rfl⟩
  rw [← hg] at hgs c0 ⊢
  have HG := Lib.hid hg; clear hg
  have hC : Cel w0 g 0 := c0
  have HB := Lib.hid hb0; clear hb0 c0
  refine (Tagged_any tag _ b _ HV.out HK.out HT.out HN.out).mono ?_
  rintro e w1 ⟨vs, hd, rfl, hb1⟩
  rw [← HL.out] at hd
  have hC1 : Cel w1 g ((List.take 0 L).foldl fo 0) := ⟨(hb1.cell (p := ⟨g, 0, none⟩) hgs).trans hC.1, (hb1.frozen (p := ⟨g, 0, none⟩) hgs).trans hC.2⟩
  have HB1 := Lib.hid (below_tr HB.out hb1)
  have hll : L.length = 32 := hd.len
  have HE := Lib.hid hd.eq
  clear hb1 hd HV HK HT HN hC hgs
  go_wp2_with fail
  go_loopw [13] (fun i wr => ∃ k : Nat, k ≤ 32 ∧ i = .int .i64 (k : Int) ∧ Cel wr g ((L.take k).foldl fo 0) ∧ Hid (Below w.heap.size w wr)) (fun i _ => 32 - (RowKit.intOf i).toNat)
  case atStart => exact ⟨0, by omega, rfl, hC1, HB1⟩
  case round =>
    obtain ⟨k, hk, rfl, hC, HBR⟩ := hrel
    by_cases hlt : k < 32
    · obtain ⟨c, hc⟩ : ∃ c, L[k]? = some c := ⟨L[k], List.getElem?_eq_getElem _⟩
      have hix : (Instr.index 35 (.agg vs.toArray) (.int .i64 (k : Int))).run Tryd.prog wr = .ok (.int .u8 (c.toNat : Int)) wr :=
        run_index_arr (P := Tryd.prog) wr 35 5 32 _ .i64 k _ Tryd.underlying35 Tryd.underlying5 (by kernel_rfl) hlt (by rw [HE.out]; simp [hc, vb])
      have hf := take_fold L k c hc
      have hb := foldl_lt (L.take k) 0 (by decide)
      obtain ⟨r, hr⟩ : ∃ r, r = (L.take k).foldl fo 0 := ⟨_, rfl⟩
      rw [← hr] at hC hf hb
      have HF := Lib.hid hf; have HC := Lib.hid hC
      clear hf hc hr hC hll
      have hcell := HC.out.1
      go_wp2_with fail
      refine (fold_any r c g _ hb HC.out.1 HC.out.2).mono ?_
      rintro e w2 ⟨rfl, n, rfl⟩
      have hC2 : Cel ((wr.drewN n).setCell ⟨g, 0, none⟩ (.int .u64 (fo r c : Int))) g ((L.take (k + 1)).foldl fo 0) := by
        rw [HF.out]
        exact ⟨World.cell?_setCell_same' _ _ _ (by simp [hcell]), by rw [World.frozen?_setCell]; exact HC.out.2⟩
      have HB2 := Lib.hid ((below_drewN HBR.out n).setCell (p := ⟨g, 0, none⟩) (by rw [HG.out]; exact Nat.le_refl _) (.int .u64 (fo r c : Int)))
      clear hcell hix
      go_wp2
      go_roundw
      case rel => exact ⟨k + 1, by omega, rfl, hC2, HB2⟩
      case measure => simp [RowKit.intOf]; omega
    · obtain rfl : k = 32 := by omega
      rw [List.take_of_length_le (by omega)] at hC
      have hb := scl_lt L
      have hcell : wr.cell? ⟨g, 0, none⟩ = some (.int .u64 (scl L : Int)) := hC.1
      rw [← HX.out] at hb hcell
      have e1 : (1 : Int) + (x : Int) = ((1 + x : Nat) : Int) := by omega
      have E1 := Lib.hid e1
      clear hll hC e1
      go_wp2
      go_ret
      exact ⟨ret_int E1.out, HBR.out⟩
end Go.Proofs.YtaoehkoffhnidaaDoor

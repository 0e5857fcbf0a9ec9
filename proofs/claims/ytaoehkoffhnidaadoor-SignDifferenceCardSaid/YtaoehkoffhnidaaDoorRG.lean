/- The reference of layer 3: sums and products of scalars, and the scalar of a hash. -/
import Derived.Test.YtaoehkoffhnidaaDoorScl
import Derived.Test.YtaoehkoffhnidaaDoorRE
namespace Go.Proofs.YtaoehkoffhnidaaDoor
open Go.RowKit Go
open Dg (Konst BS RetD IsD tagd vb Tagged_any rTagged_any run_index_arr)
set_option linter.unusedVariables false
set_option maxRecDepth 20000
set_option linter.unusedSimpArgs false
set_option maxRecDepth 100000 in
theorem rSum_ok (a b : Nat) (ha : Hid (Sc a)) (hb : Hid (Sc b)) (w : World) : Calls Tryd.prog 51 #[.int .i64 (a : Int), .int .i64 (b : Int)] w fun e w' => e = pz (((a + b) % 2305843009213688669 : Nat) : Int) 0 ∧ w = w' := by
  have a2 : a < 2305843009213688669 := ha.out
  have b2 : b < 2305843009213688669 := hb.out
  obtain ⟨r, hr⟩ : ∃ r, (a + b) % 2305843009213688669 = r := ⟨_, rfl⟩
  rw [hr]
  have HR := Lib.hid hr; clear hr
  go_enter Tryd.func51, Tryd.ntmps51
  go_wp2_with fail
  refine (isScalar_any _ true (Lib.hid (sc_ok ha.out)) _).mono ?_
  rintro e w1 ⟨rfl, rfl⟩
  go_wp2_with fail
  refine (isScalar_any _ true (Lib.hid (sc_ok hb.out)) _).mono ?_
  rintro e w1 ⟨rfl, rfl⟩
  go_wp2_with fail
  refine (rsum a b 2305843009213688669 r (by omega) a2 b2 HR _).mono ?_
  rintro e w1 ⟨rfl, rfl⟩
  go_wp2
  go_ret2
  exact ⟨rfl, rfl⟩
set_option maxRecDepth 100000 in
theorem rProduct_ok (a b : Nat) (ha : Hid (Sc a)) (hb : Hid (Sc b)) (w : World) : Calls Tryd.prog 49 #[.int .i64 (a : Int), .int .i64 (b : Int)] w fun e w' => e = pz ((a * b % 2305843009213688669 : Nat) : Int) 0 ∧ w = w' := by
  have a2 : a < 2305843009213688669 := ha.out
  have b2 : b < 2305843009213688669 := hb.out
  obtain ⟨r, hr⟩ : ∃ r, a * b % 2305843009213688669 = r := ⟨_, rfl⟩
  rw [hr]
  have HR := Lib.hid hr; clear hr
  go_enter Tryd.func49, Tryd.ntmps49
  go_wp2_with fail
  refine (isScalar_any _ true (Lib.hid (sc_ok ha.out)) _).mono ?_
  rintro e w1 ⟨rfl, rfl⟩
  go_wp2_with fail
  refine (isScalar_any _ true (Lib.hid (sc_ok hb.out)) _).mono ?_
  rintro e w1 ⟨rfl, rfl⟩
  go_wp2_with fail
  refine (rmodQ a b r a2 b2 HR _).mono ?_
  rintro e w1 ⟨rfl, rfl⟩
  go_wp2
  go_ret2
  exact ⟨rfl, rfl⟩
set_option maxRecDepth 100000 in
theorem rSum_arg (a b : Int) (h : Hid ((sc a && sc b) = false)) (w : World) : Calls Tryd.prog 51 #[.int .i64 a, .int .i64 b] w fun e w' => e = pz 0 1 ∧ w = w' := by
  obtain ⟨x, hx⟩ : ∃ x, sc a = x := ⟨_, rfl⟩
  obtain ⟨y, hy⟩ : ∃ y, sc b = y := ⟨_, rfl⟩
  have hxy : (x && y) = false := by rw [← hx, ← hy]; exact h.out
  have HX := Lib.hid hx; have HY := Lib.hid hy; clear hx hy h
  cases x
  · go_enter Tryd.func51, Tryd.ntmps51
    go_wp2_with fail
    refine (isScalar_any _ false HX _).mono ?_
    rintro e w1 ⟨rfl, rfl⟩
    go_wp2
    go_ret2
    exact ⟨rfl, rfl⟩
  · obtain rfl : y = false := by simpa using hxy
    go_enter Tryd.func51, Tryd.ntmps51
    go_wp2_with fail
    refine (isScalar_any _ true HX _).mono ?_
    rintro e w1 ⟨rfl, rfl⟩
    go_wp2_with fail
    refine (isScalar_any _ false HY _).mono ?_
    rintro e w1 ⟨rfl, rfl⟩
    go_wp2
    go_ret2
    exact ⟨rfl, rfl⟩
set_option maxRecDepth 100000 in
theorem rProduct_arg (a b : Int) (h : Hid ((sc a && sc b) = false)) (w : World) : Calls Tryd.prog 49 #[.int .i64 a, .int .i64 b] w fun e w' => e = pz 0 1 ∧ w = w' := by
  obtain ⟨x, hx⟩ : ∃ x, sc a = x := ⟨_, rfl⟩
  obtain ⟨y, hy⟩ : ∃ y, sc b = y := ⟨_, rfl⟩
  have hxy : (x && y) = false := by rw [← hx, ← hy]; exact h.out
  have HX := Lib.hid hx; have HY := Lib.hid hy; clear hx hy h
  cases x
  · go_enter Tryd.func49, Tryd.ntmps49
    go_wp2_with fail
    refine (isScalar_any _ false HX _).mono ?_
    rintro e w1 ⟨rfl, rfl⟩
    go_wp2
    go_ret2
    exact ⟨rfl, rfl⟩
  · obtain rfl : y = false := by simpa using hxy
    go_enter Tryd.func49, Tryd.ntmps49
    go_wp2_with fail
    refine (isScalar_any _ true HX _).mono ?_
    rintro e w1 ⟨rfl, rfl⟩
    go_wp2_with fail
    refine (isScalar_any _ false HY _).mono ?_
    rintro e w1 ⟨rfl, rfl⟩
    go_wp2
    go_ret2
    exact ⟨rfl, rfl⟩
/-- both implementations of sums and of products answer alike -/
theorem sc_both (a b : Int) : ((∃ m n : Nat, a = (m : Int) ∧ b = (n : Int) ∧ Hid (Sc m) ∧ Hid (Sc n)) ∨ Hid ((sc a && sc b) = false)) := by
  by_cases h : (sc a && sc b) = true
  · obtain ⟨h1, h2⟩ := Bool.and_eq_true_iff.1 h
    unfold sc at h1 h2
    simp only [Bool.and_eq_true, decide_eq_true_eq] at h1 h2
    exact .inl ⟨a.toNat, b.toNat, by omega, by omega, Lib.hid (by unfold Sc; omega), Lib.hid (by unfold Sc; omega)⟩
  · exact .inr (Lib.hid (by simpa using h))
theorem sum_both (a b : Int) : ∃ c e : Int, (∀ w, Calls Tryd.prog 46 #[.int .i64 a, .int .i64 b] w fun x w' => x = pz c e ∧ Below w.heap.size w w') ∧ (∀ w, Calls Tryd.prog 51 #[.int .i64 a, .int .i64 b] w fun x w' => x = pz c e ∧ w = w') := by
  rcases sc_both a b with ⟨m, n, rfl, rfl, h1, h2⟩ | h
  · exact ⟨_, _, Sum_ok m n h1 h2, rSum_ok m n h1 h2⟩
  · exact ⟨_, _, Sum_arg a b h, rSum_arg a b h⟩
theorem product_both (a b : Int) : ∃ c e : Int, (∀ w, Calls Tryd.prog 29 #[.int .i64 a, .int .i64 b] w fun x w' => x = pz c e ∧ Below w.heap.size w w') ∧ (∀ w, Calls Tryd.prog 49 #[.int .i64 a, .int .i64 b] w fun x w' => x = pz c e ∧ w = w') := by
  rcases sc_both a b with ⟨m, n, rfl, rfl, h1, h2⟩ | h
  · exact ⟨_, _, Product_ok m n h1 h2, rProduct_ok m n h1 h2⟩
  · exact ⟨_, _, Product_arg a b h, rProduct_arg a b h⟩
end Go.Proofs.YtaoehkoffhnidaaDoor
namespace Go.Proofs.YtaoehkoffhnidaaDoor
open Go.RowKit Go
open Dg (Konst BS RetD IsD tagd vb Tagged_any rTagged_any run_index_arr Cells cells_alloc below_al Drawn)
set_option linter.unusedVariables false
set_option linter.unusedSimpArgs false
theorem fo_raw (r : Nat) (c : UInt8) : (r * 256 + c.toNat) % 2305843009213688668 = (256 * r % 2305843009213688668 + c.toNat) % 2305843009213688668 := by omega
theorem rmodR_s (b r : Nat) (hb : b < 2305843009213688668) (hr : Hid (256 * b % 2305843009213688668 = r)) (w : World) :
    Calls Tryd.prog 82 #[.int .i64 256, .int .i64 (b : Int), .int .i64 2305843009213688668] w fun e w' => e = .returned (.int .i64 (r : Int)) ∧ w' = w :=
  (rmodular 256 b 2305843009213688668 r (by omega) (by omega) (by omega) hr w).mono fun e w' ⟨h, k⟩ => ⟨h, k.symm⟩
set_option maxRecDepth 100000 in
set_option maxHeartbeats 2000000 in
theorem Rest_any (L : List UInt8) (vs : List Value) (w : World) (hd : IsD L vs) :
    Calls Tryd.prog 80 #[.agg vs.toArray, .int .i64 2305843009213688668] w fun e w' => e = .returned (.int .i64 ((scl L : Nat) : Int)) ∧ Below w.heap.size w w' := by
  obtain ⟨x, hx⟩ : ∃ x, x = scl L := ⟨_, rfl⟩
  rw [← hx]
  have HX := Lib.hid hx; clear hx
  have hll : L.length = 32 := hd.len
  have hc0 := cells_alloc w vs 35
  have hb0 := below_al w (.cells vs.toArray 35)
  go_enter Tryd.func80, Tryd.ntmps80
  go_upto_region 1 with fail
  generalize w.alloc (.cells vs.toArray 35) = w0 at *
  obtain ⟨g, hg⟩ : ∃ g, g = w.heap.size := ⟨_, rfl⟩
  rw [← hg] at hc0 ⊢
  rw [hd.eq] at hc0
  have HC := Lib.hid hc0; have HB := Lib.hid hb0; clear hc0 hb0 hd hg
  go_wp2_with fail
  go_loopw [5, 6] (fun n i wr => ∃ k : Nat, k ≤ 32 ∧ i = .int .i64 (k : Int) ∧ n = .int .i64 (((L.take k).foldl fo 0 : Nat) : Int) ∧ Drawn w0 wr) (fun _ i _ => 32 - (RowKit.intOf i).toNat)
  case atStart => exact ⟨0, by omega, rfl, rfl, ⟨0, rfl⟩⟩
  case round =>
    obtain ⟨k, hk, rfl, rfl, hdr⟩ := hrel
    by_cases hlt : k < 32
    · obtain ⟨c, hc⟩ : ∃ c, L[k]? = some c := ⟨L[k], List.getElem?_eq_getElem _⟩
      have hf := take_fold L k c hc
      have hb := foldl_lt (L.take k) 0 (by decide)
      have hcell : wr.cell? ⟨g, k, none⟩ = some (.int .u8 (c.toNat : Int)) := by
        rw [hdr.cell]
        exact HC.out.at0 (by rw [List.getElem?_map, hc]; rfl)
      obtain ⟨r, hr⟩ : ∃ r, r = (L.take k).foldl fo 0 := ⟨_, rfl⟩
      rw [← hr] at hf hb ⊢
      obtain ⟨s, hs⟩ : ∃ s, 256 * r % 2305843009213688668 = s := ⟨_, rfl⟩
      have hs2 : s < 2305843009213688668 := by rw [← hs]; exact Nat.mod_lt _ (by decide)
      have hfs : (L.take (k + 1)).foldl fo 0 = (s + c.toNat) % 2305843009213688668 := by rw [hf, fo, fo_raw, hs]
      have hcl := c.toNat_lt
      have HS := Lib.hid hs
      have HF := Lib.hid hfs; have HD := Lib.hid hdr
      clear hf hc hr hfs hdr hs hll
      go_wp2_with fail
      go_quiet ((go_at_call 82; exact Calls.quiet_of_same (rmodR_s r s hb HS _)))
      go_wp2
      go_roundw
      case rel => exact ⟨k + 1, by omega, rfl, by rw [HF.out]; congr 1, HD.out.more nq⟩
      case measure => simp [RowKit.intOf]; omega
    · obtain rfl : k = 32 := by omega
      rw [List.take_of_length_le (by omega)]
      have hxe : ((List.foldl fo 0 L : Nat) : Int) = (x : Int) := by rw [HX.out]; rfl
      rw [hxe]
      have HD := Lib.hid hdr; clear hdr hxe
      go_wp2
      go_ret
      obtain ⟨n, rfl⟩ := HD.out
      exact ⟨rfl, below_drewN HB.out n⟩
set_option maxRecDepth 100000 in
theorem rScalar_any (tag : ByteArray) (v : Value) (b : List UInt8) (k : Nat) (w : World) (hv : BS w v b) (ht : tag.size ≤ 100000000) (hn : b.length ≤ 100000000) (h : Hid (1 + scl (tagd tag.data.toList b) = k)) :
    Calls Tryd.prog 47 #[.string tag, v] w fun e w' => e = .returned (.int .i64 (k : Int)) ∧ Below w.heap.size w w' := by
  have hlt := scl_lt (tagd tag.data.toList b)
  have HV := Lib.hid hv; clear hv
  go_enter Tryd.func47, Tryd.ntmps47
  go_wp2_with fail
  refine (rTagged_any tag v b _ HV.out ht hn).mono ?_
  rintro e w1 ⟨vs, hd, rfl, h1⟩
  go_wp2_with fail
  refine (Rest_any _ vs _ hd).mono ?_
  rintro e w2 ⟨rfl, h2⟩
  obtain ⟨s, hs⟩ : ∃ s, s = scl (tagd tag.data.toList b) := ⟨_, rfl⟩
  rw [← hs] at hlt h ⊢
  have hB := below_tr h1 h2
  clear hs h1 h2 hd
  have e1 : (1 : Int) + (s : Int) = (k : Int) := by have := h.out; omega
  have E1 := Lib.hid e1; clear e1
  go_wp2
  go_ret
  exact ⟨ret_int E1.out, hB⟩
end Go.Proofs.YtaoehkoffhnidaaDoor

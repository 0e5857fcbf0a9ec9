/- Numbers as eight bytes: the law's and the reference's. -/
import Derived.Test.YtaoehkoffhnidaaDoorSA
import Derived.Test.YtaoehkoffhnidaaDoorRD
import Derived.Test.YtaoehkoffhnidaaDoorRG
import Derived.Test.YtaoehkoffhnidaaDoorNm
namespace Go.Proofs.YtaoehkoffhnidaaDoor.Dg
open Go.RowKit Go
set_option linter.unusedVariables false
set_option maxRecDepth 20000
set_option linter.unusedSimpArgs false
theorem w8_snoc (n : Int) (m : Nat) (h : m < 8) : (w8 n).take (8 - (m + 1)) ++ [UInt8.ofNat ((n % 18446744073709551616).toNat >>> (8 * m))] = (w8 n).take (8 - m) := by
  have := be8_snoc (n % 18446744073709551616).toNat (8 - (m + 1)) (by omega)
  rw [show 7 - (8 - (m + 1)) = m by omega, show 8 - (m + 1) + 1 = 8 - m by omega] at this
  exact this
theorem OB.nil (w : World) (base : Nat) : OB w base (.slice none 0 0) [] := .inl (by simpa using World.ownsRow_nil w base 5 1)
set_option maxRecDepth 100000 in
set_option maxHeartbeats 4000000 in
theorem number_any (n : Int) (w : World) : Calls Tryd.prog 31 #[.int .i64 n] w fun e w' => ∃ u, e = .returned u ∧ OB w' w.heap.size u (w8 n) ∧ Below w.heap.size w w' := by
  go_enter Tryd.func31, Tryd.ntmps31
  go_wp2_with fail
  go_loopw [3, 4] (fun s3 s5 wr => ∃ m : Nat, m ≤ 8 ∧ s5 = .int .i64 ((m : Int) - 1) ∧ OB wr w.heap.size s3 ((w8 n).take (8 - m)) ∧ Hid (Below w.heap.size w wr)) (fun _ s5 _ => (intOf s5 + 1).toNat)
  case atStart => exact ⟨8, Nat.le_refl _, rfl, OB.nil _ _, hid (Below.refl _ _)⟩
  case round =>
    obtain ⟨m, hm, rfl, ho, hB⟩ := hrel
    cases m with
    | zero =>
      rw [List.take_of_length_le (by rw [w8_length]; omega)] at ho
      have HO := hid ho; clear ho
      go_wp2
      go_ret
      exact ⟨_, rfl, HO.out, hB.out⟩
    | succ m =>
      have em : (((m + 1 : Nat) : Int) - 1) = (m : Int) := by omega
      rw [em]
      clear em
      have hm7 : m ≤ 7 := by omega
      obtain ⟨v4, w4, hr4, ho4, hb4⟩ := push_ob _ _ (byte_of_shift' n m (by omega)) ho (by simp; omega) hB.out.size
      rw [w8_snoc n m (by omega)] at ho4
      have H4 := hid hr4; have HO4 := hid ho4; have HB4 := hid (hB.out.trans hb4)
      clear hr4 ho4 hb4 ho
      go_wp2_with (at_builtin; refine wpList_append_run rfl (.tmp 9) (.tmp 16) 22 22 rfl _ _ _ rfl rfl H4.out ?_)
      go_roundw
      case rel => exact ⟨m, by omega, rfl, HO4.out, HB4⟩
      case measure => simp [intOf]
set_option maxRecDepth 100000 in
set_option maxHeartbeats 4000000 in
theorem rBytes_any (n : Int) (w : World) : Calls Tryd.prog 48 #[.int .i64 n] w fun e w' => ∃ u, e = .returned u ∧ OB w' w.heap.size u (w8 n) ∧ Below w.heap.size w w' := by
  have hal : Below w.heap.size w (w.alloc (.cells #[] 5)) := below_al _ _
  go_enter Tryd.func48, Tryd.ntmps48
  go_wp2_with fail
  go_loopw [3, 4] (fun s3 s5 wr => ∃ m : Nat, m ≤ 8 ∧ s5 = .int .i64 ((m : Int) - 1) ∧ OB wr w.heap.size s3 ((w8 n).take (8 - m)) ∧ Hid (Below w.heap.size w wr)) (fun _ s5 _ => (intOf s5 + 1).toNat)
  case atStart => exact ⟨8, Nat.le_refl _, rfl, .inr ⟨rfl, _, rfl⟩, hid hal⟩
  case round =>
    clear hal
    obtain ⟨m, hm, rfl, ho, hB⟩ := hrel
    cases m with
    | zero =>
      rw [List.take_of_length_le (by rw [w8_length]; omega)] at ho
      have HO := hid ho; clear ho
      go_wp2
      go_ret
      exact ⟨_, rfl, HO.out, hB.out⟩
    | succ m =>
      have em : (((m + 1 : Nat) : Int) - 1) = (m : Int) := by omega
      rw [em]
      clear em
      have hm7 : m ≤ 7 := by omega
      obtain ⟨v4, w4, hr4, ho4, hb4⟩ := push_ob _ _ (byte_of_shift' n m (by omega)) ho (by simp; omega) hB.out.size
      rw [w8_snoc n m (by omega)] at ho4
      have H4 := hid hr4; have HO4 := hid ho4; have HB4 := hid (hB.out.trans hb4)
      clear hr4 ho4 hb4 ho
      go_wp2_with (at_builtin; refine wpList_append_run rfl (.tmp 10) (.tmp 17) 22 22 rfl _ _ _ rfl rfl H4.out ?_)
      go_roundw
      case rel => exact ⟨m, by omega, rfl, HO4.out, HB4⟩
      case measure => simp [intOf]
end Go.Proofs.YtaoehkoffhnidaaDoor.Dg
namespace Go.Proofs.YtaoehkoffhnidaaDoor
open Go.RowKit Go
open Dg (Konst BS OB w8 w8_length Cells concats_any eight_any number_any rBytes_any calls_alloc append_ob below_al wpList_append_run tagd)
set_option linter.unusedVariables false
set_option maxRecDepth 20000
set_option linter.unusedSimpArgs false
/-- the scalar of a tag and bytes -/
def sclOf (tag : ByteArray) (b : List UInt8) : Nat := 1 + scl (tagd tag.data.toList b)
def signT : ByteArray := ⟨#[115, 105, 103, 110]⟩
def nonceT : ByteArray := ⟨#[110, 111, 110, 99, 101]⟩
def privT : ByteArray := ⟨#[112, 114, 105, 118, 97, 116, 101]⟩
def chal (pub r : Int) (m : List UInt8) : Nat := sclOf signT (w8 r ++ w8 pub ++ m)
def nonc (x : Int) (m : List UInt8) : Nat := sclOf nonceT (w8 x ++ m)
theorem sclOf_pos (t : ByteArray) (b : List UInt8) : 0 < sclOf t b := by unfold sclOf; omega
theorem sclOf_lt (t : ByteArray) (b : List UInt8) : sclOf t b < 2305843009213688669 := by unfold sclOf; have := scl_lt (tagd t.data.toList b); omega
theorem sclOf_sc (t : ByteArray) (b : List UInt8) : Hid (Sc (sclOf t b)) := sclOf_lt t b
theorem sclr (tag : ByteArray) (v : Value) (b : List UInt8) (w : World) (hv : BS w v b) (hk : Konst w) (ht : tag.size ≤ 1000000000) (hn : b.length ≤ 70368744000000) :
    Calls Tryd.prog 30 #[.string tag, v] w fun e w' => e = .returned (.int .i64 ((sclOf tag b : Nat) : Int)) ∧ Below w.heap.size w w' := Scalar_any tag v b w hv hk ht hn
theorem rsclr (tag : ByteArray) (v : Value) (b : List UInt8) (w : World) (hv : BS w v b) (ht : tag.size ≤ 100000000) (hn : b.length ≤ 100000000) :
    Calls Tryd.prog 47 #[.string tag, v] w fun e w' => e = .returned (.int .i64 ((sclOf tag b : Nat) : Int)) ∧ Below w.heap.size w w' := rScalar_any tag v b _ w hv ht hn (Lib.hid rfl)
set_option maxRecDepth 100000 in
theorem scalar_any (tag : ByteArray) (gp N : Nat) (vs : List Value) (ls : List (List UInt8)) (w : World) (hc : Cells w ⟨gp, 0, none⟩ vs) (hgp : gp < w.heap.size) (hN : N = ls.length)
    (hparts : ∀ k, k < N → ∃ v l, vs[k]? = some v ∧ ls[k]? = some l ∧ BS w v l) (h0 : 0 < ls.flatten.length) (hn : ls.flatten.length ≤ 70368744000000) (hN2 : N ≤ 1000) (hk : Konst w) (ht : tag.size ≤ 1000000000) :
    Calls Tryd.prog 52 #[.string tag, .slice (some ⟨gp, 0, none⟩) N N] w fun e w' => e = .returned (.int .i64 ((sclOf tag ls.flatten : Nat) : Int)) ∧ Below w.heap.size w w' := by
  have HCA := Lib.hid (concats_any w gp N vs ls hc hgp hN hparts h0 (by omega) hN2)
  have HK := Lib.hid hk; have HT := Lib.hid ht; have HN := Lib.hid hn
  clear hparts hc hn h0 hN hN2 hk ht hgp
  go_enter Tryd.func52, Tryd.ntmps52
  go_wp2_with fail
  refine HCA.out.mono ?_
  rintro e w1 ⟨v, rfl, hv, h1⟩
  go_wp2_with fail
  refine (sclr tag v _ _ hv (HK.out.ups h1) HT.out HN.out).mono ?_
  rintro e w2 ⟨rfl, h2⟩
  have hB := below_tr h1 h2
  clear hv h1 h2 HCA
  go_wp2
  go_ret
  exact ⟨rfl, hB⟩
set_option maxRecDepth 100000 in
theorem nonce_any (x : Int) (v : Value) (m : List UInt8) (w : World) (hv : BS w v m) (hk : Konst w) (hn : m.length ≤ 1000000000) :
    Calls Tryd.prog 44 #[.int .i64 x, v] w fun e w' => e = .returned (.int .i64 ((nonc x m : Nat) : Int)) ∧ Below w.heap.size w w' := by
  obtain ⟨p, c, rfl⟩ := hv.form
  have HV := Lib.hid hv; have HK := Lib.hid hk; have HN := Lib.hid hn
  obtain ⟨ln, hln⟩ : ∃ ln, ln = m.length := ⟨_, rfl⟩
  rw [← hln] at HV ⊢
  clear hv hk hn hln
  go_enter Tryd.func44, Tryd.ntmps44
  go_wp2_with fail
  refine (eight_any x _).mono ?_
  rintro e w1 ⟨rfl, hb1, h1⟩
  have H1 := Lib.hid hb1; have B1 := Lib.hid h1; clear hb1 h1
  go_wp2_with fail
  refine calls_alloc (zs := [.slice (some ⟨w.heap.size, 0, none⟩) 8 8, .slice p ln c]) ?_
  intro W hc hf hb hs
  have e1 := H1.out.ups hb
  have e2 := (HV.out.ups B1.out).ups hb
  refine (scalar_any nonceT w1.heap.size 2 _ [w8 x, m] W hc (by omega) rfl ?_ (by simp [w8_length]; omega) (by have := HN.out; simp [w8_length]; omega) (by omega) ((HK.out.ups B1.out).ups hb) (by decide)).mono ?_
  · intro k hk
    rcases (by omega : k = 0 ∨ k = 1) with rfl | rfl
    · exact ⟨_, _, rfl, rfl, e1⟩
    · exact ⟨_, _, rfl, rfl, e2⟩
  · rintro e w2 ⟨rfl, h2⟩
    have hB := below_tr (below_tr B1.out hb) h2
    have E : ([w8 x, m] : List (List UInt8)).flatten = w8 x ++ m := by simp
    rw [E]
    clear hc hf hb hs e1 e2 h2 E
    go_wp2
    go_ret
    exact ⟨rfl, hB⟩
set_option maxRecDepth 100000 in
theorem challenge_any (pub r : Int) (v : Value) (m : List UInt8) (w : World) (hv : BS w v m) (hk : Konst w) (hn : m.length ≤ 1000000000) :
    Calls Tryd.prog 45 #[.int .i64 pub, .int .i64 r, v] w fun e w' => e = .returned (.int .i64 ((chal pub r m : Nat) : Int)) ∧ Below w.heap.size w w' := by
  obtain ⟨p, c, rfl⟩ := hv.form
  have HV := Lib.hid hv; have HK := Lib.hid hk; have HN := Lib.hid hn
  obtain ⟨ln, hln⟩ : ∃ ln, ln = m.length := ⟨_, rfl⟩
  rw [← hln] at HV ⊢
  clear hv hk hn hln
  go_enter Tryd.func45, Tryd.ntmps45
  go_wp2_with fail
  refine (eight_any r _).mono ?_
  rintro e w1 ⟨rfl, hb1, h1⟩
  have H1 := Lib.hid hb1; have B1 := Lib.hid h1; clear hb1 h1
  go_wp2_with fail
  refine (eight_any pub _).mono ?_
  rintro e w2 ⟨rfl, hb2, h2⟩
  have H2 := Lib.hid hb2; have B2 := Lib.hid (below_tr B1.out h2); have H1' := Lib.hid (H1.out.ups h2); clear hb2 h2 H1
  go_wp2_with fail
  refine calls_alloc (zs := [.slice (some ⟨w.heap.size, 0, none⟩) 8 8, .slice (some ⟨w1.heap.size, 0, none⟩) 8 8, .slice p ln c]) ?_
  intro W hc hf hb hs
  have e1 := H1'.out.ups hb
  have e2 := H2.out.ups hb
  have e3 := (HV.out.ups B2.out).ups hb
  refine (scalar_any signT w2.heap.size 3 _ [w8 r, w8 pub, m] W hc (by omega) rfl ?_ (by simp [w8_length]; omega) (by have := HN.out; simp [w8_length]; omega) (by omega) ((HK.out.ups B2.out).ups hb) (by decide)).mono ?_
  · intro k hk
    rcases (by omega : k = 0 ∨ k = 1 ∨ k = 2) with rfl | rfl | rfl
    · exact ⟨_, _, rfl, rfl, e1⟩
    · exact ⟨_, _, rfl, rfl, e2⟩
    · exact ⟨_, _, rfl, rfl, e3⟩
  · rintro e w3 ⟨rfl, h3⟩
    have hB := below_tr (below_tr B2.out hb) h3
    have E : ([w8 r, w8 pub, m] : List (List UInt8)).flatten = w8 r ++ w8 pub ++ m := by simp
    rw [E]
    clear hc hf hb hs e1 e2 e3 h3 E
    go_wp2
    go_ret
    exact ⟨rfl, hB⟩
end Go.Proofs.YtaoehkoffhnidaaDoor
namespace Go.Proofs.YtaoehkoffhnidaaDoor
open Go.RowKit Go
open Dg (Konst BS OB w8 w8_length Cells concats_any eight_any number_any rBytes_any calls_alloc append_ob below_al wpList_append_run tagd)
set_option linter.unusedVariables false
set_option maxRecDepth 20000
set_option linter.unusedSimpArgs false
set_option maxRecDepth 100000 in
theorem lchal_any (pub r : Int) (v : Value) (m : List UInt8) (w : World) (hv : BS w v m) (hk : Konst w) (hn : m.length ≤ 90000000) :
    Calls Tryd.prog 25 #[.int .i64 pub, .int .i64 r, v] w fun e w' => e = .returned (.int .i64 ((chal pub r m : Nat) : Int)) ∧ Below w.heap.size w w' := by
  obtain ⟨p, c, rfl⟩ := hv.form
  have HV := Lib.hid hv; have HK := Lib.hid hk; have HN := Lib.hid hn
  obtain ⟨ln, hln⟩ : ∃ ln, ln = m.length := ⟨_, rfl⟩
  rw [← hln] at HV ⊢
  clear hv hk hn hln
  go_enter Tryd.func25, Tryd.ntmps25
  go_wp2_with fail
  refine (number_any r _).mono ?_
  rintro e w1 ⟨u1, rfl, hb1, h1⟩
  have H1 := Lib.hid hb1; have B1 := Lib.hid h1; clear hb1 h1
  go_wp2_with fail
  refine (number_any pub _).mono ?_
  rintro e w2 ⟨u2, rfl, hb2, h2⟩
  have ob1 := H1.out.ups h2
  have B2 := Lib.hid (below_tr B1.out h2)
  obtain ⟨u3, w3, r3, ob3, b3⟩ := append_ob ob1 (hb2.bs (by rw [w8_length]; omega)) (by simp [w8_length]) B2.out.size
  have B3 := Lib.hid (B2.out.trans b3)
  obtain ⟨u4, w4, r4, ob4, b4⟩ := append_ob ob3 (HV.out.ups B3.out) (by have := HN.out; simp [w8_length]; omega) B3.out.size
  have B4 := Lib.hid (B3.out.trans b4)
  have R3 := Lib.hid r3; have R4 := Lib.hid r4; have O4 := Lib.hid ob4
  clear ob1 h2 hb2 r3 ob3 b3 r4 ob4 b4 H1
  go_wp2_with (at_builtin; first | (refine wpList_append_run rfl (.tmp 8) (.tmp 10) 22 22 rfl _ _ _ rfl rfl R3.out ?_) | (refine wpList_append_run rfl (.tmp 11) (.tmp 12) 22 22 rfl _ _ _ rfl rfl R4.out ?_))
  refine (sclr signT u4 _ w4 (O4.out.bs (by simp [w8_length]; omega)) (HK.out.ups B4.out) (by decide) (by have := HN.out; simp [w8_length]; omega)).mono ?_
  rintro e w5 ⟨rfl, h5⟩
  have hB := below_tr B4.out h5
  clear h5
  go_wp2
  go_ret
  exact ⟨rfl, hB⟩
set_option maxRecDepth 100000 in
theorem rchal_any (pub r : Int) (v : Value) (m : List UInt8) (w : World) (hv : BS w v m) (hn : m.length ≤ 90000000) :
    Calls Tryd.prog 50 #[.int .i64 pub, .int .i64 r, v] w fun e w' => e = .returned (.int .i64 ((chal pub r m : Nat) : Int)) ∧ Below w.heap.size w w' := by
  obtain ⟨p, c, rfl⟩ := hv.form
  have HV := Lib.hid hv; have HN := Lib.hid hn
  obtain ⟨ln, hln⟩ : ∃ ln, ln = m.length := ⟨_, rfl⟩
  rw [← hln] at HV ⊢
  clear hv hn hln
  go_enter Tryd.func50, Tryd.ntmps50
  go_wp2_with fail
  refine (rBytes_any r _).mono ?_
  rintro e w1 ⟨u1, rfl, hb1, h1⟩
  have H1 := Lib.hid hb1; have B1 := Lib.hid h1; clear hb1 h1
  go_wp2_with fail
  refine (rBytes_any pub _).mono ?_
  rintro e w2 ⟨u2, rfl, hb2, h2⟩
  have ob1 := H1.out.ups h2
  have B2 := Lib.hid (below_tr B1.out h2)
  obtain ⟨u3, w3, r3, ob3, b3⟩ := append_ob ob1 (hb2.bs (by rw [w8_length]; omega)) (by simp [w8_length]) B2.out.size
  have B3 := Lib.hid (B2.out.trans b3)
  obtain ⟨u4, w4, r4, ob4, b4⟩ := append_ob ob3 (HV.out.ups B3.out) (by have := HN.out; simp [w8_length]; omega) B3.out.size
  have B4 := Lib.hid (B3.out.trans b4)
  have R3 := Lib.hid r3; have R4 := Lib.hid r4; have O4 := Lib.hid ob4
  clear ob1 h2 hb2 r3 ob3 b3 r4 ob4 b4 H1
  go_wp2_with (at_builtin; first | (refine wpList_append_run rfl (.tmp 8) (.tmp 10) 22 22 rfl _ _ _ rfl rfl R3.out ?_) | (refine wpList_append_run rfl (.tmp 11) (.tmp 12) 22 22 rfl _ _ _ rfl rfl R4.out ?_))
  refine (rsclr signT u4 _ w4 (O4.out.bs (by simp [w8_length]; omega)) (by decide) (by have := HN.out; simp [w8_length]; omega)).mono ?_
  rintro e w5 ⟨rfl, h5⟩
  have hB := below_tr B4.out h5
  clear h5
  go_wp2
  go_ret
  exact ⟨rfl, hB⟩
end Go.Proofs.YtaoehkoffhnidaaDoor
namespace Go.Proofs.YtaoehkoffhnidaaDoor
open Go.RowKit Go
set_option linter.unusedVariables false
set_option maxRecDepth 20000
set_option linter.unusedSimpArgs false
/-- a private key -/
def Pk1 (x : Int) : Bool := decide (0 < x) && decide (x < 2305843009213688669)
theorem isPositive_any (x : Int) (b : Bool) (hb : decide (0 < x) = b) (w : World) : Calls Tryd.prog 78 #[.int .i64 x] w fun e w' => e = .returned (.bool b) ∧ w = w' := by
  go_enter Tryd.func78, Tryd.ntmps78
  go_wp2
  go_ret
  exact ⟨by subst hb; rfl, rfl⟩
theorem isBelowQ_any (x : Int) (b : Bool) (hb : decide (x < 2305843009213688669) = b) (w : World) : Calls Tryd.prog 79 #[.int .i64 x] w fun e w' => e = .returned (.bool b) ∧ w = w' := by
  go_enter Tryd.func79, Tryd.ntmps79
  go_wp2
  go_ret
  exact ⟨by subst hb; rfl, rfl⟩
theorem run_index_fn {P : Program} (w : World) (t e : TypeId) (n : Nat) (cs : Array Value) (k : IntKind) (i : Int) (v : Value) {d : TypeDesc} (h : P.underlying t = some (.array n e)) (he : P.underlying e = some d) (hd : ∀ w : World, (isAgg e).run P w = .ok false w) (hs : (P.info? e).map (·.size) = some 1)
    (h0 : 0 ≤ i) (hi : i.toNat < n) (hv : cs[i.toNat]? = some v) : (Instr.index t (.agg cs) (.int k i)).run P w = .ok v w := by
  obtain ⟨i, rfl⟩ := Int.eq_ofNat_of_zero_le h0
  cases hq : P.info? e with
  | none => simp [hq] at hs
  | some ti =>
    have hs1 : ti.size = 1 := by simpa [hq] using hs
    have hlt : (0 : Int) ≤ (i : Int) ∧ (i : Int) < (n : Int) := by simp at hi; omega
    simp [Instr.index, asIntOf, run_underlying h, sizeOf, typeInfo, hq, hs1, part, Sem.run_bind, hd w, hv, hi]
    simp at hi hv
    simp [hv, hi]
set_option maxRecDepth 100000 in
theorem isPrivate_any (x : Int) (b : Bool) (hb : Hid (Pk1 x = b)) (w : World) : Calls Tryd.prog 41 #[.int .i64 x] w fun e w' => e = .returned (.bool b) ∧ w = w' := by
  have hag : ∀ w : World, (isAgg 23).run Tryd.prog w = .ok false w := fun w => by
    unfold isAgg
    rw [Sem.run_bind, run_underlying Tryd.underlying23 w]
    simp
  have i0 : ∀ w : World, (Instr.index 75 (.agg #[.func (Fn.func 78) #[.int .i64 x] #[], .func (Fn.func 79) #[.int .i64 x] #[]]) (.int .i64 0)).run Tryd.prog w = .ok (.func (Fn.func 78) #[.int .i64 x] #[]) w := fun w =>
    run_index_fn w 75 23 2 _ .i64 0 _ Tryd.underlying75 Tryd.underlying23 hag (by kernel_rfl) (by omega) (by decide) rfl
  have i1 : ∀ w : World, (Instr.index 75 (.agg #[.func (Fn.func 78) #[.int .i64 x] #[], .func (Fn.func 79) #[.int .i64 x] #[]]) (.int .i64 1)).run Tryd.prog w = .ok (.func (Fn.func 79) #[.int .i64 x] #[]) w := fun w =>
    run_index_fn w 75 23 2 _ .i64 1 _ Tryd.underlying75 Tryd.underlying23 hag (by kernel_rfl) (by omega) (by decide) rfl
  go_enter Tryd.func41, Tryd.ntmps41
  go_wp2
  go_loop [10] (fun i => (i = .int .i64 0) ∨ (i = .int .i64 1 ∧ 0 < x) ∨ (i = .int .i64 2 ∧ 0 < x ∧ x < 2305843009213688669)) (fun i => 2 - (RowKit.intOf i).toNat)
  case atStart => exact .inl rfl
  case round =>
    rcases hrel with rfl | ⟨rfl, h1⟩ | ⟨rfl, h1, h2⟩
    · by_cases h1 : 0 < x
      · have hd : decide (0 < x) = true := by simp [h1]
        go_wp2_with fail
        refine (isPositive_any x true hd _).mono ?_
        rintro e w1 ⟨rfl, rfl⟩
        go_wp2
        go_round
        case rel => exact .inr (.inl ⟨rfl, h1⟩)
        case measure => simp [RowKit.intOf]
      · have hd : decide (0 < x) = false := by simp; omega
        have hbf : b = false := by have := hb.out; rw [← this, Pk1, hd]; rfl
        subst hbf
        go_wp2_with fail
        refine (isPositive_any x false hd _).mono ?_
        rintro e w1 ⟨rfl, rfl⟩
        go_wp2
        go_ret
        exact ⟨rfl, rfl⟩
    · by_cases h2 : x < 2305843009213688669
      · have hd : decide (x < 2305843009213688669) = true := by simp [h2]
        go_wp2_with fail
        refine (isBelowQ_any x true hd _).mono ?_
        rintro e w1 ⟨rfl, rfl⟩
        go_wp2
        go_round
        case rel => exact .inr (.inr ⟨rfl, h1, h2⟩)
        case measure => simp [RowKit.intOf]
      · have hd : decide (x < 2305843009213688669) = false := by simp; omega
        have hbf : b = false := by have := hb.out; rw [← this, Pk1, hd]; simp
        subst hbf
        go_wp2_with fail
        refine (isBelowQ_any x false hd _).mono ?_
        rintro e w1 ⟨rfl, rfl⟩
        go_wp2
        go_ret
        exact ⟨rfl, rfl⟩
    · have hbf : b = true := by have := hb.out; rw [← this, Pk1, decide_eq_true h1, decide_eq_true h2]; rfl
      subst hbf
      clear hb h1 h2
      go_wp2
      go_ret
      exact ⟨rfl, rfl⟩
end Go.Proofs.YtaoehkoffhnidaaDoor
namespace Go.Proofs.YtaoehkoffhnidaaDoor
open Go.RowKit Go
set_option linter.unusedVariables false
set_option maxRecDepth 20000
set_option linter.unusedSimpArgs false
theorem el_or (a : Int) : (∃ n : Nat, a = (n : Int) ∧ Hid (El n)) ∨ Hid (Ne a) := by
  by_cases h : ∃ n : Nat, a = (n : Int) ∧ El n
  · obtain ⟨n, h1, h2⟩ := h; exact .inl ⟨n, h1, Lib.hid h2⟩
  · exact .inr (Lib.hid fun n e hn => h ⟨n, e, hn⟩)
theorem sc_or (a : Int) : (∃ n : Nat, a = (n : Int) ∧ Hid (Sc n)) ∨ Hid (Ns a) := by
  by_cases h : ∃ n : Nat, a = (n : Int) ∧ Sc n
  · obtain ⟨n, h1, h2⟩ := h; exact .inl ⟨n, h1, Lib.hid h2⟩
  · exact .inr (Lib.hid fun n e hn => h ⟨n, e, hn⟩)
theorem mulr (a b c : Nat) (ha : Hid (El a)) (hb : Hid (El b)) (hc : Hid (a * b % 4611686018427377339 = c)) (w : World) : Calls Tryd.prog 26 #[.int .i64 (a : Int), .int .i64 (b : Int)] w fun e w' => e = pz (c : Int) 0 ∧ Below w.heap.size w w' := by
  have := Mul_ok a b ha hb w; rwa [hc.out] at this
theorem expr (a k c : Nat) (ha : Hid (El a)) (hk : Hid (Sc k)) (hc : Hid (mp 4611686018427377339 a k = c)) (w : World) : Calls Tryd.prog 24 #[.int .i64 (a : Int), .int .i64 (k : Int)] w fun e w' => e = pz (c : Int) 0 ∧ Below w.heap.size w w' := by
  have := Exp_ok a k ha hk w; rwa [hc.out] at this
theorem invr (a c : Nat) (ha : Hid (El a)) (hc : Hid (mp 4611686018427377339 a 2305843009213688668 = c)) (w : World) : Calls Tryd.prog 28 #[.int .i64 (a : Int)] w fun e w' => e = pz (c : Int) 0 ∧ Below w.heap.size w w' := by
  have := Inv_ok a ha w; rwa [hc.out] at this
theorem sumr (a b c : Nat) (ha : Hid (Sc a)) (hb : Hid (Sc b)) (hc : Hid ((a + b) % 2305843009213688669 = c)) (w : World) : Calls Tryd.prog 46 #[.int .i64 (a : Int), .int .i64 (b : Int)] w fun e w' => e = pz (c : Int) 0 ∧ Below w.heap.size w w' := by
  have := Sum_ok a b ha hb w; rwa [hc.out] at this
theorem prodr (a b c : Nat) (ha : Hid (Sc a)) (hb : Hid (Sc b)) (hc : Hid (a * b % 2305843009213688669 = c)) (w : World) : Calls Tryd.prog 29 #[.int .i64 (a : Int), .int .i64 (b : Int)] w fun e w' => e = pz (c : Int) 0 ∧ Below w.heap.size w w' := by
  have := Product_ok a b ha hb w; rwa [hc.out] at this
theorem baser (k c : Nat) (hk : Hid (Sc k)) (hc : Hid (mp 4611686018427377339 4 k = c)) (w : World) : Calls Tryd.prog 23 #[.int .i64 (k : Int)] w fun e w' => e = pz (c : Int) 0 ∧ Below w.heap.size w w' := by
  have := Base_ok k hk w; rwa [hc.out] at this
theorem rmulr (a b c : Nat) (ha : Hid (El a)) (hb : Hid (El b)) (hc : Hid (a * b % 4611686018427377339 = c)) (w : World) : Calls Tryd.prog 56 #[.int .i64 (a : Int), .int .i64 (b : Int)] w fun e w' => e = pz (c : Int) 0 ∧ w = w' := by
  have := rMul_ok a b ha hb w; rwa [hc.out] at this
theorem rexpr (a k c : Nat) (ha : Hid (El a)) (hk : Hid (Sc k)) (hc : Hid (mp 4611686018427377339 a k = c)) (w : World) : Calls Tryd.prog 55 #[.int .i64 (a : Int), .int .i64 (k : Int)] w fun e w' => e = pz (c : Int) 0 ∧ w = w' := by
  have := rExp_ok a k ha hk w; rwa [hc.out] at this
theorem rsumr (a b c : Nat) (ha : Hid (Sc a)) (hb : Hid (Sc b)) (hc : Hid ((a + b) % 2305843009213688669 = c)) (w : World) : Calls Tryd.prog 51 #[.int .i64 (a : Int), .int .i64 (b : Int)] w fun e w' => e = pz (c : Int) 0 ∧ w = w' := by
  have := rSum_ok a b ha hb w; rwa [hc.out] at this
theorem rprodr (a b c : Nat) (ha : Hid (Sc a)) (hb : Hid (Sc b)) (hc : Hid (a * b % 2305843009213688669 = c)) (w : World) : Calls Tryd.prog 49 #[.int .i64 (a : Int), .int .i64 (b : Int)] w fun e w' => e = pz (c : Int) 0 ∧ w = w' := by
  have := rProduct_ok a b ha hb w; rwa [hc.out] at this
theorem rbaser (k c : Nat) (hk : Hid (Sc k)) (hc : Hid (mp 4611686018427377339 4 k = c)) (w : World) : Calls Tryd.prog 43 #[.int .i64 (k : Int)] w fun e w' => e = pz (c : Int) 0 ∧ w = w' := by
  have := rBase_ok k hk w; rwa [hc.out] at this
/-- private keys -/
def PrK (x : Nat) : Prop := 1 ≤ x ∧ x < 2305843009213688669
theorem PrK.sc {x : Nat} (h : PrK x) : Hid (Sc x) := h.2
theorem pk1_ok {x : Nat} (h : PrK x) : Pk1 (x : Int) = true := by
  unfold Pk1; unfold PrK at h; rw [decide_eq_true (by omega), decide_eq_true (by omega)]; rfl
theorem pk_or (x : Int) : (∃ n : Nat, x = (n : Int) ∧ Hid (PrK n)) ∨ Hid (Pk1 x = false) := by
  by_cases h : 0 < x ∧ x < 2305843009213688669
  · obtain ⟨n, rfl⟩ := Int.eq_ofNat_of_zero_le (by omega : 0 ≤ x)
    exact .inl ⟨n, rfl, Lib.hid ⟨by omega, by omega⟩⟩
  · refine .inr (Lib.hid ?_)
    unfold Pk1
    by_cases h1 : 0 < x
    · rw [decide_eq_false (show ¬ x < 2305843009213688669 by omega)]; simp
    · rw [decide_eq_false h1]; rfl
theorem Public_ok (x c : Nat) (h : Hid (PrK x)) (hc : Hid (mp 4611686018427377339 4 x = c)) (w : World) : Calls Tryd.prog 14 #[.int .i64 (x : Int)] w fun e w' => e = pz (c : Int) 0 ∧ Below w.heap.size w w' := by
  go_enter Tryd.func14, Tryd.ntmps14
  go_wp2_with fail
  refine (isPrivate_any x true (Lib.hid (pk1_ok h.out)) _).mono ?_
  rintro e w1 ⟨rfl, rfl⟩
  go_wp2_with fail
  refine (baser x c h.out.sc hc _).mono ?_
  unfold pz
  rintro e w1 ⟨rfl, h1⟩
  go_wp2
  go_ret2
  exact ⟨rfl, h1⟩
theorem Public_bad (x : Int) (h : Hid (Pk1 x = false)) (w : World) : Calls Tryd.prog 14 #[.int .i64 x] w fun e w' => e = pz 0 40 ∧ w = w' := by
  go_enter Tryd.func14, Tryd.ntmps14
  go_wp2_with fail
  refine (isPrivate_any x false h _).mono ?_
  rintro e w1 ⟨rfl, rfl⟩
  go_wp2
  go_ret2
  exact ⟨rfl, rfl⟩
theorem rIsPrivate_any (x : Int) (b : Bool) (hb : Hid (Pk1 x = b)) (w : World) : Calls Tryd.prog 42 #[.int .i64 x] w fun e w' => e = .returned (.bool b) ∧ w = w' := by
  have hb := hb.out
  unfold Pk1 at hb
  by_cases h1 : 0 < x
  · have d1 : decide (1 ≤ x) = true := by simp; omega
    have d3 : 1 ≤ x := by omega
    rw [decide_eq_true h1, Bool.true_and] at hb
    have HB := Lib.hid hb; clear hb h1
    go_enter Tryd.func42, Tryd.ntmps42
    go_wp2
    go_ret
    exact ⟨by rw [← HB.out]; rfl, rfl⟩
  · have d1 : decide (1 ≤ x) = false := by simp; omega
    have d3 : ¬ 1 ≤ x := by omega
    rw [decide_eq_false h1, Bool.false_and] at hb
    subst hb
    clear h1
    go_enter Tryd.func42, Tryd.ntmps42
    go_wp2
    go_ret
    exact ⟨rfl, rfl⟩
theorem rPublic_ok (x c : Nat) (h : Hid (PrK x)) (hc : Hid (mp 4611686018427377339 4 x = c)) (w : World) : Calls Tryd.prog 15 #[.int .i64 (x : Int)] w fun e w' => e = pz (c : Int) 0 ∧ w = w' := by
  go_enter Tryd.func15, Tryd.ntmps15
  go_wp2_with fail
  refine (rIsPrivate_any x true (Lib.hid (pk1_ok h.out)) _).mono ?_
  rintro e w1 ⟨rfl, rfl⟩
  go_wp2_with fail
  refine (rbaser x c h.out.sc hc _).mono ?_
  unfold pz
  rintro e w1 ⟨rfl, rfl⟩
  go_wp2
  go_ret2
  exact ⟨rfl, rfl⟩
theorem rPublic_bad (x : Int) (h : Hid (Pk1 x = false)) (w : World) : Calls Tryd.prog 15 #[.int .i64 x] w fun e w' => e = pz 0 40 ∧ w = w' := by
  go_enter Tryd.func15, Tryd.ntmps15
  go_wp2_with fail
  refine (rIsPrivate_any x false h _).mono ?_
  rintro e w1 ⟨rfl, rfl⟩
  go_wp2
  go_ret2
  exact ⟨rfl, rfl⟩
theorem i64_and62 (n : Int) : bits .and .i64 n 4611686018427387903 = n % 4611686018427387904 := by
  have h62 : (BitVec.ofInt 64 4611686018427387903).toNat = 2 ^ 62 - 1 := by decide
  have key : (BitVec.ofInt 64 n &&& BitVec.ofInt 64 4611686018427387903).toNat = (n % ((2 ^ 64 : Nat) : Int)).toNat % 2 ^ 62 := by
    rw [BitVec.toNat_and, BitVec.toNat_ofInt, h62, Nat.and_two_pow_sub_one_eq_mod]
  show IntKind.i64.wrap ((BitVec.ofInt 64 n &&& BitVec.ofInt 64 4611686018427387903).toNat : Nat) = n % 4611686018427387904
  rw [key, IntKind.wrap_i64]
  omega
/-- the private key that a number stands for -/
def keyN (n : Int) : Nat := 1 + (n % 4611686018427387904 % 2305843009213688668).toNat
theorem keyN_pk (n : Int) : Hid (PrK (keyN n)) := Lib.hid (by unfold PrK keyN; omega)
set_option maxRecDepth 100000 in
theorem Key_any (n : Int) (k : Nat) (hk : Hid (keyN n = k)) (w : World) : Calls Tryd.prog 13 #[.int .i64 n] w fun e w' => e = .returned (.int .i64 (k : Int)) ∧ w = w' := by
  have h1 : 0 ≤ n % 4611686018427387904 := by omega
  have h2 : n % 4611686018427387904 < 4611686018427387904 := by omega
  have hk := hk.out
  obtain ⟨z, hz⟩ : ∃ z, z = n % 4611686018427387904 := ⟨_, rfl⟩
  have e1 : bits .and .i64 n 4611686018427387903 = z := by rw [i64_and62, hz]
  unfold keyN at hk
  rw [← hz] at h1 h2 hk
  obtain ⟨y, hy⟩ : ∃ y, y = z % 2305843009213688668 := ⟨_, rfl⟩
  have y1 : 0 ≤ y := by omega
  have y2 : y < 2305843009213688668 := by omega
  have e2 : z % 2305843009213688668 = y := hy.symm
  have e3 : 1 + y = (k : Int) := by omega
  have E3 := Lib.hid e3; clear e3 hz hk hy
  go_enter Tryd.func13, Tryd.ntmps13
  go_wp2
  go_ret
  exact ⟨ret_int E3.out, rfl⟩
set_option maxRecDepth 100000 in
/-- the law's difference of scalars -/
theorem minus_any (a b n c : Nat) (ha : Hid (Sc a)) (hb : Hid (Sc b)) (hn : Hid (2305843009213688668 * b % 2305843009213688669 = n)) (hc : Hid ((a + n) % 2305843009213688669 = c)) (w : World) :
    Calls Tryd.prog 27 #[.int .i64 (a : Int), .int .i64 (b : Int)] w fun e w' => e = pz (c : Int) 0 ∧ Below w.heap.size w w' := by
  have hq : Hid (Sc 2305843009213688668) := Lib.hid (by unfold Sc; omega)
  have hsn : Hid (Sc n) := Lib.hid (by rw [← hn.out]; exact Nat.mod_lt _ (by decide))
  go_enter Tryd.func27, Tryd.ntmps27
  go_wp2_with fail
  refine (prodr 2305843009213688668 b n hq hb hn _).mono ?_
  unfold pz
  rintro e w1 ⟨rfl, h1⟩
  go_wp2_with fail
  refine (sumr a n c ha hsn hc _).mono ?_
  unfold pz
  rintro e w2 ⟨rfl, h2⟩
  have hB := below_tr h1 h2
  clear h1 h2
  go_wp2
  go_ret2
  exact ⟨rfl, hB⟩
end Go.Proofs.YtaoehkoffhnidaaDoor

/- The reference of layer 2: the padded bytes. -/
import Derived.Test.YtaoehkoffhnidaaDoorRC
import Derived.Test.YtaoehkoffhnidaaDoorDOb
namespace Go.Proofs.YtaoehkoffhnidaaDoor.Dg
open Go.RowKit Go
set_option linter.unusedVariables false
set_option maxRecDepth 20000
set_option linter.unusedSimpArgs false
/-- one byte is appended -/
theorem push_ob {w : World} {base : Nat} {v : Value} {L : List UInt8} (c : UInt8) (x : Int) (hx : x = (c.toNat : Int)) (h : OB w base v L) (hL : L.length ≤ 70368743000000) (hb : base ≤ w.heap.size) :
    ∃ v' w', (Builtin.append_ #[22, 22] 22 #[v, .slice (some ⟨w.heap.size, 0, none⟩) 1 1]).run Tryd.prog (w.alloc (.cells #[.int .u8 x] 5)) = .ok v' w' ∧ OB w' base v' (L ++ [c]) ∧ Below base w w' := by
  subst hx
  have hal : Below w.heap.size w (w.alloc (.cells #[.int .u8 (c.toNat : Int)] 5)) := below_al _ _
  have hbs : BS (w.alloc (.cells #[.int .u8 (c.toNat : Int)] 5)) (.slice (some ⟨w.heap.size, 0, none⟩) 1 1) [c] :=
    .inr ⟨⟨w.heap.size, 0, none⟩, 1, rfl, Nat.le_refl _, by unfold maxLen; omega, cells_alloc w ([c].map vb) 5, by simp⟩
  obtain ⟨v', w', h1, h2, h3⟩ := append_ob (h.ups hal) hbs (by simp; omega) (Nat.le_trans hb hal.size)
  exact ⟨v', w', h1, h2, ((hal.mono hb).trans h3)⟩
theorem OB.form {w : World} {base : Nat} {v : Value} {L : List UInt8} (h : OB w base v L) (h0 : 0 < L.length) : ∃ p cap, v = .slice p L.length cap := (h.bs h0).form
theorem zs_snoc (j : Nat) : List.replicate j (0 : UInt8) ++ [0] = List.replicate (j + 1) 0 := by rw [List.replicate_succ']
theorem be8_snoc (c k : Nat) (h : k < 8) : (be8 c).take k ++ [UInt8.ofNat (c >>> (8 * (7 - k)))] = (be8 c).take (k + 1) := by
  rw [List.take_add_one]
  congr 1
  unfold be8
  simp [List.getElem?_map, List.getElem?_range h]
/-- a slice's length -/
def slen : Value → Nat
  | .slice _ n _ => n
  | _ => 0
/-- the first k of the padded bytes behind b, 128 and z zeros -/
def pz (b : List UInt8) (z k : Nat) : List UInt8 := b ++ 128 :: (List.replicate z 0 ++ (be8 (8 * b.length)).take k)
theorem pz_len (b : List UInt8) (z k : Nat) (hk : k ≤ 8) : (pz b z k).length = b.length + 1 + z + k := by
  unfold pz; simp [be8_length]; omega
theorem pz_zero (b : List UInt8) (z : Nat) : pz b z 0 ++ [0] = pz b (z + 1) 0 := by
  unfold pz; simp [← zs_snoc]
theorem pz_next (b : List UInt8) (z k : Nat) (h : k < 8) : pz b z k ++ [UInt8.ofNat ((8 * b.length) >>> (8 * (7 - k)))] = pz b z (k + 1) := by
  unfold pz
  rw [← be8_snoc _ _ h]; simp
theorem pz_all (b : List UInt8) : pz b ((119 - b.length % 64) % 64) 8 = pad b := by
  unfold pz pad tail
  rw [List.take_of_length_le (by rw [be8_length]; omega)]
set_option maxRecDepth 100000 in
set_option maxHeartbeats 4000000 in
theorem rpad_any (v : Value) (b : List UInt8) (w : World) (hv : BS w v b) (hn : b.length ≤ 1000000000) :
   Calls Tryd.prog 103 #[v] w fun e w' => ∃ u, e = .returned u ∧ OB w' w.heap.size u (pad b) ∧ Below w.heap.size w w' := by
  obtain ⟨p, cap, rfl⟩ := hv.form
  have hal : Below w.heap.size w (w.alloc (.cells #[] 5)) := below_al _ _
  obtain ⟨v1, w1, hr1, ho1, hb1⟩ := append_ob (w := w.alloc (.cells #[] 5)) (base := w.heap.size) (v := .slice (some ⟨w.heap.size, 0, none⟩) 0 0) (l := []) (.inr ⟨rfl, _, rfl⟩) (hv.ups hal) (by simp; omega) hal.size
  rw [List.nil_append] at ho1
  obtain ⟨v2, w2, hr2, ho2, hb2⟩ := push_ob 128 128 (by decide) ho1 (by omega) (Nat.le_trans hal.size hb1.size)
  have hB2 := hid ((hal.trans hb1).trans hb2)
  have hp0 : b ++ [128] = pz b 0 0 := by unfold pz; simp
  rw [hp0] at ho2
  have HN := hid hn
  obtain ⟨len, hln⟩ : ∃ len, len = b.length := ⟨_, rfl⟩
  rw [← hln] at hr1 ⊢
  have HL := hid hln
  have H1 := hid hr1; have H2 := hid hr2; have HO := hid ho2
  clear hln hn hv hr1 hr2 ho2 hb1 hb2 ho1 hal hp0
  go_enter Tryd.func103, Tryd.ntmps103
  go_wp2_with (at_builtin; first | (refine wpList_append_run rfl (.tmp 6) (.tmp 7) 22 22 rfl _ _ _ rfl rfl H1.out ?_) | (refine wpList_append_run rfl (.tmp 8) (.tmp 9) 22 22 rfl _ _ _ rfl rfl H2.out ?_))
  obtain ⟨Z, hZ⟩ : ∃ Z, Z = (119 - len % 64) % 64 := ⟨_, rfl⟩
  have hZ1 : Z < 64 := by omega
  clear H1 H2
  go_loopw [3] (fun s3 wr => ∃ z : Nat, z ≤ Z ∧ OB wr w.heap.size s3 (pz b z 0) ∧ Hid (Below w.heap.size w wr)) (fun s3 _ => len + 130 - slen s3)
  case atStart => exact ⟨0, Nat.zero_le _, HO.out, hB2⟩
  case round =>
    obtain ⟨z, hz, ho, hB⟩ := hrel
    have hl := pz_len b z 0 (by omega)
    obtain ⟨p3, c3, rfl⟩ := ho.form (by omega)
    obtain ⟨n, hn⟩ : ∃ n, n = (pz b z 0).length := ⟨_, rfl⟩
    have hnl : n = len + 1 + z := by rw [hn, hl, ← HL.out]; omega
    rw [← hn] at ho ⊢
    have hlen : len ≤ 1000000000 := by rw [HL.out]; exact HN.out
    by_cases hlt : z < Z
    · have hd : ((n : Int) % 64 != 56) = true := by simp only [bne_iff_ne, ne_eq]; omega
      obtain ⟨v4, w4, hr4, ho4, hb4⟩ := push_ob 0 0 (by decide) ho (by rw [← hn]; omega) hB.out.size
      rw [pz_zero] at ho4
      obtain ⟨p4, c4, rfl⟩ := ho4.form (by rw [pz_len _ _ _ (by omega)]; omega)
      obtain ⟨m, hm⟩ : ∃ m, m = (pz b (z + 1) 0).length := ⟨_, rfl⟩
      have hml : m = n + 1 := by rw [hm, pz_len _ _ _ (by omega), hnl, HL.out]; omega
      rw [← hm] at hr4 ho4
      have H4 := hid hr4; have HO4 := hid ho4; have HB4 := hid (hB.out.trans hb4); have HM := hid hml
      have hN : n < 2000000000 := by omega
      have HNL := hid hnl; have HZ := hid hZ
      clear hr4 ho4 hb4 hml hm hn hl ho hnl hZ
      go_wp2_with (at_builtin; refine wpList_append_run rfl (.tmp 15) (.tmp 16) 22 22 rfl _ _ _ rfl rfl H4.out ?_)
      go_roundw
      case rel => exact ⟨z + 1, by omega, HO4.out, HB4⟩
      case measure => simp [slen]; have := HM.out; have := HNL.out; omega
    · have hd : ((n : Int) % 64 != 56) = false := by
        have : ((n : Int) % 64) = 56 := by omega
        rw [this]; rfl
      have HNL := hid hnl; have hzZ := hid (show z = Z by omega); have HZ := hid hZ
      have HO3 := hid ho; have HN3 := hid hn
      have e8 : IntKind.u64.wrap ((len : Int) * 8) = ((8 * len : Nat) : Int) := by rw [wrap_u64']; omega
      clear hn hl ho hnl hZ
      go_wp2_with fail
      have HO5 : OB wr w.heap.size (.slice p3 n c3) (pz b Z 0) := by have := HO3.out; rwa [hzZ.out] at this
      clear HO3 HN3 HNL hzZ
      go_loopw [3, 5] (fun s3 s5 wr => ∃ m : Nat, m ≤ 8 ∧ s5 = .int .i64 ((m : Int) - 1) ∧ OB wr w.heap.size s3 (pz b Z (8 - m)) ∧ Hid (Below w.heap.size w wr)) (fun _ s5 _ => (intOf s5 + 1).toNat)
      case atStart => exact ⟨8, Nat.le_refl _, rfl, HO5, hB⟩
      case round =>
        clear HO5 hB
        obtain ⟨m, hm, rfl, ho, hB⟩ := hrel
        have hl := pz_len b Z (8 - m) (by omega)
        obtain ⟨p5, c5, rfl⟩ := ho.form (by omega)
        obtain ⟨n5, hn5⟩ : ∃ n, n = (pz b Z (8 - m)).length := ⟨_, rfl⟩
        rw [← hn5] at ho ⊢
        cases m with
        | zero =>
          have HO6 := hid ho
          have HZZ := hid hZ1
          have hpz : pz b Z 8 = pad b := by have := HZ.out; rw [HL.out] at this; rw [this]; exact pz_all b
          have hbs : OB wr w.heap.size (.slice p5 n5 c5) (pad b) := by
            rw [← hpz]; exact ho
          have HBS := hid hbs
          clear ho hl hn5 hbs hpz
          go_wp2
          go_ret
          exact ⟨_, rfl, HBS.out, hB.out⟩
        | succ m =>
          have em : (((m + 1 : Nat) : Int) - 1) = (m : Int) := by omega
          rw [em]
          clear em
          have hm7 : m ≤ 7 := by omega
          have hml : n5 ≤ 2000000000 := by rw [hn5, hl, ← HL.out]; omega
          have hx : (8 * (len : Int) / 2 ^ (8 * m) % 256 : Int) = ((UInt8.ofNat ((8 * b.length) >>> (8 * m))).toNat : Int) := by
            rw [byte_ofNat, Nat.shiftRight_eq_div_pow, ← HL.out]; simp
          obtain ⟨v4, w4, hr4, ho4, hb4⟩ := push_ob _ _ hx ho (by rw [← hn5]; omega) hB.out.size
          have hpn := pz_next b Z (8 - (m + 1)) (by omega)
          rw [show 7 - (8 - (m + 1)) = m by omega, show 8 - (m + 1) + 1 = 8 - m by omega] at hpn
          rw [hpn] at ho4
          have H4 := hid hr4; have HO4 := hid ho4; have HB4 := hid (hB.out.trans hb4)
          clear hr4 ho4 hb4 hpn hx hn5 hl ho
          go_wp2_with (at_builtin; refine wpList_append_run rfl (.tmp 26) (.tmp 32) 22 22 rfl _ _ _ rfl rfl H4.out ?_)
          go_roundw
          case rel => exact ⟨m, by omega, rfl, HO4.out, HB4⟩
          case measure => simp [intOf]
end Go.Proofs.YtaoehkoffhnidaaDoor.Dg

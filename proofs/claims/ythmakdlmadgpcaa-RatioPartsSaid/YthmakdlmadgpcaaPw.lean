/- The law of means of parts: the walk. -/
import Derived.Test.YthmakdlmadgpcaaRg
namespace Go.Proofs.Ythmakdlmadgpcaa
open Go.RowKit Go
set_option linter.unusedVariables false
set_option linter.unusedSimpArgs false
theorem ws_range2 (ys : List Int) (i : Nat) : ws ys (List.range (i + 1)) = ws ys (List.range i) + ys.getD i 0 := by rw [List.range_succ, ws_snoc]
theorem take_getD2 (ys : List Int) (n j : Nat) (h : j < n) : (ys.take n).getD j 0 = ys.getD j 0 := by
  rw [List.getD_eq_getElem?_getD, List.getD_eq_getElem?_getD, List.getElem?_take, if_pos h]
theorem step_min {ys : List Int} (i k : Nat) : (i < k → ws ys (List.range (min (i + 1) k)) = ws ys (List.range (min i k)) + ys.getD i 0 ∧ ws ys (List.range (i + 1)) - ws ys (List.range (min (i + 1) k)) = ws ys (List.range i) - ws ys (List.range (min i k))) ∧
    (¬ i < k → ws ys (List.range (min (i + 1) k)) = ws ys (List.range (min i k)) ∧ ws ys (List.range (i + 1)) - ws ys (List.range (min (i + 1) k)) = ws ys (List.range i) - ws ys (List.range (min i k)) + ys.getD i 0) := by
  have e := ws_range2 ys i
  constructor
  · intro h
    rw [show min (i + 1) k = i + 1 by omega, show min i k = i by omega]
    omega
  · intro h
    rw [show min (i + 1) k = k by omega, show min i k = k by omega]
    omega
theorem ws_min {xs ys : List Int} (h : Sm xs ys) (i k : Nat) : 0 ≤ ws ys (List.range (min i k)) ∧ ws ys (List.range (min i k)) ≤ 255 * (i : Int) ∧ 0 ≤ ws ys (List.range i) - ws ys (List.range (min i k)) ∧ ws ys (List.range i) - ws ys (List.range (min i k)) ≤ 255 * (i : Int) := by
  have h1 := ws_sm h (List.range (min i k))
  have h2 := ws_sm h (List.range i)
  rw [List.length_range] at h1 h2
  have h3 := ws_split ys (min i k) i (by omega)
  have h4 := ws_sm (h.drop (min i k) (min i k)) (List.range (i - min i k))
  have h5 := ws_sm (h.take (min i k) (min i k)) (List.range (min i k))
  have h6 : ws (ys.take (min i k)) (List.range (min i k)) = ws ys (List.range (min i k)) := ws_congr (fun j hj => take_getD2 _ _ _ (List.mem_range.1 hj))
  rw [List.length_range] at h4 h5
  rw [h6] at h3
  generalize ws ys (List.range (min i k)) = A at *
  generalize ws ys (List.range i) = B at *
  generalize ws (ys.drop (min i k)) (List.range (i - min i k)) = C at *
  omega
theorem FR.put2 {w : World} {S : Nat} {p q : Int} (h : FR w S p q) (x y : Int) : FR ((w.setCell ⟨S, 0, none⟩ (.int .i64 x)).setCell ⟨S, 1, none⟩ (.int .i64 y)) S x y := by
  obtain ⟨a, b⟩ := cells2 (W := w) (.int .i64 x) (.int .i64 y) h.c0 h.c1
  refine ⟨a, b, ?_, ?_⟩
  · rw [World.frozen?_setCell, World.frozen?_setCell]; exact h.f0
  · rw [World.frozen?_setCell, World.frozen?_setCell]; exact h.f1
theorem Two.base {w : World} {base b2 : Nat} {v1 v2 : Value} {l1 l2 : List Int} (h : Two w base v1 v2 l1 l2) : IS .i64 w v1 l1 ∧ IS .i64 w v2 l2 := ⟨h.o1.is, h.o2.is⟩
set_option maxRecDepth 100000 in
set_option maxHeartbeats 8000000 in
theorem parts_main (p1 p2 : Option Addr) (c1 c2 l1 l2 k : Nat) (t : Int) (xs ys : List Int) (hxy : Hid (Sm xs ys)) (hlx : Hid (l1 = xs.length)) (hly : Hid (l2 = ys.length)) (hn : l1 ≤ 40) (hle : l1 ≤ l2) (hm : l2 ≤ 9223372036854775807) (ht0 : 0 ≤ t) (ht1 : t ≤ 255) (hk : k ≤ l1) (hkt : t % ((l1 : Int) + 1) = (k : Int)) (w : World)
    (hr1 : Hid (RD .i8 p1 w.heap.size xs w)) (hr2 : Hid (RD .u8 p2 w.heap.size ys w)) :
    Calls Try.prog 10 #[.slice p1 l1 c1, .slice p2 l2 c2, .int .u8 t] w fun e w' => e = .returned (.bool true) ∧ Below w.heap.size w w' := by
  have T0 := hid (Below.refl w.heap.size w)
  have hd1 : decide (40 < (l1 : Int)) = false := decide_eq_false (by omega)
  have hd2 : decide ((l2 : Int) < (l1 : Int)) = false := decide_eq_false (by omega)
  have hd3 : decide (l2 < l1) = false := decide_eq_false (by omega)
  have hkt2 : Int.tmod t ((l1 : Int) + 1) = (k : Int) := by rw [Int.tmod_eq_emod_of_nonneg ht0]; exact hkt
  have hl0 : ((l1 : Int) + 1 == 0) = false := by simp; omega
  have hl00 : ¬ ((l1 : Int) + 1 = 0) := by omega
  have HN := hid hn; have HLE := hid hle
  go_enter Try.func10, Try.ntmps10
  go_wp2_with fail
  refine (sane_any _).mono ?_
  rintro e w1 ⟨rfl, hb1⟩
  have T1 := hid (below_t T0.out hb1)
  clear hb1
  go_wp2_with fail
  clear hd1 hd2 hd3 hkt hkt2 hl0 hl00
  go_loopw [8, 9, 10, 11, 48] (fun q1 q2 o1 o2 kk wr => ∃ (i : Nat), i ≤ l1 ∧ kk = .int .i64 (i : Int) ∧ o1 = .int .i64 (ws ys (List.range (min i k))) ∧ o2 = .int .i64 (ws ys (List.range i) - ws ys (List.range (min i k))) ∧ Hid (Two wr w.heap.size q1 q2 (xs.take i) (ys.take i)) ∧ Hid (Below w.heap.size w wr))
    (fun _ _ _ _ kk _ => l1 - (RowKit.intOf kk).toNat)
  case atStart => exact ⟨0, by omega, rfl, by simp [ws], by simp [ws], hid (by simpa using two_nil w1 w.heap.size), T1⟩
  case round =>
    obtain ⟨i, hi1, rfl, rfl, rfl, hT, hB⟩ := hrel
    by_cases hlt : i < l1
    · obtain ⟨a1, rfl, hb1, hx1⟩ := (hr1.out.up hB.out) i (by rw [← hlx.out]; exact hlt)
      obtain ⟨a2, rfl, hb2, hy1⟩ := (hr2.out.up hB.out) i (by rw [← hly.out]; omega)
      have ex := take_snoc xs i (by rw [← hlx.out]; exact hlt)
      have ey := take_snoc ys i (by rw [← hly.out]; omega)
      have bx := hxy.out.x i
      have by1 := hxy.out.z i
      have bw := ws_min hxy.out i k
      obtain ⟨sm1, sm2⟩ := @step_min ys i k
      obtain ⟨X, hX⟩ : ∃ X, X = xs.getD i 0 := ⟨_, rfl⟩
      obtain ⟨Y, hY⟩ : ∃ Y, Y = ys.getD i 0 := ⟨_, rfl⟩
      rw [← hX] at hx1 ex bx
      rw [← hY] at hy1 ey by1 sm1 sm2
      obtain ⟨O1, hO1⟩ : ∃ O1, O1 = ws ys (List.range (min i k)) := ⟨_, rfl⟩
      obtain ⟨O2, hO2⟩ : ∃ O2, O2 = ws ys (List.range i) - ws ys (List.range (min i k)) := ⟨_, rfl⟩
      rw [← hO1] at bw sm1 sm2
      rw [hO1] at sm1 sm2 bw
      rw [← hO2] at bw sm1 sm2 ⊢
      rw [← hO1] at bw sm1 sm2 ⊢
      obtain ⟨x1, x2⟩ := bx
      obtain ⟨y1, y2⟩ := by1
      obtain ⟨w11, w12, w21, w22⟩ := bw
      have hl40 : (i : Int) ≤ 40 := by have := HN.out; omega
      have ob1 : O1 ≤ 10200 := by omega
      have ob2 : O2 ≤ 10200 := by omega
      have hsz := hB.out.size
      have hbd : Below w.heap.size wr wr.drew := ((Below.refl _ _).drew).mono hsz
      have hszd : w.heap.size ≤ wr.drew.heap.size := Nat.le_trans hsz hbd.size
      obtain ⟨qA1, WA1, qA2, WA2, eA1, eA2, fA, belA1⟩ := ordA hT.out.drew X Y (by simp; omega) (by simp; omega) hszd
      obtain ⟨qB1, WB1, qB2, WB2, eB1, eB2, fB, belB1⟩ := ordBC hT.out.drew X Y X Y wr.drew.heap.size (wr.drew.heap.size + 1) (by simp; omega) (by simp; omega) hszd (.inl ⟨rfl, rfl, rfl, rfl⟩)
      obtain ⟨qC1, WC1, qC2, WC2, eC1, eC2, fC, belC1⟩ := ordBC hT.out.drew X Y Y X (wr.drew.heap.size + 1) wr.drew.heap.size (by simp; omega) (by simp; omega) hszd (.inr ⟨rfl, rfl, rfl, rfl⟩)
      have E1A := hid eA1; have E2A := hid eA2; have E1B := hid eB1; have E2B := hid eB2; have E1C := hid eC1; have E2C := hid eC2
      have FA := hid (show Two WA2 w.heap.size qA1 qA2 (xs.take (i + 1)) (ys.take (i + 1)) ∧ Below w.heap.size w WA2 from ⟨by rw [ex, ey]; exact fA.two, hB.out.trans (hbd.trans fA.bel)⟩)
      have FB := hid (show Two WB2 w.heap.size qB1 qB2 (xs.take (i + 1)) (ys.take (i + 1)) ∧ Below w.heap.size w WB2 from ⟨by rw [ex, ey]; exact fB.two, hB.out.trans (hbd.trans fB.bel)⟩)
      have FC := hid (show Two WC2 w.heap.size qC1 qC2 (xs.take (i + 1)) (ys.take (i + 1)) ∧ Below w.heap.size w WC2 from ⟨by rw [ex, ey]; exact fC.two, hB.out.trans (hbd.trans fC.bel)⟩)
      have cyA := fA.bel
      have SM1 := hid sm1; have SM2 := hid sm2
      have HYd := hid (fun (W : World) (hW : Below w.heap.size wr W) => (hW.cell (p := a2.add i) (by rw [add_block]; exact hb2)).trans hy1)
      have HBA1 := hid (hbd.trans belA1); have HBB1 := hid (hbd.trans belB1); have HBC1 := hid (hbd.trans belC1); have HSZ := hid hsz; have HBD := hid hbd
      have HBX := hid (hbd.trans (((Below.refl _ wr.drew).alloc (Nat.le_refl _) (.cells #[.int .i64 X] 3)).mono hszd))
      have HBA := hid (hbd.trans fA.bel); have HBB := hid (hbd.trans fB.bel); have HBC := hid (hbd.trans fC.bel)
      clear eA1 eA2 eB1 eB2 eC1 eC2 fA fB fC cyA hbd hszd belA1 belB1 belC1 ex ey hX hY hO1 hO2 sm1 sm2 hT hB w12 w22 hsz
      have WX : IntKind.i64.wrap X = X := wrap_i64 X (by omega) (by omega)
      have WY : IntKind.i64.wrap Y = Y := wrap_i64 Y (by omega) (by omega)
      have hnl : ¬ l2 ≤ i := by omega
      go_upto_region 11 with fail
      go_cut [8, 9] (fun s1 s2 wx => Hid (Two wx w.heap.size s1 s2 (xs.take (i + 1)) (ys.take (i + 1)) ∧ Below w.heap.size w wx) ∧ Hid (Below w.heap.size wr wx))
      case first =>
        have HT := HBD
        refine wa_start (S := fun W => Below w.heap.size wr W) (by kernel_rfl) HT.out ?_
        refine wa_move 0 (some 53) (.tmp 8) _ rfl rfl rfl (by kernel_rfl) rfl rfl HT.out ?_
        try simp only [Act.put, List.setIfInBounds_toArray, List.set_cons_zero, List.set_cons_succ]
        refine wa_move 1 (some 54) (.tmp 13) _ rfl rfl rfl (by kernel_rfl) rfl rfl HT.out ?_
        try simp only [Act.put, List.setIfInBounds_toArray, List.set_cons_zero, List.set_cons_succ]
        refine wa_tk 2 (some 55) (.int .i64 X) rfl (by kernel_rfl) rfl rfl HT.out (fun w h0 => by go_simp) ?_
        try simp only [Act.put, List.setIfInBounds_toArray, List.set_cons_zero, List.set_cons_succ]
        refine wa_move 5 (some 58) (.tmp 9) _ rfl rfl rfl (by kernel_rfl) rfl rfl HT.out ?_
        try simp only [Act.put, List.setIfInBounds_toArray, List.set_cons_zero, List.set_cons_succ]
        refine wa_move 6 (some 59) (.tmp 1) _ rfl rfl rfl (by kernel_rfl) rfl rfl HT.out ?_
        try simp only [Act.put, List.setIfInBounds_toArray, List.set_cons_zero, List.set_cons_succ]
        refine wa_move 7 (some 60) (.tmp 12) _ rfl rfl rfl (by kernel_rfl) rfl rfl HT.out ?_
        try simp only [Act.put, List.setIfInBounds_toArray, List.set_cons_zero, List.set_cons_succ]
        refine wa_tk 8 (some 61) (.pointer (some (a2.add i))) rfl (by kernel_rfl) rfl rfl HT.out (fun w h0 => by go_simp) ?_
        try simp only [Act.put, List.setIfInBounds_toArray, List.set_cons_zero, List.set_cons_succ]
        refine wa_tk 9 (some 62) (.int .u8 Y) rfl (by kernel_rfl) rfl rfl HT.out (fun w h0 => by have c := HYd.out w h0; go_simp) ?_
        try simp only [Act.put, List.setIfInBounds_toArray, List.set_cons_zero, List.set_cons_succ]
        refine wa_tk 10 (some 63) (.int .i64 Y) rfl (by kernel_rfl) rfl rfl HT.out (fun w h0 => by go_simp) ?_
        try simp only [Act.put, List.setIfInBounds_toArray, List.set_cons_zero, List.set_cons_succ]
        refine wa_branch [3, 11] (by decide +kernel) rfl ?_
        refine ar_op 3 rfl rfl (fun K hK => ?_) (ar_op 11 rfl rfl (fun K hK => ?_) ar_nil)
        · unfold Oper.wp
          go_simp
          have HT := hid (HT.out.trans (((Below.refl _ _).alloc (Nat.le_refl _) (.cells #[.int .i64 X] 3)).mono (Nat.le_trans HSZ.out HT.out.size)))
          refine hK.out _ _ HT.out ?_
          clear hK K
          try simp only [Act.put, List.setIfInBounds_toArray, List.set_cons_zero, List.set_cons_succ]
          refine wa_branch [4, 11] (by decide +kernel) rfl ?_
          refine ar_op 4 rfl rfl (fun K hK => ?_) (ar_op 11 rfl rfl (fun K hK => ?_) ar_nil)
          · refine st_append (some 57) rfl (.tmp 53) (.tmp 56) rfl rfl _ _ _ _ rfl rfl E1A.out ?_
            have HT := hid (HBA1.out)
            refine hK.out _ _ HT.out ?_
            clear hK K
            try simp only [Act.put, List.setIfInBounds_toArray, List.set_cons_zero, List.set_cons_succ]
            refine wa_branch [11] (by decide +kernel) rfl ?_
            refine ar_op 11 rfl rfl (fun K hK => ?_) ar_nil
            unfold Oper.wp
            go_simp
            have HT := hid (HT.out.trans (((Below.refl _ _).alloc (Nat.le_refl _) (.cells #[.int .i64 Y] 3)).mono (Nat.le_trans HSZ.out HT.out.size)))
            refine hK.out _ _ HT.out ?_
            clear hK K
            try simp only [Act.put, List.setIfInBounds_toArray, List.set_cons_zero, List.set_cons_succ]
            refine wa_branch [12] (by decide +kernel) rfl ?_
            refine ar_op 12 rfl rfl (fun K hK => ?_) ar_nil
            refine st_append (some 65) rfl (.tmp 58) (.tmp 64) rfl rfl _ _ _ _ rfl rfl E2A.out ?_
            have HT := hid (HBA.out)
            refine hK.out _ _ HT.out ?_
            clear hK K
            try simp only [Act.put, List.setIfInBounds_toArray, List.set_cons_zero, List.set_cons_succ]
            refine wa_asg 13 (some 8) (.tmp 57) _ rfl rfl rfl (by kernel_rfl) rfl rfl HT.out ?_
            try simp only [Act.put, List.setIfInBounds_toArray, List.set_cons_zero, List.set_cons_succ]
            refine wa_asg 14 (some 9) (.tmp 65) _ rfl rfl rfl (by kernel_rfl) rfl rfl HT.out ?_
            try simp only [Act.put, List.setIfInBounds_toArray, List.set_cons_zero, List.set_cons_succ]
            refine wa_done (by decide +kernel) ?_
            go_wp2_with fail
            go_meet
            exact ⟨FA, HBA⟩
          · unfold Oper.wp
            go_simp
            have HT := hid (HT.out.trans (((Below.refl _ _).alloc (Nat.le_refl _) (.cells #[.int .i64 Y] 3)).mono (Nat.le_trans HSZ.out HT.out.size)))
            refine hK.out _ _ HT.out ?_
            clear hK K
            try simp only [Act.put, List.setIfInBounds_toArray, List.set_cons_zero, List.set_cons_succ]
            refine wa_branch [4] (by decide +kernel) rfl ?_
            refine ar_op 4 rfl rfl (fun K hK => ?_) ar_nil
            refine st_append (some 57) rfl (.tmp 53) (.tmp 56) rfl rfl _ _ _ _ rfl rfl E1B.out ?_
            have HT := hid (HBB1.out)
            refine hK.out _ _ HT.out ?_
            clear hK K
            try simp only [Act.put, List.setIfInBounds_toArray, List.set_cons_zero, List.set_cons_succ]
            refine wa_branch [12] (by decide +kernel) rfl ?_
            refine ar_op 12 rfl rfl (fun K hK => ?_) ar_nil
            refine st_append (some 65) rfl (.tmp 58) (.tmp 64) rfl rfl _ _ _ _ rfl rfl E2B.out ?_
            have HT := hid (HBB.out)
            refine hK.out _ _ HT.out ?_
            clear hK K
            try simp only [Act.put, List.setIfInBounds_toArray, List.set_cons_zero, List.set_cons_succ]
            refine wa_asg 13 (some 8) (.tmp 57) _ rfl rfl rfl (by kernel_rfl) rfl rfl HT.out ?_
            try simp only [Act.put, List.setIfInBounds_toArray, List.set_cons_zero, List.set_cons_succ]
            refine wa_asg 14 (some 9) (.tmp 65) _ rfl rfl rfl (by kernel_rfl) rfl rfl HT.out ?_
            try simp only [Act.put, List.setIfInBounds_toArray, List.set_cons_zero, List.set_cons_succ]
            refine wa_done (by decide +kernel) ?_
            go_wp2_with fail
            go_meet
            exact ⟨FB, HBB⟩
        · unfold Oper.wp
          go_simp
          have HT := hid (HT.out.trans (((Below.refl _ _).alloc (Nat.le_refl _) (.cells #[.int .i64 Y] 3)).mono (Nat.le_trans HSZ.out HT.out.size)))
          refine hK.out _ _ HT.out ?_
          clear hK K
          try simp only [Act.put, List.setIfInBounds_toArray, List.set_cons_zero, List.set_cons_succ]
          refine wa_branch [3] (by decide +kernel) rfl ?_
          refine ar_op 3 rfl rfl (fun K hK => ?_) ar_nil
          unfold Oper.wp
          go_simp
          have HT := hid (HT.out.trans (((Below.refl _ _).alloc (Nat.le_refl _) (.cells #[.int .i64 X] 3)).mono (Nat.le_trans HSZ.out HT.out.size)))
          refine hK.out _ _ HT.out ?_
          clear hK K
          try simp only [Act.put, List.setIfInBounds_toArray, List.set_cons_zero, List.set_cons_succ]
          refine wa_branch [4] (by decide +kernel) rfl ?_
          refine ar_op 4 rfl rfl (fun K hK => ?_) ar_nil
          refine st_append (some 57) rfl (.tmp 53) (.tmp 56) rfl rfl _ _ _ _ rfl rfl E1C.out ?_
          have HT := hid (HBC1.out)
          refine hK.out _ _ HT.out ?_
          clear hK K
          try simp only [Act.put, List.setIfInBounds_toArray, List.set_cons_zero, List.set_cons_succ]
          refine wa_branch [12] (by decide +kernel) rfl ?_
          refine ar_op 12 rfl rfl (fun K hK => ?_) ar_nil
          refine st_append (some 65) rfl (.tmp 58) (.tmp 64) rfl rfl _ _ _ _ rfl rfl E2C.out ?_
          have HT := hid (HBC.out)
          refine hK.out _ _ HT.out ?_
          clear hK K
          try simp only [Act.put, List.setIfInBounds_toArray, List.set_cons_zero, List.set_cons_succ]
          refine wa_asg 13 (some 8) (.tmp 57) _ rfl rfl rfl (by kernel_rfl) rfl rfl HT.out ?_
          try simp only [Act.put, List.setIfInBounds_toArray, List.set_cons_zero, List.set_cons_succ]
          refine wa_asg 14 (some 9) (.tmp 65) _ rfl rfl rfl (by kernel_rfl) rfl rfl HT.out ?_
          try simp only [Act.put, List.setIfInBounds_toArray, List.set_cons_zero, List.set_cons_succ]
          refine wa_done (by decide +kernel) ?_
          go_wp2_with fail
          go_meet
          exact ⟨FC, HBC⟩
      case rest =>
        obtain ⟨hT2, hW2⟩ := hcut
        have yc := HYd.out wc hW2.out
        clear E1A E2A E1B E2B E1C E2C FA FB FC HBA HBB HBC HBA1 HBB1 HBC1 HBD HBX HYd
        by_cases hik : i < k
        · obtain ⟨h1, h2⟩ := SM1.out hik
          have H1 := hid h1; have H2 := hid h2
          have dik : decide ((i : Int) < (k : Int)) = true := decide_eq_true (by omega)
          have dik2 : decide (i < k) = true := decide_eq_true hik
          clear h1 h2 SM1 SM2
          go_wp2
          go_roundw
          case rel => exact ⟨i + 1, by omega, rfl, by rw [H1.out], by rw [H2.out], hid hT2.out.1, hid hT2.out.2⟩
          case measure => simp [RowKit.intOf]; omega
        · obtain ⟨h1, h2⟩ := SM2.out hik
          have H1 := hid h1; have H2 := hid h2
          have dik : decide ((i : Int) < (k : Int)) = false := decide_eq_false (by omega)
          have dik2 : decide (i < k) = false := decide_eq_false hik
          clear h1 h2 SM1 SM2
          go_wp2
          go_roundw
          case rel => exact ⟨i + 1, by omega, rfl, by rw [H1.out], by rw [H2.out], hid hT2.out.1, hid hT2.out.2⟩
          case measure => simp [RowKit.intOf]; omega
    · obtain rfl : i = l1 := by omega
      have hzl : (ys.take i).length = i := by simp; have := HLE.out; have := hly.out; omega
      have hsm : Sm xs (ys.take i) := ⟨hxy.out.1, fun z hz => hxy.out.2 z (List.mem_of_mem_take hz)⟩
      have hmk : min i k = k := by omega
      have g1 : ws ys (List.range k) = ws ((ys.take i).take k) (List.range k) := ws_congr (fun j hj => by
        have hj2 := List.mem_range.1 hj
        rw [take_getD2 _ _ _ hj2, take_getD2 _ _ _ (by omega)])
      have g2 : ws ys (List.range i) - ws ys (List.range k) = ws ((ys.take i).drop k) (List.range (xs.length - k)) := by
        have e1 : ws ys (List.range i) = ws (ys.take i) (List.range i) := ws_congr (fun j hj => (take_getD2 _ _ _ (List.mem_range.1 hj)).symm)
        have e2 := ws_split (ys.take i) k i hk
        rw [e1, e2, g1, ← hlx.out]; omega
      rw [hmk]
      obtain ⟨one, hone⟩ : ∃ x, x = ws ys (List.range k) := ⟨_, rfl⟩
      obtain ⟨two, htwo⟩ : ∃ x, x = ws ys (List.range i) - ws ys (List.range k) := ⟨_, rfl⟩
      have bw := ws_min hxy.out i k
      rw [hmk] at bw
      rw [← htwo] at bw g2 ⊢
      rw [← hone] at bw g1 ⊢
      obtain ⟨w11, w12, w21, w22⟩ := bw
      have hl40 : (i : Int) ≤ 40 := by have := HN.out; omega
      obtain ⟨A1, A2, a1, a2, b1, b2, P1, P2, mA, ma, mb, mx, my, ms, mt, ⟨iA1, iA2, ia1, ia2⟩, ib1, ib2, iP1, iP2⟩ := parts hsm (by rw [hzl, hlx.out]) (by rw [← hlx.out]; exact HN.out) k (by rw [← hlx.out]; exact hk) one two g1 g2
      have htx : xs.take i = xs := List.take_of_length_le (by rw [hlx.out]; exact Nat.le_refl _)
      have hT := hT.out
      rw [htx] at hT
      have hq1 := hT.o1.is; have hq2 := hT.o2.is
      obtain ⟨u1, eu1, hu1⟩ := slice_h hq1 k (by rw [← hlx.out]; exact hk)
      obtain ⟨u2, eu2, hu2⟩ := slice_h hq2 k (by rw [hzl]; exact hk)
      obtain ⟨u3, eu3, hu3⟩ := slice_l hq1 k (by rw [← hlx.out]; exact hk)
      obtain ⟨u4, eu4, hu4⟩ := slice_l hq2 k (by rw [hzl]; exact hk)
      have V1 := hid hq1; have V2 := hid hq2; have V3 := hid hu1; have V4 := hid hu2; have V5 := hid hu3; have V6 := hid hu4
      have iX := fun x (hx : x ∈ xs) => (⟨by have := hxy.out.1 x hx; omega, by have := hxy.out.1 x hx; omega⟩ : I64 x)
      have X1 := hid iX
      have X2 := hid (fun x (hx : x ∈ xs.take k) => iX x (List.mem_of_mem_take hx))
      have X3 := hid (fun x (hx : x ∈ xs.drop k) => iX x (List.mem_of_mem_drop hx))
      have MA := hid mA; have Ma := hid ma; have Mb := hid mb; have Mx := hid mx; have My := hid my; have Ms := hid ms; have Mt := hid mt
      have JA1 := hid iA1; have JA2 := hid iA2; have Ja1 := hid ia1; have Ja2 := hid ia2; have Jb1 := hid ib1; have Jb2 := hid ib2; have JP1 := hid iP1; have JP2 := hid iP2
      have K1 := hid (show I64 one from ⟨by omega, by omega⟩); have K2 := hid (show I64 two from ⟨by omega, by omega⟩); have K3 := hid (show I64 (one + two) from ⟨by omega, by omega⟩)
      have o1 : one ≤ 10200 := by omega
      have o2 : two ≤ 10200 := by omega
      have T1 := hB
      clear hzl hsm hmk g1 g2 hone htwo w12 w22 hl40 mA ma mb mx my ms mt iA1 iA2 ia1 ia2 ib1 ib2 iP1 iP2 htx hT hq1 hq2 hu1 hu2 hu3 hu4 iX hB hlt hi1
      go_wp2_with fail
      refine (Mean_any _ _ xs (ys.take i) X1 _ V1.out V2.out).mono ?_
      rintro e w2 ⟨rfl, hb2⟩
      rw [MA.out]
      have A0 : Below w2.heap.size w2 (w2.alloc (.cells #[.int .i64 A1, .int .i64 A2] 23)) := (Below.refl _ _).alloc (Nat.le_refl _) _
      have V3 := hid ((V3.out.ups hb2).ups A0); have V4 := hid ((V4.out.ups hb2).ups A0); have V5 := hid ((V5.out.ups hb2).ups A0); have V6 := hid ((V6.out.ups hb2).ups A0)
      have F1 := hid (fr_new w2 A1 A2)
      have T2 := hid (below_t (below_t T1.out hb2) A0)
      clear A0 hb2 MA X1 V1 V2 T1
      obtain ⟨U, hU⟩ : ∃ W, W = w2.alloc (.cells #[.int .i64 A1, .int .i64 A2] 23) := ⟨_, rfl⟩
      rw [← hU] at V3 V4 V5 V6 F1 T2
      go_upto_region 17 with fail
      rw [← hU]
      clear hU
      go_cut [16, 17] (fun s16 s17 wx => ∃ B, s16 = .pointer (some ⟨B, 0, none⟩) ∧ s17 = .int .i64 0 ∧ Hid (FR wx B a1 a2) ∧ Hid (Below U.heap.size U wx))
      case first =>
        have HT := hid ((Below.refl U.heap.size U).drew)
        refine wa_start (S := fun W => Below U.heap.size U W) (by kernel_rfl) HT.out ?_
        obtain ⟨Ud, hUd⟩ : ∃ W, W = U.drew := ⟨_, rfl⟩
        rw [← hUd] at HT ⊢
        clear hUd
        refine wa_move 0 (some 91) (.tmp 8) _ rfl rfl rfl (by kernel_rfl) rfl rfl HT.out ?_
        try simp only [Act.put, List.setIfInBounds_toArray, List.set_cons_zero, List.set_cons_succ]
        refine wa_move 1 (some 92) (.tmp 7) _ rfl rfl rfl (by kernel_rfl) rfl rfl HT.out ?_
        try simp only [Act.put, List.setIfInBounds_toArray, List.set_cons_zero, List.set_cons_succ]
        refine wa_tk 2 (some 93) (u1) rfl (by kernel_rfl) rfl rfl HT.out (fun w h0 => by have h1 := eu1 w; go_simp) ?_
        try simp only [Act.put, List.setIfInBounds_toArray, List.set_cons_zero, List.set_cons_succ]
        refine wa_move 3 (some 94) (.tmp 9) _ rfl rfl rfl (by kernel_rfl) rfl rfl HT.out ?_
        try simp only [Act.put, List.setIfInBounds_toArray, List.set_cons_zero, List.set_cons_succ]
        refine wa_move 4 (some 95) (.tmp 7) _ rfl rfl rfl (by kernel_rfl) rfl rfl HT.out ?_
        try simp only [Act.put, List.setIfInBounds_toArray, List.set_cons_zero, List.set_cons_succ]
        refine wa_tk 5 (some 96) (u2) rfl (by kernel_rfl) rfl rfl HT.out (fun w h0 => by have h1 := eu2 w; go_simp) ?_
        try simp only [Act.put, List.setIfInBounds_toArray, List.set_cons_zero, List.set_cons_succ]
        refine wa_branch [6, 10] (by decide +kernel) rfl ?_
        refine ar_op 6 rfl rfl (fun K hK => ?_) (ar_op 10 rfl rfl (fun K hK => ?_) ar_nil)
        · go_simp
          go_at_call 22
          refine (Mean_any u1 u2 (xs.take k) ((ys.take i).take k) X2 _ (V3.out.ups HT.out) (V4.out.ups HT.out)).mono ?_
          rintro e wq ⟨rfl, hq⟩
          rw [Ma.out]
          have HS0 := hid (Nat.le_trans HT.out.size hq.size)
          have HT := hid (below_t HT.out hq)
          clear hq
          refine hK.out _ _ HT.out ?_
          clear hK K
          try simp only [Act.put, List.setIfInBounds_toArray, List.set_cons_zero, List.set_cons_succ]
          refine wa_move 7 (some 90) (.tmp 97) _ rfl rfl rfl (by kernel_rfl) rfl rfl HT.out ?_
          try simp only [Act.put, List.setIfInBounds_toArray, List.set_cons_zero, List.set_cons_succ]
          refine wa_ext 8 (some 98) (.tmp 90) 0 _ _ rfl rfl rfl rfl (by kernel_rfl) rfl rfl HT.out ?_
          try simp only [Act.put, List.setIfInBounds_toArray, List.set_cons_zero, List.set_cons_succ]
          refine wa_ext 9 (some 99) (.tmp 90) 1 _ _ rfl rfl rfl rfl (by kernel_rfl) rfl rfl HT.out ?_
          try simp only [Act.put, List.setIfInBounds_toArray, List.set_cons_zero, List.set_cons_succ]
          refine wa_branch [10] (by decide +kernel) rfl ?_
          refine ar_op 10 rfl rfl (fun K hK => ?_) ar_nil
          unfold Oper.wp
          go_simp
          have FN := hid (fr_new wq 0 0)
          have HT := hid (HT.out.trans (((Below.refl _ wq).alloc (Nat.le_refl _) (.cells #[.int .i64 0, .int .i64 0] 23)).mono HT.out.size))
          have HBL := hid (show U.heap.size ≤ wq.heap.size from HS0.out)
          obtain ⟨B, hB⟩ : ∃ B, B = wq.heap.size := ⟨_, rfl⟩
          obtain ⟨wa, hwa⟩ : ∃ W, W = wq.alloc (.cells #[.int .i64 0, .int .i64 0] 23) := ⟨_, rfl⟩
          rw [← hwa, ← hB] at FN
          rw [← hwa] at HT
          rw [← hB] at HBL ⊢
          rw [← hwa]
          clear hwa hB
          refine hK.out _ _ HT.out ?_
          clear hK K
          try simp only [Act.put, List.setIfInBounds_toArray, List.set_cons_zero, List.set_cons_succ]
          refine wa_branch [11] (by decide +kernel) rfl ?_
          refine ar_op 11 rfl rfl (fun K hK => ?_) ar_nil
          obtain ⟨fc0, fc1, fz0, fz1⟩ := FN.out
          unfold Oper.wp
          go_simp
          have FN2 := hid (FN.out.put2 a1 a2)
          have HT := hid ((HT.out.setCell (p := ⟨B, 0, none⟩) HBL.out (.int .i64 a1)).setCell (p := ⟨B, 1, none⟩) HBL.out (.int .i64 a2))
          refine hK.out _ _ HT.out ?_
          clear hK K
          try simp only [Act.put, List.setIfInBounds_toArray, List.set_cons_zero, List.set_cons_succ]
          refine wa_asg 12 (some 17) (.tmp 99) _ rfl rfl rfl (by kernel_rfl) rfl rfl HT.out ?_
          try simp only [Act.put, List.setIfInBounds_toArray, List.set_cons_zero, List.set_cons_succ]
          refine wa_done (by decide +kernel) ?_
          go_wp2_with fail
          go_meet
          exact ⟨B, rfl, rfl, FN2, HT⟩
        · have HS0 := hid HT.out.size
          unfold Oper.wp
          go_simp
          have FN := hid (fr_new Ud 0 0)
          have HT := hid (HT.out.trans (((Below.refl _ Ud).alloc (Nat.le_refl _) (.cells #[.int .i64 0, .int .i64 0] 23)).mono HT.out.size))
          have HBL := hid (show U.heap.size ≤ Ud.heap.size from HS0.out)
          obtain ⟨B, hB⟩ : ∃ B, B = Ud.heap.size := ⟨_, rfl⟩
          obtain ⟨wa, hwa⟩ : ∃ W, W = Ud.alloc (.cells #[.int .i64 0, .int .i64 0] 23) := ⟨_, rfl⟩
          rw [← hwa, ← hB] at FN
          rw [← hwa] at HT
          rw [← hB] at HBL ⊢
          rw [← hwa]
          clear hwa hB
          refine hK.out _ _ HT.out ?_
          clear hK K
          try simp only [Act.put, List.setIfInBounds_toArray, List.set_cons_zero, List.set_cons_succ]
          refine wa_branch [6] (by decide +kernel) rfl ?_
          refine ar_op 6 rfl rfl (fun K hK => ?_) ar_nil
          go_simp
          go_at_call 22
          refine (Mean_any u1 u2 (xs.take k) ((ys.take i).take k) X2 _ (V3.out.ups HT.out) (V4.out.ups HT.out)).mono ?_
          rintro e wq ⟨rfl, hq⟩
          rw [Ma.out]
          have FN := hid (FN.out.ups hq)
          have HT := hid (below_t HT.out hq)
          clear hq
          refine hK.out _ _ HT.out ?_
          clear hK K
          try simp only [Act.put, List.setIfInBounds_toArray, List.set_cons_zero, List.set_cons_succ]
          refine wa_move 7 (some 90) (.tmp 97) _ rfl rfl rfl (by kernel_rfl) rfl rfl HT.out ?_
          try simp only [Act.put, List.setIfInBounds_toArray, List.set_cons_zero, List.set_cons_succ]
          refine wa_ext 8 (some 98) (.tmp 90) 0 _ _ rfl rfl rfl rfl (by kernel_rfl) rfl rfl HT.out ?_
          try simp only [Act.put, List.setIfInBounds_toArray, List.set_cons_zero, List.set_cons_succ]
          refine wa_ext 9 (some 99) (.tmp 90) 1 _ _ rfl rfl rfl rfl (by kernel_rfl) rfl rfl HT.out ?_
          try simp only [Act.put, List.setIfInBounds_toArray, List.set_cons_zero, List.set_cons_succ]
          refine wa_branch [11] (by decide +kernel) rfl ?_
          refine ar_op 11 rfl rfl (fun K hK => ?_) ar_nil
          obtain ⟨fc0, fc1, fz0, fz1⟩ := FN.out
          unfold Oper.wp
          go_simp
          have FN2 := hid (FN.out.put2 a1 a2)
          have HT := hid ((HT.out.setCell (p := ⟨B, 0, none⟩) HBL.out (.int .i64 a1)).setCell (p := ⟨B, 1, none⟩) HBL.out (.int .i64 a2))
          refine hK.out _ _ HT.out ?_
          clear hK K
          try simp only [Act.put, List.setIfInBounds_toArray, List.set_cons_zero, List.set_cons_succ]
          refine wa_asg 12 (some 17) (.tmp 99) _ rfl rfl rfl (by kernel_rfl) rfl rfl HT.out ?_
          try simp only [Act.put, List.setIfInBounds_toArray, List.set_cons_zero, List.set_cons_succ]
          refine wa_done (by decide +kernel) ?_
          go_wp2_with fail
          go_meet
          exact ⟨B, rfl, rfl, FN2, HT⟩
      case rest =>
        obtain ⟨B1, rfl, rfl, F2, hb⟩ := hcut
        have V5 := hid (V5.out.ups hb.out); have V6 := hid (V6.out.ups hb.out); have F1 := hid (F1.out.ups hb.out)
        have T3 := hid (below_t T2.out hb.out)
        clear hb V3 V4 eu1 eu2 Ma X2 T2
        obtain ⟨Z, hZ⟩ : ∃ W, W = wc := ⟨_, rfl⟩
        rw [← hZ] at V5 V6 F1 F2 T3 ⊢
        clear hZ
        go_upto_region 18 with fail
        go_cut [18, 19] (fun s16 s17 wx => ∃ B, s16 = .pointer (some ⟨B, 0, none⟩) ∧ s17 = .int .i64 0 ∧ Hid (FR wx B b1 b2) ∧ Hid (Below Z.heap.size Z wx))
        case first =>
          have HT := hid ((Below.refl Z.heap.size Z).drew)
          refine wa_start (S := fun W => Below Z.heap.size Z W) (by kernel_rfl) HT.out ?_
          obtain ⟨Zd, hZd⟩ : ∃ W, W = Z.drew := ⟨_, rfl⟩
          rw [← hZd] at HT ⊢
          clear hZd
          refine wa_move 0 (some 101) (.tmp 8) _ rfl rfl rfl (by kernel_rfl) rfl rfl HT.out ?_
          try simp only [Act.put, List.setIfInBounds_toArray, List.set_cons_zero, List.set_cons_succ]
          refine wa_move 1 (some 102) (.tmp 7) _ rfl rfl rfl (by kernel_rfl) rfl rfl HT.out ?_
          try simp only [Act.put, List.setIfInBounds_toArray, List.set_cons_zero, List.set_cons_succ]
          refine wa_tk 2 (some 103) (u3) rfl (by kernel_rfl) rfl rfl HT.out (fun w h0 => by have h1 := eu3 w; go_simp) ?_
          try simp only [Act.put, List.setIfInBounds_toArray, List.set_cons_zero, List.set_cons_succ]
          refine wa_move 3 (some 104) (.tmp 9) _ rfl rfl rfl (by kernel_rfl) rfl rfl HT.out ?_
          try simp only [Act.put, List.setIfInBounds_toArray, List.set_cons_zero, List.set_cons_succ]
          refine wa_move 4 (some 105) (.tmp 7) _ rfl rfl rfl (by kernel_rfl) rfl rfl HT.out ?_
          try simp only [Act.put, List.setIfInBounds_toArray, List.set_cons_zero, List.set_cons_succ]
          refine wa_tk 5 (some 106) (u4) rfl (by kernel_rfl) rfl rfl HT.out (fun w h0 => by have h1 := eu4 w; go_simp) ?_
          try simp only [Act.put, List.setIfInBounds_toArray, List.set_cons_zero, List.set_cons_succ]
          refine wa_branch [6, 10] (by decide +kernel) rfl ?_
          refine ar_op 6 rfl rfl (fun K hK => ?_) (ar_op 10 rfl rfl (fun K hK => ?_) ar_nil)
          · go_simp
            go_at_call 22
            refine (Mean_any u3 u4 (xs.drop k) ((ys.take i).drop k) X3 _ (V5.out.ups HT.out) (V6.out.ups HT.out)).mono ?_
            rintro e wq ⟨rfl, hq⟩
            rw [Mb.out]
            have HS0 := hid (Nat.le_trans HT.out.size hq.size)
            have HT := hid (below_t HT.out hq)
            clear hq
            refine hK.out _ _ HT.out ?_
            clear hK K
            try simp only [Act.put, List.setIfInBounds_toArray, List.set_cons_zero, List.set_cons_succ]
            refine wa_move 7 (some 100) (.tmp 107) _ rfl rfl rfl (by kernel_rfl) rfl rfl HT.out ?_
            try simp only [Act.put, List.setIfInBounds_toArray, List.set_cons_zero, List.set_cons_succ]
            refine wa_ext 8 (some 108) (.tmp 100) 0 _ _ rfl rfl rfl rfl (by kernel_rfl) rfl rfl HT.out ?_
            try simp only [Act.put, List.setIfInBounds_toArray, List.set_cons_zero, List.set_cons_succ]
            refine wa_ext 9 (some 109) (.tmp 100) 1 _ _ rfl rfl rfl rfl (by kernel_rfl) rfl rfl HT.out ?_
            try simp only [Act.put, List.setIfInBounds_toArray, List.set_cons_zero, List.set_cons_succ]
            refine wa_branch [10] (by decide +kernel) rfl ?_
            refine ar_op 10 rfl rfl (fun K hK => ?_) ar_nil
            unfold Oper.wp
            go_simp
            have FN := hid (fr_new wq 0 0)
            have HT := hid (HT.out.trans (((Below.refl _ wq).alloc (Nat.le_refl _) (.cells #[.int .i64 0, .int .i64 0] 23)).mono HT.out.size))
            have HBL := hid (show Z.heap.size ≤ wq.heap.size from HS0.out)
            obtain ⟨B, hB⟩ : ∃ B, B = wq.heap.size := ⟨_, rfl⟩
            obtain ⟨wa, hwa⟩ : ∃ W, W = wq.alloc (.cells #[.int .i64 0, .int .i64 0] 23) := ⟨_, rfl⟩
            rw [← hwa, ← hB] at FN
            rw [← hwa] at HT
            rw [← hB] at HBL ⊢
            rw [← hwa]
            clear hwa hB
            refine hK.out _ _ HT.out ?_
            clear hK K
            try simp only [Act.put, List.setIfInBounds_toArray, List.set_cons_zero, List.set_cons_succ]
            refine wa_branch [11] (by decide +kernel) rfl ?_
            refine ar_op 11 rfl rfl (fun K hK => ?_) ar_nil
            obtain ⟨fc0, fc1, fz0, fz1⟩ := FN.out
            unfold Oper.wp
            go_simp
            have FN2 := hid (FN.out.put2 b1 b2)
            have HT := hid ((HT.out.setCell (p := ⟨B, 0, none⟩) HBL.out (.int .i64 b1)).setCell (p := ⟨B, 1, none⟩) HBL.out (.int .i64 b2))
            refine hK.out _ _ HT.out ?_
            clear hK K
            try simp only [Act.put, List.setIfInBounds_toArray, List.set_cons_zero, List.set_cons_succ]
            refine wa_asg 12 (some 19) (.tmp 109) _ rfl rfl rfl (by kernel_rfl) rfl rfl HT.out ?_
            try simp only [Act.put, List.setIfInBounds_toArray, List.set_cons_zero, List.set_cons_succ]
            refine wa_done (by decide +kernel) ?_
            go_wp2_with fail
            go_meet
            exact ⟨B, rfl, rfl, FN2, HT⟩
          · have HS0 := hid HT.out.size
            unfold Oper.wp
            go_simp
            have FN := hid (fr_new Zd 0 0)
            have HT := hid (HT.out.trans (((Below.refl _ Zd).alloc (Nat.le_refl _) (.cells #[.int .i64 0, .int .i64 0] 23)).mono HT.out.size))
            have HBL := hid (show Z.heap.size ≤ Zd.heap.size from HS0.out)
            obtain ⟨B, hB⟩ : ∃ B, B = Zd.heap.size := ⟨_, rfl⟩
            obtain ⟨wa, hwa⟩ : ∃ W, W = Zd.alloc (.cells #[.int .i64 0, .int .i64 0] 23) := ⟨_, rfl⟩
            rw [← hwa, ← hB] at FN
            rw [← hwa] at HT
            rw [← hB] at HBL ⊢
            rw [← hwa]
            clear hwa hB
            refine hK.out _ _ HT.out ?_
            clear hK K
            try simp only [Act.put, List.setIfInBounds_toArray, List.set_cons_zero, List.set_cons_succ]
            refine wa_branch [6] (by decide +kernel) rfl ?_
            refine ar_op 6 rfl rfl (fun K hK => ?_) ar_nil
            go_simp
            go_at_call 22
            refine (Mean_any u3 u4 (xs.drop k) ((ys.take i).drop k) X3 _ (V5.out.ups HT.out) (V6.out.ups HT.out)).mono ?_
            rintro e wq ⟨rfl, hq⟩
            rw [Mb.out]
            have FN := hid (FN.out.ups hq)
            have HT := hid (below_t HT.out hq)
            clear hq
            refine hK.out _ _ HT.out ?_
            clear hK K
            try simp only [Act.put, List.setIfInBounds_toArray, List.set_cons_zero, List.set_cons_succ]
            refine wa_move 7 (some 100) (.tmp 107) _ rfl rfl rfl (by kernel_rfl) rfl rfl HT.out ?_
            try simp only [Act.put, List.setIfInBounds_toArray, List.set_cons_zero, List.set_cons_succ]
            refine wa_ext 8 (some 108) (.tmp 100) 0 _ _ rfl rfl rfl rfl (by kernel_rfl) rfl rfl HT.out ?_
            try simp only [Act.put, List.setIfInBounds_toArray, List.set_cons_zero, List.set_cons_succ]
            refine wa_ext 9 (some 109) (.tmp 100) 1 _ _ rfl rfl rfl rfl (by kernel_rfl) rfl rfl HT.out ?_
            try simp only [Act.put, List.setIfInBounds_toArray, List.set_cons_zero, List.set_cons_succ]
            refine wa_branch [11] (by decide +kernel) rfl ?_
            refine ar_op 11 rfl rfl (fun K hK => ?_) ar_nil
            obtain ⟨fc0, fc1, fz0, fz1⟩ := FN.out
            unfold Oper.wp
            go_simp
            have FN2 := hid (FN.out.put2 b1 b2)
            have HT := hid ((HT.out.setCell (p := ⟨B, 0, none⟩) HBL.out (.int .i64 b1)).setCell (p := ⟨B, 1, none⟩) HBL.out (.int .i64 b2))
            refine hK.out _ _ HT.out ?_
            clear hK K
            try simp only [Act.put, List.setIfInBounds_toArray, List.set_cons_zero, List.set_cons_succ]
            refine wa_asg 12 (some 19) (.tmp 109) _ rfl rfl rfl (by kernel_rfl) rfl rfl HT.out ?_
            try simp only [Act.put, List.setIfInBounds_toArray, List.set_cons_zero, List.set_cons_succ]
            refine wa_done (by decide +kernel) ?_
            go_wp2_with fail
            go_meet
            exact ⟨B, rfl, rfl, FN2, HT⟩
        case rest =>
          obtain ⟨B2, rfl, rfl, F3, hb⟩ := hcut
          have F1 := hid (F1.out.ups hb.out); have F2 := hid (F2.out.ups hb.out)
          have T4 := hid (below_t T3.out hb.out)
          clear hb V5 V6 eu3 eu4 Mb X3 T3
          obtain ⟨Y, hY⟩ : ∃ W, W = wc := ⟨_, rfl⟩
          rw [← hY] at F1 F2 F3 T4 ⊢
          clear hY
          obtain ⟨F2c0, F2c1, _, _⟩ := F2.out
          go_wp2_with fail
          refine (Mul_any a1 a2 one 1 Ja1.out Ja2.out K1.out (i64s (by decide)) _).mono ?_
          rintro e w5 ⟨rfl, hb5⟩
          rw [Mx.out]
          clear F2c0 F2c1
          have F1 := hid (F1.out.ups hb5)
          have F2 := hid (F2.out.ups hb5)
          have F3 := hid (F3.out.ups hb5)
          have T5 := hid (below_t T4.out hb5)
          clear hb5
          have A0 : Below w5.heap.size w5 (w5.alloc (.cells #[.int .i64 (P1), .int .i64 (1)] 23)) := (Below.refl _ _).alloc (Nat.le_refl _) _
          have F1 := hid (F1.out.ups A0)
          have F2 := hid (F2.out.ups A0)
          have F3 := hid (F3.out.ups A0)
          have F4 := hid (fr_new w5 (P1) (1))
          have T5 := hid (below_t T5.out A0)
          clear A0
          obtain ⟨F3c0, F3c1, _, _⟩ := F3.out
          go_wp2_with fail
          refine (Mul_any b1 b2 two 1 Jb1.out Jb2.out K2.out (i64s (by decide)) _).mono ?_
          rintro e w6 ⟨rfl, hb6⟩
          rw [My.out]
          clear F3c0 F3c1
          have F1 := hid (F1.out.ups hb6)
          have F2 := hid (F2.out.ups hb6)
          have F3 := hid (F3.out.ups hb6)
          have F4 := hid (F4.out.ups hb6)
          have T6 := hid (below_t T5.out hb6)
          clear hb6
          have A0 : Below w6.heap.size w6 (w6.alloc (.cells #[.int .i64 (P2), .int .i64 (1)] 23)) := (Below.refl _ _).alloc (Nat.le_refl _) _
          have F1 := hid (F1.out.ups A0)
          have F2 := hid (F2.out.ups A0)
          have F3 := hid (F3.out.ups A0)
          have F4 := hid (F4.out.ups A0)
          have F5 := hid (fr_new w6 (P2) (1))
          have T6 := hid (below_t T6.out A0)
          clear A0
          obtain ⟨F4c0, F4c1, _, _⟩ := F4.out
          obtain ⟨F5c0, F5c1, _, _⟩ := F5.out
          go_wp2_with fail
          refine (Add_any P1 1 P2 1 JP1.out (i64s (by decide)) JP2.out (i64s (by decide)) _).mono ?_
          rintro e w7 ⟨rfl, hb7⟩
          rw [Ms.out]
          clear F4c0 F4c1 F5c0 F5c1
          have F1 := hid (F1.out.ups hb7)
          have F2 := hid (F2.out.ups hb7)
          have F3 := hid (F3.out.ups hb7)
          have F4 := hid (F4.out.ups hb7)
          have F5 := hid (F5.out.ups hb7)
          have T7 := hid (below_t T6.out hb7)
          clear hb7
          have A0 : Below w7.heap.size w7 (w7.alloc (.cells #[.int .i64 (P1 + P2), .int .i64 (1)] 23)) := (Below.refl _ _).alloc (Nat.le_refl _) _
          have F1 := hid (F1.out.ups A0)
          have F2 := hid (F2.out.ups A0)
          have F3 := hid (F3.out.ups A0)
          have F4 := hid (F4.out.ups A0)
          have F5 := hid (F5.out.ups A0)
          have F6 := hid (fr_new w7 (P1 + P2) (1))
          have T7 := hid (below_t T7.out A0)
          clear A0
          obtain ⟨F1c0, F1c1, _, _⟩ := F1.out
          go_wp2_with fail
          refine (Mul_any A1 A2 (one + two) 1 JA1.out JA2.out K3.out (i64s (by decide)) _).mono ?_
          rintro e w8 ⟨rfl, hb8⟩
          rw [Mt.out]
          clear F1c0 F1c1
          have F1 := hid (F1.out.ups hb8)
          have F2 := hid (F2.out.ups hb8)
          have F3 := hid (F3.out.ups hb8)
          have F4 := hid (F4.out.ups hb8)
          have F5 := hid (F5.out.ups hb8)
          have F6 := hid (F6.out.ups hb8)
          have T8 := hid (below_t T7.out hb8)
          clear hb8
          have A0 : Below w8.heap.size w8 (w8.alloc (.cells #[.int .i64 (P1 + P2), .int .i64 (1)] 23)) := (Below.refl _ _).alloc (Nat.le_refl _) _
          have F1 := hid (F1.out.ups A0)
          have F2 := hid (F2.out.ups A0)
          have F3 := hid (F3.out.ups A0)
          have F4 := hid (F4.out.ups A0)
          have F5 := hid (F5.out.ups A0)
          have F6 := hid (F6.out.ups A0)
          have F7 := hid (fr_new w8 (P1 + P2) (1))
          have T8 := hid (below_t T8.out A0)
          clear A0
          obtain ⟨F6c0, F6c1, _, _⟩ := F6.out
          obtain ⟨F7c0, F7c1, _, _⟩ := F7.out
          go_wp2
          go_ret
          exact ⟨by simp, T8.out⟩
end Go.Proofs.Ythmakdlmadgpcaa

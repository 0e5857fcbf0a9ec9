/- Contracts of the functions of package codec and lemmas for them: what each call returns and what becomes of memory, for every input within the bounds that each theorem states. -/
import Derived.Test.YtiklpimnmbjenaaP
import Derived.Lib.ConvBytes
namespace Go.Proofs.Ytiklpimnmbjenaa
open Go.RowKit Go
set_option linter.unusedVariables false
set_option linter.unusedSimpArgs false

theorem at_up {w w' : World} {t : T} {v : Value} (h : At w w.heap.size t v) (hb : Below w.heap.size w w') : At w' w'.heap.size t v :=
  AtP.kept (fun k hk => ⟨Nat.lt_of_lt_of_le hk hb.size, hb.block k hk⟩) h
theorem row_up {w w' : World} {g n cap : Nat} {xs : List Int} (h : Row w g n cap xs) (hb : Below w.heap.size w w') : Row w' g n cap xs := row_below h hb (row_lt h)
theorem cell_up {w w' : World} {b o : Nat} {v : Value} (h : w.cell? ⟨b, o, none⟩ = some v) (hb : Below w.heap.size w w') : w'.cell? ⟨b, o, none⟩ = some v :=
  (hb.cell (p := ⟨b, o, none⟩) (World.block_lt_of_cell? w _ h)).trans h
theorem below_tr {w a b : World} (h : Below w.heap.size w a) (k : Below a.heap.size a b) : Below w.heap.size w b := h.trans (k.mono h.size)
theorem below_al (w : World) (o : Obj) : Below w.heap.size w (w.alloc o) := (Below.refl _ _).alloc (Nat.le_refl _) _

theorem conv_row {w : World} {g n cap : Nat} {xs : List Int} (h : Row w g n cap xs) (hn : xs.length = n) : (convert 27 9 (.slice (some ⟨g, 0, none⟩) n cap)).run Try.prog w = .ok (.string (strOfNums xs)) w :=
  run_convert_bytes_arg (P := Try.prog) w 27 5 Try.underlying27 (by kernel_rfl) g 0 n cap xs hn (fun i hi => by
    have := h.cellAt i (by omega)
    rw [Nat.zero_add, this]
    simp [List.getD, List.getElem?_eq_getElem (show i < xs.length by omega)]) 9 Try.underlying9

/-- the bytes of a string that has been turned into a slice -/
theorem conv_in (w : World) (s : ByteArray) : InB (Lib.bytesWorld w 5 s) (.slice (some ⟨w.heap.size, 0, none⟩) s.size (grownCap w s.size 0 5)) (strBytes s) := by
  refine ⟨?_, some ⟨w.heap.size, 0, none⟩, _, by rw [strBytes_len], ?_, fun _ => ⟨w.heap.size, 0, rfl, by rw [Lib.bytesWorld_size]; omega, fun i u hi => ?_⟩⟩
  · intro x hx
    simp [strBytes] at hx
    obtain ⟨b, _, rfl⟩ := hx
    have := b.toNat_lt
    omega
  · rw [strBytes_len]; exact grownCap_ge w s.size 0 5
  · have hlt := (List.getElem?_eq_some_iff.1 hi).1
    rw [strBytes_len] at hlt
    rw [Nat.zero_add, Lib.bytesWorld_cell w 5 s i hlt]
    simp [strBytes] at hi
    obtain ⟨b, hb, rfl⟩ := hi
    simp [List.getD, hb]
theorem conv_below (w : World) (s : ByteArray) : Below w.heap.size w (Lib.bytesWorld w 5 s) :=
  ⟨rfl, rfl, rfl, by rw [Lib.bytesWorld_size]; omega, fun k hk => Lib.bytesWorld_at_old w 5 s k hk⟩

def bads : List (ByteArray) := [⟨#[]⟩, ⟨#[1, 128, 0]⟩, ⟨#[1, 5, 0]⟩, ⟨#[2, 3, 97]⟩]
theorem bads_dec : ∀ s ∈ bads, decB (strBytes s) = none ∧ (strBytes s).length ≤ 100 := by
  intro s hs
  simp [bads] at hs
  rcases hs with rfl | rfl | rfl | rfl <;> exact ⟨rfl, by decide⟩

set_option maxRecDepth 100000 in
set_option maxHeartbeats 2000000 in
theorem sane_any (w : World) : Calls Try.prog 6 #[] w fun e w' => e = .returned (.bool true) ∧ Below w.heap.size w w' := by
  go_enter Try.func6, Try.ntmps6
  go_wp2_with fail
  refine (int_any _ _).mono ?_
  rintro e w1 ⟨rfl, hb1⟩
  go_wp2_with fail
  refine (enc_3 _).mono ?_
  rintro e w2 ⟨g2, rfl, hr2, hg2, hb2⟩
  have B2 := hid (hb1.trans (hb2.mono hb1.size)); have R2 := hid hr2; clear hb1 hb2 hr2
  have s2 := B2.out.size
  go_wp2_with fail
  refine (int_any _ _).mono ?_
  rintro e w3 ⟨rfl, hb3⟩
  go_wp2_with fail
  refine (text_any _ _).mono ?_
  rintro e w4 ⟨rfl, hb4⟩
  have B4 := hid (hb3.trans (hb4.mono hb3.size)); clear hb3 hb4
  have s4 := B4.out.size
  go_wp2_with fail
  refine (list_any _ _ _ _).mono ?_
  rintro e w5 ⟨rfl, hb5⟩
  have s5 := hb5.size
  simp at s5
  have A5 : Hid (At w5 w5.heap.size tL (VL (some ⟨w4.heap.size, 0, none⟩) 2 2)) := by
    have hc : ∀ o, w5.cell? ⟨w4.heap.size, o, none⟩ = _ := fun o => hb5.cell (p := ⟨w4.heap.size, o, none⟩) (by simp)
    exact at_tL (by omega) (fun _ => undef) (by rw [hc]; simp [go_sem]) (by rw [hc]; simp [go_sem]) (by rw [hc]; simp [go_sem]) (by rw [hc]; simp [go_sem]) (by rw [hc]; simp [go_sem]) (by rw [hc]; simp [go_sem]) (by rw [hc]; simp [go_sem]) (by rw [hc]; simp [go_sem])
  have B5 : Hid (Below w.heap.size w w5) := B2.out.trans ((B4.out.mono s2).trans (((Below.refl w.heap.size w4).alloc (by omega) _).trans (hb5.mono (by simp; omega))))
  have R5 : Hid (Row w5 g2 2 2 [1, 5]) := by
    have := row_lt R2.out
    exact row_below (row_below R2.out B4.out (by omega)) ((((Below.refl w4.heap.size w4).alloc (by omega) _)).trans (hb5.mono (by simp))) (by omega)
  clear hb5
  go_wp2_with fail
  obtain ⟨hv, hhv⟩ : ∃ hv, hv = w5.heap.size := ⟨_, rfl⟩
  have c5 : ∀ W, Below (w5.alloc (.cells #[.int .i64 3, .int .i64 0, .string ⟨#[]⟩, .slice (some ⟨w4.heap.size, 0, none⟩) 2 2] 24)).heap.size (w5.alloc (.cells #[.int .i64 3, .int .i64 0, .string ⟨#[]⟩, .slice (some ⟨w4.heap.size, 0, none⟩) 2 2] 24)) W →
      W.cell? ⟨w5.heap.size, 0, none⟩ = some (.int .i64 3) ∧ W.cell? ⟨w5.heap.size, 1, none⟩ = some (.int .i64 0) ∧ W.cell? ⟨w5.heap.size, 2, none⟩ = some (.string ⟨#[]⟩) ∧ W.cell? ⟨w5.heap.size, 3, none⟩ = some (.slice (some ⟨w4.heap.size, 0, none⟩) 2 2) :=
    fun W hW => ⟨cell_up (by simp [go_sem]) hW, cell_up (by simp [go_sem]) hW, cell_up (by simp [go_sem]) hW, cell_up (by simp [go_sem]) hW⟩
  have C5 := hid c5; clear c5
  refine (enc_L (at_up A5.out (below_al _ _))).mono ?_
  rintro e w6 ⟨g6, rfl, hr6, hg6, hb6⟩
  have A6 := hid (at_up (at_up A5.out (below_al _ _)) hb6)
  have R6 := hid hr6; have RA6 := hid (row_up (row_up R5.out (below_al _ _)) hb6)
  have B6 := hid (below_tr (below_tr B5.out (below_al _ _)) hb6)
  have X6 := hid hb6
  clear hr6 hb6
  go_wp2_with fail
  refine (dec_L (row_in R6.out rfl (by decide))).mono ?_
  rintro e w7 ⟨k, n, s, p, len, cap, rfl, ha7, hb7⟩
  have A7 := hid (at_up A6.out hb7)
  have R7 := hid (row_up R6.out hb7); have RA7 := hid (row_up RA6.out hb7)
  have B7 := hid (below_tr B6.out hb7); have AD7 := hid ha7
  have X7 := hid (below_tr X6.out hb7)
  obtain ⟨e0, e1, e2, e3⟩ := C5.out w7 X7.out
  clear ha7 hb7
  have hlt : w5.heap.size < w7.heap.size := by have := X7.out.size; simp at this; omega
  go_wp2_with fail
  refine (size_L (at_up A7.out (below_al _ _))).mono ?_
  rintro e w8 ⟨rfl, hb8⟩
  have Y8 := hid (below_tr (below_al _ _) hb8)
  have A8 := hid (at_up A7.out Y8.out); have AD8 := hid (at_up AD7.out Y8.out)
  have hcA : (convert 27 9 (.slice (some ⟨g2, 0, none⟩) 2 2)).run Try.prog w8 = .ok (.string ⟨#[1, 5]⟩) w8 := conv_row (row_up RA7.out Y8.out) rfl
  have hcB : (convert 27 9 (.slice (some ⟨g6, 0, none⟩) 9 9)).run Try.prog w8 = .ok (.string ⟨#[3, 2, 1, 200, 1, 2, 2, 97, 98]⟩) w8 := conv_row (row_up R7.out Y8.out) rfl
  have B8 := hid (below_tr B7.out Y8.out)
  obtain ⟨e0', e1', e2', e3'⟩ := C5.out w8 (below_tr X7.out Y8.out)
  have d0 : w8.cell? ⟨w7.heap.size, 0, none⟩ = some (.int .i64 k) := cell_up (by simp [go_sem]) hb8
  have d1 : w8.cell? ⟨w7.heap.size, 1, none⟩ = some (.int .i64 n) := cell_up (by simp [go_sem]) hb8
  have d2 : w8.cell? ⟨w7.heap.size, 2, none⟩ = some (.string s) := cell_up (by simp [go_sem]) hb8
  have d3 : w8.cell? ⟨w7.heap.size, 3, none⟩ = some (.slice p len cap) := cell_up (by simp [go_sem]) hb8
  clear hb8 e0 e1 e2 e3
  go_wp2_with fail
  refine (same_L A8.out AD8.out).mono ?_
  rintro e w9 ⟨rfl, hb9⟩
  have B9 := hid (below_tr B8.out hb9)
  clear hb9 hcA hcB e0' e1' e2' e3' d0 d1 d2 d3
  go_wp2_with fail
  refine (text_any _ _).mono ?_
  rintro e w10 ⟨rfl, hb10⟩
  have B10 := hid (below_tr B9.out hb10); clear hb10
  go_wp2_with fail
  refine (list_any _ _ _ _).mono ?_
  rintro e w11 ⟨rfl, hb11⟩
  have B11 := hid (below_tr B10.out hb11); clear hb11
  go_wp2_with fail
  refine (same_no _).mono ?_
  rintro e w12 ⟨rfl, hb12⟩
  have B12 := hid (below_tr B11.out hb12); clear hb12
  go_wp2_with fail
  have hcv : ∀ (s : ByteArray) (W : World), (convert 9 27 (.string s)).run Try.prog W = .ok (.slice (some ⟨W.heap.size, 0, none⟩) s.size (grownCap W s.size 0 5)) (Lib.bytesWorld W 5 s) := fun s W => Lib.run_convert_string_bytes W 9 27 5 s Try.underlying9 Try.underlying27 (by kernel_rfl)
  obtain ⟨W0, hW0⟩ : ∃ W0, W0 = w12.alloc (.cells #[.string ⟨#[]⟩, .string ⟨#[1, 128, 0]⟩, .string ⟨#[1, 5, 0]⟩, .string ⟨#[2, 3, 97]⟩] 9) := ⟨_, rfl⟩
  have HW := hid hW0; clear hW0
  go_loopw [79] (fun iv wr => ∃ i : Nat, i ≤ 4 ∧ iv = .int .i64 i ∧ Hid (Below (w12.heap.size + 1) W0 wr)) (fun iv _ => 4 - (intOf iv).toNat)
  case atStart => exact ⟨0, by omega, rfl, by rw [HW.out]; exact Below.refl _ _⟩
  case round =>
    obtain ⟨i, hi, rfl, HB⟩ := hrel
    have hw0 : W0.heap.size = w12.heap.size + 1 := by rw [HW.out]; simp
    have hsz : w12.heap.size + 1 ≤ wr.heap.size := by have := HB.out.size; omega
    have BB : Hid (Below w.heap.size w wr) := by
      have h0 : Below w12.heap.size w12 W0 := by rw [HW.out]; exact below_al _ _
      exact below_tr B12.out (h0.trans (HB.out.mono (by omega)))
    by_cases hlt : i < 4
    · obtain ⟨s', hs', hcell⟩ : ∃ s', s' ∈ bads ∧ wr.cell? ⟨w12.heap.size, i, none⟩ = some (.string s') := by
        rw [HB.out.cell (p := ⟨w12.heap.size, i, none⟩) (by simp), HW.out]
        match i, hlt with
        | 0, _ => exact ⟨⟨#[]⟩, by simp [bads], by simp [go_sem]⟩
        | 1, _ => exact ⟨⟨#[1, 128, 0]⟩, by simp [bads], by simp [go_sem]⟩
        | 2, _ => exact ⟨⟨#[1, 5, 0]⟩, by simp [bads], by simp [go_sem]⟩
        | 3, _ => exact ⟨⟨#[2, 3, 97]⟩, by simp [bads], by simp [go_sem]⟩
      have HD := hid (bads_dec s' hs'); clear hs'
      go_wp2_with fail
      refine (dec_bad (conv_in wr s') HD.out.2 HD.out.1).mono ?_
      rintro e w13 ⟨rfl, hb13⟩
      have B13 := hid (below_tr (conv_below wr s') hb13); clear hb13
      have s13 := B13.out.size
      go_wp2
      go_roundw
      case rel => exact ⟨i + 1, by omega, by go_num, HB.out.trans ((B13.out.mono hsz).trans ((Below.refl _ _).alloc (by omega) _))⟩
      case measure => simp [intOf]; omega
    · obtain rfl : i = 4 := by omega
      go_wp2_with fail
      refine (check_0 _).mono ?_
      rintro e w13 ⟨rfl, hb13⟩
      go_wp2
      go_ret
      exact ⟨by simp, below_tr BB.out hb13⟩
end Go.Proofs.Ytiklpimnmbjenaa

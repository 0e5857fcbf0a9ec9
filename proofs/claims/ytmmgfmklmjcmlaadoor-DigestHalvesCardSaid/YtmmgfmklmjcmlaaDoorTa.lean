/- The statement on tags: Tagged is the hash of the hash of the tag and the bytes, whatever the tag and the bytes. -/
import Derived.Test.YtmmgfmklmjcmlaaDoorAp
namespace Go.Proofs.YtmmgfmklmjcmlaaDoor
open Go.RowKit Go
set_option linter.unusedVariables false
set_option linter.unusedSimpArgs false
/-- the outcome 'true' -/
def RetT (w : World) (e : Ending) (w' : World) : Prop := e = .returned (.bool true) ∧ Below w.heap.size w w'
set_option maxRecDepth 100000 in
set_option maxHeartbeats 4000000 in
theorem tags_any (tag : ByteArray) (v : Value) (b : List UInt8) (w : World) (hv : BS w v b) (hk : Konst w) : Calls Tryd.prog 5 #[.string tag, v] w (RetT w) := by
  have HV := hid hv; have HK := hid hk
  obtain ⟨p, cap, rfl⟩ := hv.form
  clear hv hk
  have hbl : b.length < 9223372036854775808 := by
    rcases HV.out with ⟨_, h⟩ | ⟨a, c, _, h1, h2, _⟩
    · rw [h]; simp
    · unfold maxLen at h2; omega
  generalize hn : b.length = n at *
  have HN := hid hn; clear hn
  go_enter Tryd.func5, Tryd.ntmps5
  go_wp2_with fail
  refine (sane_any _ HK.out).mono ?_
  rintro e w1 ⟨rfl, hb1⟩
  have HB1 := hid hb1; have HK1 := hid (HK.out.ups hb1); have HV1 := hid (HV.out.ups hb1)
  clear hb1
  by_cases ht : 600 < tag.size
  · go_wp2
    go_ret
    exact ⟨rfl, HB1.out⟩
  by_cases hl : 600 < n
  · go_wp2
    go_ret
    exact ⟨rfl, HB1.out⟩
  have hcv := Lib.run_convert_string_bytes (P := Tryd.prog) w1 9 22 5 tag Tryd.underlying9 Tryd.underlying22 Tryd.underlying5
  go_wp2_with fail
  have hbs := str_below w1 tag
  refine (Sum_d _ tag.data.toList _ (str_bs w1 tag (by omega)) (HK1.out.ups hbs) (by simp; omega)).mono ?_
  rintro e w2 ⟨v2, hd2, rfl, hb2⟩
  have HB2 := hid (below_tr HB1.out (below_tr hbs hb2)); have HK2 := hid (HK1.out.ups (below_tr hbs hb2)); have HV2 := hid (HV1.out.ups (below_tr hbs hb2))
  clear hbs hb2 hcv
  have H600 := hid (show tag.size ≤ 600 ∧ n ≤ 600 by omega)
  clear ht hl hbl
  go_wp2_with (first | (refine wpl_alloc (some 5) rfl rfl rfl ?_; intro w3 g5 hg5 hr5 hb3 hs3; have HR5 := hid hr5; have HB3 := hid (below_tr HB2.out hb3); have HK3 := hid (HK2.out.ups hb3); have HG3 := hid hb3; have HG5 := hid (show g5 = w2.heap.size ∧ w3.heap.size = w2.heap.size + 1 from ⟨hg5, hs3⟩); clear hg5 hr5 hb3 hs3) | (refine wpl_put (.tmp 5) (.tmp 18) rfl rfl g5 v2 (sha tag.data.toList) rfl rfl HR5.out hd2 ?_; intro w4 hc4 hr4 ho4; have HC4 := hid hc4; have HO4 := hid ho4; have HR4 := hid hr4; clear hc4 hr4 ho4))
  have HB4 := hid (HO4.out.below HB3.out (by have := HB3.out.size; exact this) (by rw [HG5.out.1]; exact HB2.out.size))
  have HK4 := hid (HO4.out.konst HK3.out (by rw [HG5.out.1]; have := HK2.out.lt; omega))
  have HV4 : Hid (BS w4 (.slice p n cap) b) := hid (HV2.out.grown (W := w3) HG3.out HO4.out.1 (by rw [HG5.out.1]; exact Nat.le_refl _))
  clear HB3 HK3 HG3 HO4 HR5 HB2 HK2 HV2 HG5 HB1 HK1 HV1 HV
  have h0 := HN.out
  have HS := hid ((Below.refl w4.heap.size w4).drew)
  have hlt := hd2.len'
  go_region_held3 (fun W => Below w4.heap.size w4 W) (first | exact HS.out | exact HS1.out | exact HS2.out | exact HS3.out | exact HS4.out | exact HS5.out | exact (Below.drew (Below.alloc ‹Below w4.heap.size w4 _› (Below.size ‹_›) _)) | exact (Below.alloc ‹Below w4.heap.size w4 _› (Below.size ‹_›) _)) ((first
    | (go_at_call 14; refine (Tagged_any tag _ b _ (HV4.out.ups ‹_›) (HK4.out.ups ‹_›) (by have := H600.out; omega) (by have := H600.out; have := HN.out; omega)).mono ?_; rintro e w7 ⟨v7, hd7, rfl, hb7⟩; have HS3 := hid (below_tr ‹Below w4.heap.size w4 _› hb7); have HO6 := hid (HO6.out.ups hb7); clear hb7)
    | (go_at_call 14; refine (Tagged_any tag _ b _ (HV4.out.ups ‹_›) (HK4.out.ups ‹_›) (by have := H600.out; omega) (by have := H600.out; have := HN.out; omega)).mono ?_; rintro e w7 ⟨v7, hd7, rfl, hb7⟩; have HS3 := hid (below_tr ‹Below w4.heap.size w4 _› hb7); have HO5 := hid (HO5.out.ups hb7); clear hb7)
    | (go_at_call 14; refine (Tagged_any tag _ b _ (HV4.out.ups ‹_›) (HK4.out.ups ‹_›) (by have := H600.out; omega) (by have := H600.out; have := HN.out; omega)).mono ?_; rintro e w7 ⟨v7, hd7, rfl, hb7⟩; have HS3 := hid (below_tr ‹Below w4.heap.size w4 _› hb7); clear hb7)
    | (go_at_call 12; refine (Sum_d _ _ _ (HO6.out.bs (by simp [sha_length]; omega)) (HK4.out.ups ‹_›) (by have := H600.out; have := HN.out; simp [sha_length]; omega)).mono ?_; rintro e w8 ⟨v8, hd8, rfl, hb8⟩; have HS4 := hid (below_tr ‹Below w4.heap.size w4 _› hb8); have hq := eqD_true hd7 hd8 (by simp [tagd]); clear hb8)
    | (refine step_ob rfl (.tmp 22) (.tmp 23) rfl rfl w4.heap.size [] (sha tag.data.toList) (.inr ⟨rfl, _, rfl⟩) (hd2.bs (HC4.out.ups ‹_›) (Nat.lt_of_lt_of_le HR4.out.2.2 (Below.size ‹_›))) (by rw [sha_length]; simp) (Below.size ‹_›) ?_; intro v5 w5 ho5 hb5; have HS1 := hid (Below.trans ‹Below w4.heap.size w4 _› hb5); have HO5 := hid ho5; clear ho5 hb5)
    | (refine step_ob rfl (.tmp 24) (.tmp 25) rfl rfl w4.heap.size _ b HO5.out (HV4.out.ups ‹_›) (by have := H600.out; have := HN.out; simp [sha_length]; omega) (Below.size ‹_›) ?_; intro v6 w6 ho6 hb6; have HS2 := hid (Below.trans ‹Below w4.heap.size w4 _› hb6); have HO6 := hid ho6; clear ho6 hb6)))
  all_goals
    go_wp2
    go_ret
    exact ⟨rfl, HB4.out.trans (HS4.out.mono HB4.out.size)⟩
end Go.Proofs.YtmmgfmklmjcmlaaDoor

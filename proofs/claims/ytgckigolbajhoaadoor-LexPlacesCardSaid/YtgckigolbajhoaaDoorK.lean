/- Contract: the reader's signOrComment. -/
import Derived.Test.YtgckigolbajhoaaDoorJ
namespace Go.Proofs.YtgckigolbajhoaaDoor
open Go.RowKit Go
set_option linter.unusedVariables false
set_option linter.unusedSimpArgs false
theorem hasPrefix_slashes (l : List UInt8) : Lib.hasPrefix l [47, 47] = L9.slashes l := by
  unfold Lib.hasPrefix
  match l with
  | [] => rfl
  | [c] =>
    simp [List.isPrefixOf, L9.slashes]
  | c :: d :: r =>
    have e1 : ∀ x : UInt8, ((47 : UInt8) == x) = decide (x.toNat = 47) := byte_all (by decide +kernel)
    simp [List.isPrefixOf, L9.slashes, e1]
set_option maxRecDepth 100000 in
set_option maxHeartbeats 8000000 in
theorem soc_any {rb base a : Nat} {s : ByteArray} {v : Value} {l : List Tk} (c : UInt8) (w : World) (h : Rdr w rb base s a v l) (hs : s.size ≤ 70000) (hc : (lst s)[a]? = some c) (hl : l.length ≤ 100000) :
    Calls Tryd.prog 44 #[.pointer (some ⟨rb, 0, none⟩)] w (Scn w rb base s a l (if L9.slashes ((lst s).drop a) = true then .skip (((lst s).drop a).takeWhile L9.nLF).length else .tok 3 [c] 0 1)) := by
  have hsz : (lst s).length = s.size := rfl
  have ha : a < s.size := by rw [← hsz]; exact (List.getElem?_eq_some_iff.1 hc).1
  have hx := lst_extract s a s.size
  rw [List.take_of_length_le (by simp)] at hx
  obtain ⟨q, hq⟩ : ∃ q, q = s.extract a s.size := ⟨_, rfl⟩
  have hlq : lst q = (lst s).drop a := by rw [hq, hx]
  have hqs : q.size = s.size - a := by
    have : (lst q).length = q.size := rfl
    rw [← this, hlq, List.length_drop, hsz]
  have HP := hid (Tryd.strings_HasPrefix q ⟨#[47, 47]⟩ w.drew)
  rw [show ((⟨#[47, 47]⟩ : ByteArray).data.toList) = [47, 47] from rfl, hasPrefix_slashes, show q.data.toList = (lst s).drop a from hlq] at HP
  have HCU := hid (cut_any q w.drew (by omega))
  rw [hlq] at HCU
  have HSG := hid (sign_any c w.drew (h.below (Below.refl _ w).drew) hs hc hl)
  obtain ⟨t, ht⟩ : ∃ t, t = ((lst s).drop a).takeWhile L9.nLF := ⟨_, rfl⟩
  have htl : t.length ≤ 70000 := by rw [ht]; refine Nat.le_trans (L9.tw_le _ _) ?_; rw [List.length_drop]; omega
  rw [← ht] at HCU ⊢
  have hsize : (ByteArray.mk t.toArray).size = t.length := by show t.toArray.size = _; simp
  have HQ := hid hq
  have H1 := hid (show (a : Int) ≤ s.size by omega)
  have HW := hid (wrap_id (x := (a : Int) + t.length) (by omega) (by omega))
  have HSZ := hid hsize
  have HC0 := hid (h.blk.cell 0 _ rfl)
  have HC1 := hid (h.blk.cell 1 _ rfl)
  have HR := hid h
  clear ht hq hx hlq hqs hsz hsize h hc
  have c0 := HC0.out
  have c1 := HC1.out
  have h1 := H1.out
  cases hsl : L9.slashes ((lst s).drop a)
  · rw [hsl] at HP
    rw [if_neg (by decide)]
    clear hsl
    go_enter Tryd.func44, Tryd.ntmps44
    go_wp2_with fail
    go_region
    rw [← HQ.out]
    clear c0 c1 h1
    go_wp2_with fail
    refine HP.out.mono ?_
    rintro e w1 ⟨rfl, rfl⟩
    go_wp2_with fail
    refine HSG.out.mono ?_
    rintro e w2 ⟨hk, rfl, u, hu⟩
    have HU := hid (show Scn w rb base s a l (L9.Stp.tok 3 [c] 0 1) unit w2 from ⟨(Kpb.of (Below.refl _ _).drew).trans hk, rfl, u, hu⟩)
    clear hk hu
    go_wp2
    go_end0
    exact HU.out
  · rw [hsl] at HP
    rw [if_pos rfl]
    clear hsl
    go_enter Tryd.func44, Tryd.ntmps44
    go_wp2_with fail
    go_region
    rw [← HQ.out]
    clear c0 c1 h1
    go_wp2_with fail
    refine HP.out.mono ?_
    rintro e w1 ⟨rfl, rfl⟩
    go_wp2_with fail
    refine HCU.out.mono ?_
    rintro e w2 ⟨⟨y, b, rfl⟩, hb⟩
    have hbw : Below w.heap.size w w2 := ((Below.refl w.heap.size w).drew).trans hb
    have hr2 := HR.out.below hbw
    have hsz := HSZ.out
    have hw := HW.out
    have c1 := hr2.blk.cell 1 _ rfl
    have f1 := hr2.blk.frozen 1
    have HU := hid (show Scn w rb base s a l (L9.Stp.skip t.length) unit (w2.setCell ⟨rb, 1, none⟩ (.int .i64 ((a + t.length : Nat) : Int))) from
      ⟨(Kpb.of (hbw.mono HR.out.le)).trans (Kpb.set _ _ _ _ _), rfl, v, hr2.at' _⟩)
    clear hb hbw hr2
    go_wp2
    go_end0
    exact HU.out
end Go.Proofs.YtgckigolbajhoaaDoor

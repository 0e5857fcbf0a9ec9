/- Contract: the reader's name. -/
import Derived.Test.YtgckigolbajhoaaDoorG
namespace Go.Proofs.YtgckigolbajhoaaDoor
open Go.RowKit Go
set_option linter.unusedVariables false
set_option linter.unusedSimpArgs false
abbrev unit : Ending := .returned (.tuple #[])
/-- a method of the reader ends so -/
def Scn (w : World) (rb base : Nat) (s : ByteArray) (a : Nat) (l : List Tk) (st : L9.Stp) (e : Ending) (w' : World) : Prop :=
  Kpb base rb w w' ∧ match st with
    | .skip n => e = unit ∧ ∃ u, Rdr w' rb base s (a + n) u l
    | .tok k t v n => e = unit ∧ ∃ u, Rdr w' rb base s (a + n) u (l ++ [⟨k, t, v, a⟩])
    | .bad => e = pan a
set_option maxRecDepth 100000 in
set_option maxHeartbeats 8000000 in
theorem rname_any {rb base a : Nat} {s : ByteArray} {v : Value} {l : List Tk} (w : World) (h : Rdr w rb base s a v l) (hk : Konst w) (hs : s.size ≤ 70000) (ha : a ≤ s.size) (hl : l.length ≤ 100000) :
    Calls Tryd.prog 41 #[.pointer (some ⟨rb, 0, none⟩)] w (Scn w rb base s a l (if L9.nm (((lst s).drop a).takeWhile L9.isP) = true then .tok 1 (((lst s).drop a).takeWhile L9.isP) 0 (((lst s).drop a).takeWhile L9.isP).length else .bad)) := by
  have hal : Below w.heap.size w (w.alloc (.cells ([2, 3, 4].map (Value.int .u8)).toArray 49)) := (Below.refl _ w).alloc (Nat.le_refl _) _
  have HN := hid (next_any w.heap.size 3 3 [2, 3, 4] _ (h.below hal) (hk.up hal) (by unfold maxLen; omega) ha rfl (by omega) (zs_new w _ 49) (by simp))
  rw [tw_eq _ _ inC_P] at HN
  have hlen : (((lst s).drop a).takeWhile L9.isP).length ≤ s.size := by
    refine Nat.le_trans (L9.tw_le _ _) ?_
    rw [List.length_drop]
    have : (lst s).length = s.size := rfl
    omega
  obtain ⟨t, ht⟩ : ∃ t, t = ((lst s).drop a).takeWhile L9.isP := ⟨_, rfl⟩
  rw [← ht] at HN hlen ⊢
  have HNM := hid (fun (W : World) (hW : Below w.heap.size w W) => name_any ⟨t.toArray⟩ W (hk.up hW) (by unfold maxLen; show t.toArray.size ≤ _; simp; omega))
  rw [lst_mk] at HNM
  have HRE := hid (fun (W : World) (hW : Below w.heap.size w W) => refuse_any W (h.below hW))
  have HTK := hid (fun (W : World) (hW : Below w.heap.size w W) => take_any 1 t 0 0 t.length W (h.below hW) (by omega) (by omega) hl)
  have HBA := hid hal
  have HLE := hid h.le
  have hsize : (ByteArray.mk t.toArray).size = t.length := by show t.toArray.size = _; simp
  have HSZ := hid hsize
  clear ht hal hk h hlen hsize
  cases hn : L9.nm t
  · rw [hn] at HNM
    rw [if_neg (by decide)]
    clear hn
    go_enter Tryd.func41, Tryd.ntmps41
    go_wp2_with fail
    refine HN.out.mono ?_
    rintro e w1 ⟨rfl, hb⟩
    have HB := hid (HBA.out.trans (hb.mono HBA.out.size))
    clear hb
    go_wp2_with fail
    refine (HNM.out _ HB.out).mono ?_
    rintro e w2 ⟨rfl, hb⟩
    have HB2 := hid (HB.out.trans (hb.mono HB.out.size))
    clear hb
    go_wp2_with fail
    refine (HRE.out _ HB2.out).mono ?_
    rintro e w3 ⟨rfl, rfl⟩
    exact ⟨rfl, Kpb.of (HB2.out.mono HLE.out), rfl⟩
  · rw [hn] at HNM
    rw [if_pos rfl]
    clear hn
    go_enter Tryd.func41, Tryd.ntmps41
    go_wp2_with fail
    refine HN.out.mono ?_
    rintro e w1 ⟨rfl, hb⟩
    have HB := hid (HBA.out.trans (hb.mono HBA.out.size))
    clear hb
    go_wp2_with fail
    refine (HNM.out _ HB.out).mono ?_
    rintro e w2 ⟨rfl, hb⟩
    have HB2 := hid (HB.out.trans (hb.mono HB.out.size))
    clear hb
    go_wp2_with fail
    refine (HTK.out _ HB2.out).mono ?_
    rintro e w3 ⟨rfl, ⟨u, hu⟩, hk⟩
    have HU := hid (show Scn w rb base s a l (L9.Stp.tok 1 t 0 t.length) unit w3 from ⟨(Kpb.of (HB2.out.mono HLE.out)).trans hk, rfl, u, hu⟩)
    clear hu hk
    go_wp2
    go_end0
    exact HU.out
end Go.Proofs.YtgckigolbajhoaaDoor

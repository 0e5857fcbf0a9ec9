/- Contracts: the reader's refuse and next. -/
import Derived.Test.YtgckigolbajhoaaDoorNm2
import Derived.Test.YtgckigolbajhoaaDoorM9
namespace Go.Proofs.YtgckigolbajhoaaDoor
open Go.RowKit Go
set_option linter.unusedVariables false
set_option linter.unusedSimpArgs false
/-- the panic of a place -/
abbrev pan (a : Nat) : Ending := .panicked [{ v := .iface 42 (.int .i64 a), recovered := false }]
theorem lst_extract (s : ByteArray) (i j : Nat) : s.extract i j = ⟨(((lst s).drop i).take (j - i)).toArray⟩ := by
  cases s with
  | mk d =>
    rw [ByteArray.extract_mk]
set_option maxRecDepth 100000 in
set_option maxHeartbeats 4000000 in
theorem refuse_any {rb base a : Nat} {s : ByteArray} {v : Value} {l : List Tk} (w : World) (h : Rdr w rb base s a v l) :
    Calls Tryd.prog 39 #[.pointer (some ⟨rb, 0, none⟩)] w fun e w' => e = pan a ∧ w = w' := by
  have c1 := h.blk.cell 1 _ rfl
  clear h
  go_enter Tryd.func39, Tryd.ntmps39
  go_wp2
  exact ⟨rfl, rfl, rfl⟩
set_option maxRecDepth 100000 in
set_option maxHeartbeats 4000000 in
theorem next_any {rb base a : Nat} {s : ByteArray} {v : Value} {l : List Tk} (b n c : Nat) (zs : List Int) (w : World) (h : Rdr w rb base s a v l) (hk : Konst w) (hs : s.size ≤ maxLen) (ha : a ≤ s.size)
    (hn : n = zs.length) (hm : n ≤ 10) (hz : ∀ i z, zs[i]? = some z → w.cell? ⟨b, i, none⟩ = some (.int .u8 z)) (hb : b < w.heap.size) :
    Calls Tryd.prog 51 #[.pointer (some ⟨rb, 0, none⟩), .slice (some ⟨b, 0, none⟩) n c] w fun e w' => e = .returned (.string ⟨(((lst s).drop a).takeWhile (inC zs)).toArray⟩) ∧ Below w.heap.size w w' := by
  have c0 := h.blk.cell 0 _ rfl
  have c1 := h.blk.cell 1 _ rfl
  clear h
  have hsz : (lst s).length = s.size := rfl
  have hx := lst_extract s a s.size
  rw [List.take_of_length_le (by simp)] at hx
  have HX := hid hx
  have h1 : (a : Int) ≤ s.size := by omega
  clear hx
  go_enter Tryd.func51, Tryd.ntmps51
  go_wp2
  go_region
  obtain ⟨q, hq⟩ : ∃ q, q = s.extract a s.size := ⟨_, rfl⟩
  have hq2 := hq.trans HX.out
  rw [← hq]
  have hlq : lst q = (lst s).drop a := by rw [hq2]
  have hqs : q.size = s.size - a := by
    have : (lst q).length = q.size := rfl
    rw [← this, hlq, List.length_drop, hsz]
  obtain ⟨m, hm2⟩ : ∃ m, m = ((lst q).takeWhile (inC zs)).length := ⟨_, rfl⟩
  have hmq : m ≤ q.size := by rw [hm2]; exact L9.tw_le _ _
  have hfin := hid (show q.extract 0 m = ⟨(((lst s).drop a).takeWhile (inC zs)).toArray⟩ by
    rw [lst_extract, List.drop_zero, Nat.sub_zero, ← hlq, hm2, ← L9.tw_take])
  have hC := count_any q b n c zs w.drew (hk.up (Below.refl _ w).drew) (by omega) hn hm (fun i z h => hz i z h)
  rw [← hm2] at hC
  have HC := hid hC
  have h2 : (m : Int) ≤ q.size := by omega
  clear hC hm2 hqs hlq hq2 hq HX hsz hz hn hk c0 c1 h1
  go_wp2_with fail
  refine HC.out.mono ?_
  rintro e w' ⟨rfl, rfl⟩
  go_wp2
  go_ret
  exact ⟨by rw [← hfin.out]; rfl, (Below.refl _ w).drew⟩
end Go.Proofs.YtgckigolbajhoaaDoor

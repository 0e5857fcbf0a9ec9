/- Contract: strings.Cut at a line feed. -/
import Derived.Test.YtgckigolbajhoaaDoorI
import Derived.Test.YtgckigolbajhoaaDoorShelf
namespace Go.Proofs.YtgckigolbajhoaaDoor
open Go.RowKit Go
set_option linter.unusedVariables false
set_option linter.unusedSimpArgs false
theorem ibyte (l : List UInt8) : Lib.indexByte l 10 = if (l.takeWhile L9.nLF).length = l.length then -1 else ((l.takeWhile L9.nLF).length : Int) := by
  induction l with
  | nil => rfl
  | cons c r ih =>
    unfold Lib.indexByte
    by_cases h : c = 10
    · subst h
      have : (10 :: r : List UInt8).takeWhile L9.nLF = [] := by simp [L9.nLF]
      rw [this]; simp
    · have hb : L9.nLF c = true := by
        simp only [L9.nLF, decide_eq_true_eq]
        intro e; exact h (UInt8.toNat_inj.1 e)
      rw [L9.tw_cons hb, List.length_cons, List.length_cons, if_neg (by simpa using h), ih]
      have := L9.tw_le L9.nLF r
      by_cases h2 : (r.takeWhile L9.nLF).length = r.length
      · rw [if_pos h2, if_pos (by decide), if_pos (by omega)]
      · rw [if_neg h2, if_neg (by first | (simp; done) | (simp; omega)), if_neg (by omega)]; push_cast; rfl
set_option maxRecDepth 100000 in
set_option maxHeartbeats 8000000 in
theorem scut_any (s : ByteArray) (w : World) (hs : s.size ≤ 70000) :
    Calls Tryd.prog 60 #[.string s, .string ⟨#[10]⟩] w fun e w' => (∃ y b, e = .returned (.tuple #[.string ⟨((lst s).takeWhile L9.nLF).toArray⟩, y, b])) ∧ Below w.heap.size w w' := by
  have hsz : (lst s).length = s.size := rfl
  have HI := hid (Tryd.stringslite_Index_one s 10 w)
  rw [ibyte] at HI
  by_cases hl : ((lst s).takeWhile L9.nLF).length = (lst s).length
  · rw [if_pos hl] at HI
    have hv := hid (show (⟨((lst s).takeWhile L9.nLF).toArray⟩ : ByteArray) = s by
      rw [L9.tw_take, hl, List.take_length, mk_lst])
    clear hl hsz
    go_enter Tryd.func60, Tryd.ntmps60
    go_wp2_with fail
    refine HI.out.mono ?_
    rintro e w' ⟨rfl, rfl⟩
    go_wp2
    refine bodyPost_ret (by simp [results, Tryd.results60, go_sem]; rfl) rfl ?_
    exact ⟨⟨_, _, by rw [hv.out]⟩, Below.refl _ _⟩
  · rw [if_neg hl] at HI
    obtain ⟨m, hm⟩ : ∃ m, m = ((lst s).takeWhile L9.nLF).length := ⟨_, rfl⟩
    have hle := L9.tw_le L9.nLF (lst s)
    have hv := hid (show (⟨((lst s).takeWhile L9.nLF).toArray⟩ : ByteArray) = s.extract 0 m by
      rw [lst_extract, List.drop_zero, Nat.sub_zero, hm, ← L9.tw_take])
    rw [← hm] at HI hl hle
    have h1 : (m : Int) ≤ s.size := by omega
    have h2 : (m : Int) + 1 ≤ s.size := by omega
    have h3 : (0 : Int) ≤ m := by omega
    have h4 : ((ByteArray.mk #[10]).size : Int) = 1 := rfl
    have hw := wrap_id (x := (m : Int) + 1) (by omega) (by omega)
    clear hl hsz hle hm
    go_enter Tryd.func60, Tryd.ntmps60
    go_wp2_with fail
    refine HI.out.mono ?_
    rintro e w' ⟨rfl, rfl⟩
    go_wp2_with fail
    go_region
    go_wp2
    refine bodyPost_ret (by simp [results, Tryd.results60, go_sem]; rfl) rfl ?_
    exact ⟨⟨_, _, by rw [hv.out]⟩, (Below.refl _ w').drew⟩
theorem cut_any (s : ByteArray) (w : World) (hs : s.size ≤ 70000) :
    Calls Tryd.prog 54 #[.string s, .string ⟨#[10]⟩] w fun e w' => (∃ y b, e = .returned (.tuple #[.string ⟨((lst s).takeWhile L9.nLF).toArray⟩, y, b])) ∧ Below w.heap.size w w' := by
  have HC := hid (scut_any s w hs)
  clear hs
  go_enter Tryd.func54, Tryd.ntmps54
  go_wp2_with (go_at_call 60; refine HC.out.mono ?_; rintro e w' ⟨⟨y, b, rfl⟩, hb⟩)
  refine bodyPost_ret (by simp [results, Tryd.results54, go_sem]; rfl) rfl ?_
  exact ⟨⟨_, _, rfl⟩, hb⟩
end Go.Proofs.YtgckigolbajhoaaDoor

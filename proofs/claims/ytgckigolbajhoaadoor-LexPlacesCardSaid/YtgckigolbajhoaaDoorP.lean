/- What a scanner does at a place, by the class of the byte. -/
import Derived.Test.YtgckigolbajhoaaDoorO
import Derived.Test.YtgckigolbajhoaaDoorM9
namespace Go.Proofs.YtgckigolbajhoaaDoor
open Go.RowKit Go
set_option linter.unusedVariables false
set_option linter.unusedSimpArgs false
def funs : List Value := [.func (.func 39) #[] #[], .func (.func 40) #[] #[], .func (.func 41) #[] #[], .func (.func 42) #[] #[], .func (.func 39) #[] #[], .func (.func 43) #[] #[], .func (.func 44) #[] #[]]
set_option maxRecDepth 100000 in
set_option maxHeartbeats 8000000 in
theorem scanners_any (w : World) : Calls Tryd.prog 24 #[] w fun e w' => e = .returned (.agg #[.func (.func 39) #[] #[], .func (.func 40) #[] #[], .func (.func 41) #[] #[], .func (.func 42) #[] #[], .func (.func 39) #[] #[], .func (.func 43) #[] #[], .func (.func 44) #[] #[]]) ∧ Below w.heap.size w w' := by
  have hb := (Below.refl w.heap.size w).alloc (Nat.le_refl _) (.cells funs.toArray 47)
  have HB := hid hb
  clear hb
  go_enter Tryd.func24, Tryd.ntmps24
  go_wp2
  refine bodyPost_ret (by simp [results, Tryd.results24, go_sem]; rfl) rfl ?_
  exact ⟨rfl, HB.out⟩
/-- what a step says of the rest -/
def Good (s : List UInt8) (a : Nat) : L9.Stp → Prop
  | .skip n => 1 ≤ n ∧ a + n ≤ s.length ∧ L9.lx (s.drop a) a = L9.lx (s.drop (a + n)) (a + n)
  | .tok k t v n => 1 ≤ n ∧ a + n ≤ s.length ∧ L9.lx (s.drop a) a = L9.put ⟨k, t, v, a⟩ (L9.lx (s.drop (a + n)) (a + n))
  | .bad => L9.lx (s.drop a) a = .error a
theorem good_of {s : List UInt8} {a : Nat} (ha : a < s.length) : Good s a (L9.stp (s.drop a)) := by
  cases h : L9.stp (s.drop a) with
  | skip n =>
    have h1 := L9.skip_len h
    rw [List.length_drop] at h1
    exact ⟨h1.1, by omega, by rw [L9.lx_skip a h, List.drop_drop]⟩
  | tok k t v n =>
    have h1 := L9.tok_len h
    rw [List.length_drop] at h1
    exact ⟨h1.1, by omega, by rw [L9.lx_tok a h, List.drop_drop]⟩
  | bad => exact L9.lx_bad a (by intro e; have := congrArg List.length e; simp at this; omega) h
theorem good_white {s : List UInt8} {a : Nat} {c : UInt8} (ha : a < s.length) (hc : s.drop a = c :: s.drop (a + 1)) (hw : L9.isW c = true) : Good s a (.skip ((s.drop a).takeWhile L9.isW).length) := by
  refine ⟨by rw [hc]; exact L9.tw_pos hw, ?_, ?_⟩
  · have := L9.tw_le L9.isW (s.drop a)
    rw [List.length_drop] at this; omega
  · rw [L9.lx_white, List.drop_drop]
theorem slashes_cons {c : UInt8} {r : List UInt8} (h : c.toNat ≠ 47) : L9.slashes (c :: r) = false := by
  cases r with
  | nil => rfl
  | cons d r => simp [L9.slashes, h]
set_option maxRecDepth 100000 in
theorem scan_any {rb base a : Nat} {s : ByteArray} {v : Value} {l : List Tk} {c : UInt8} (w : World) (h : Rdr w rb base s a v l) (hk : Konst w) (hs : s.size ≤ 70000) (hc : (lst s)[a]? = some c) (hl : l.length ≤ 100000) :
    ∃ (F j : Nat) (st : L9.Stp), kl c = j ∧ j < 7 ∧ funs[j]? = some (.func (.func F) #[] #[]) ∧ (∀ args w, (callFunc F args).run Tryd.prog w = .ok (.enter F args) w) ∧
      Calls Tryd.prog F #[.pointer (some ⟨rb, 0, none⟩)] w (Scn w rb base s a l st) ∧ Good (lst s) a st := by
  have hsz : (lst s).length = s.size := rfl
  obtain ⟨hlt, hget⟩ := List.getElem?_eq_some_iff.1 hc
  have hdr : (lst s).drop a = c :: (lst s).drop (a + 1) := by rw [List.drop_eq_getElem_cons hlt, hget]
  have hg := good_of hlt
  rcases kl_facts c with ⟨h1 | h1, h2, h3, h4, h5, h6⟩ | ⟨h1, h2⟩ | ⟨h1, h2, h3, h4⟩ | ⟨h1, h2, h3, h4, h5⟩ | ⟨h1, h2, h3, h4, h5, h6⟩ | ⟨h1, h2, h3, h4, h5, h6⟩
  · refine ⟨39, 0, .bad, h1, by omega, rfl, enters_of Tryd.func39 (by kernel_rfl) rfl, (refuse_any w h).mono ?_, ?_⟩
    · rintro e w' ⟨rfl, rfl⟩; exact ⟨Kpb.refl _ _ _, rfl⟩
    · have e : L9.stp ((lst s).drop a) = .bad := by rw [hdr]; simp [L9.stp, h2, slashes_cons h3, h4, h5, h6]
      rw [e] at hg; exact hg
  · refine ⟨39, 4, .bad, h1, by omega, rfl, enters_of Tryd.func39 (by kernel_rfl) rfl, (refuse_any w h).mono ?_, ?_⟩
    · rintro e w' ⟨rfl, rfl⟩; exact ⟨Kpb.refl _ _ _, rfl⟩
    · have e : L9.stp ((lst s).drop a) = .bad := by rw [hdr]; simp [L9.stp, h2, slashes_cons h3, h4, h5, h6]
      rw [e] at hg; exact hg
  · refine ⟨40, 1, .skip (((lst s).drop a).takeWhile L9.isW).length, h1, by omega, rfl, enters_of Tryd.func40 (by kernel_rfl) rfl, (space_any w h hk hs (by omega)).mono ?_, good_white hlt hdr h2⟩
    rintro e w' ⟨rfl, hr, hk'⟩; exact ⟨hk', rfl, v, hr⟩
  · refine ⟨41, 2, _, h1, by omega, rfl, enters_of Tryd.func41 (by kernel_rfl) rfl, rname_any w h hk hs (by omega) hl, ?_⟩
    have e : L9.stp ((lst s).drop a) = if L9.nm (((lst s).drop a).takeWhile L9.isP) = true then .tok 1 (((lst s).drop a).takeWhile L9.isP) 0 (((lst s).drop a).takeWhile L9.isP).length else .bad := by
      have hn : L9.nm (((lst s).drop a).takeWhile L9.isP) = decide ((((lst s).drop a).takeWhile L9.isP).length ≤ 32) := by
        have hall := L9.tw_all L9.isP ((lst s).drop a)
        rw [hdr, L9.tw_cons (L9.isL_P h3)] at hall ⊢
        simp only [L9.nm, h3, Bool.and_true]
        rw [List.all_eq_true.2 hall, Bool.and_true]
      rw [hn]
      rw [hdr]
      unfold L9.stp
      simp only [h2, slashes_cons h4, h3, Bool.false_eq_true, if_false, if_true, decide_eq_true_eq]
    rw [← e]; exact hg
  · refine ⟨42, 3, _, h1, by omega, rfl, enters_of Tryd.func42 (by kernel_rfl) rfl, rnumber_any w h hk hs (by omega) hl (by rw [hdr, L9.tw_cons h4]; simp), ?_⟩
    have e : L9.stp ((lst s).drop a) = nst (((lst s).drop a).takeWhile L9.isD) := by
      unfold nst
      rw [hdr]
      have hh : ((c :: (lst s).drop (a + 1)).takeWhile L9.isD).head? = some c := by rw [L9.tw_cons h4]; rfl
      rw [hh]
      unfold L9.stp
      simp only [h2, slashes_cons h5, h3, h4, Bool.false_eq_true, if_false, if_true]
      have : (some c = some (48 : UInt8)) ↔ c.toNat = 48 := by
        constructor
        · intro h; cases h; rfl
        · intro h; rw [show c = 48 from UInt8.toNat_inj.1 h]
      simp only [this]
    rw [← e]; exact hg
  · refine ⟨43, 5, _, h1, by omega, rfl, enters_of Tryd.func43 (by kernel_rfl) rfl, sign_any c w h hs hc hl, ?_⟩
    have e : L9.stp ((lst s).drop a) = .tok 3 [c] 0 1 := by rw [hdr]; simp [L9.stp, h2, slashes_cons h6, h3, h4, h5]
    rw [← e]; exact hg
  · refine ⟨44, 6, _, h1, by omega, rfl, enters_of Tryd.func44 (by kernel_rfl) rfl, soc_any c w h hs hc hl, ?_⟩
    have e : L9.stp ((lst s).drop a) = if L9.slashes ((lst s).drop a) = true then .skip (((lst s).drop a).takeWhile L9.nLF).length else .tok 3 [c] 0 1 := by
      rw [hdr]
      unfold L9.stp
      simp only [h2, h3, h4, h5, Bool.false_eq_true, if_false, if_true]
    rw [← e]; exact hg
end Go.Proofs.YtgckigolbajhoaaDoor

/- Contracts of the functions of package codec and lemmas for them: what each call returns and what becomes of memory, for every input within the bounds that each theorem states. -/
import Derived.Test.YtiklpimnmbjenaaI
import Derived.Test.YtiklpimnmbjenaaParse
import Derived.BigRegion
import Derived.RegionTactic
import Derived.Deep.LoopGhost
namespace Go.Proofs.Ytiklpimnmbjenaa
open Go.RowKit Go
set_option linter.unusedVariables false
set_option linter.unusedSimpArgs false

/-! The reader of package codec: 'b' is the block of the reader, whose bytes lie in a block below it. -/

/-- The bytes l lie at c, o. -/
def Bytes (w : World) (c o : Nat) (l : List Int) : Prop := ∀ i u, l[i]? = some u → w.cell? ⟨c, o + i, none⟩ = some (.int .u8 u)

theorem Bytes.app {w : World} {c o : Nat} {x y : List Int} (h : Bytes w c o (x ++ y)) : Bytes w c o x ∧ Bytes w c (o + x.length) y :=
  ⟨fun i u hi => h i u (by rw [List.getElem?_append_left (by have := (List.getElem?_eq_some_iff.1 hi).1; exact this)]; exact hi),
   fun i u hi => by rw [Nat.add_assoc]; exact h (x.length + i) u (by rw [List.getElem?_append_right (by omega)]; simpa using hi)⟩
theorem Bytes.kept {w w' : World} {c o : Nat} {l : List Int} (h : Bytes w c o l) (hc : ∀ o, w'.cell? ⟨c, o, none⟩ = w.cell? ⟨c, o, none⟩) : Bytes w' c o l := fun i u hi => by rw [hc]; exact h i u hi

/-- The reader in block b still has the bytes l to read, and so many elements are owed. -/
def Rdr (w : World) (b : Nat) (l : List Int) (owed : Nat) : Prop :=
  (∀ x ∈ l, 0 ≤ x ∧ x < 256) ∧ b < w.heap.size ∧ ∃ p cap, w.cell? ⟨b, 0, none⟩ = some (.slice p l.length cap) ∧ l.length ≤ cap ∧ l.length ≤ 140737488351232 ∧ w.cell? ⟨b, 1, none⟩ = some (.int .u64 owed) ∧
    w.frozen? ⟨b, 0, none⟩ = false ∧ w.frozen? ⟨b, 1, none⟩ = false ∧ (l ≠ [] → ∃ c o, p = some ⟨c, o, none⟩ ∧ c < b ∧ Bytes w c o l)

def Took (w w' : World) (b : Nat) (x y : List Int) (owed : Nat) (e : Ending) : Prop :=
  ∃ c o, e = .returned (.slice (some ⟨c, o, none⟩) x.length x.length) ∧ Rdr w' b y owed ∧ w.grownBy w' (some b) ∧ c < b ∧ Bytes w' c o x

theorem grown_setCell (w : World) (b o : Nat) (v : Value) : w.grownBy (w.setCell ⟨b, o, none⟩ v) (some b) :=
  ⟨rfl, rfl, rfl, by simp, fun k _ hk => Below.heap_setCell w _ v k (fun e => hk (by simp [e]))⟩

/-- what a store of the rest into the reader leaves -/
theorem took {w : World} {b c o n len cap : Nat} {x y : List Int} {owed : Nat} {v p' : Option Addr} (HB : ∀ u ∈ x ++ y, 0 ≤ u ∧ u < 256) (hbl : b < w.heap.size) (hcb : c < b) (hcell : Bytes w c o (x ++ y))
    (hn : n = x.length) (hlen : len = (x ++ y).length) (h0 : w.cell? ⟨b, 0, none⟩ = some (.slice v len cap)) (h1 : w.cell? ⟨b, 1, none⟩ = some (.int .u64 owed)) (hf0 : w.frozen? ⟨b, 0, none⟩ = false) (hf1 : w.frozen? ⟨b, 1, none⟩ = false)
    (hlc : len ≤ cap) (hm : len ≤ 140737488351232) (hp : y ≠ [] → p' = some ⟨c, o + n, none⟩) (hd : World) (hdr : hd = (w.setCell ⟨b, 0, none⟩ (.slice p' (len - n) (len - n))).drew) :
    Took w hd b x y owed (.returned (.slice (some ⟨c, o, none⟩) n n)) := by
  subst hdr
  have hne : c ≠ b := by omega
  have hk : ∀ o', (w.setCell ⟨b, 0, none⟩ (.slice p' (len - n) (len - n))).drew.cell? ⟨c, o', none⟩ = w.cell? ⟨c, o', none⟩ := fun o' => World.cell?_setCell_far _ _ _ _ (Ne.symm hne)
  have hy : y.length = len - n := by rw [hlen, hn]; simp
  obtain ⟨b1, b2⟩ := hcell.app
  refine ⟨c, o, by rw [hn], ⟨fun u hu => HB u (by simp [hu]), by simpa using hbl, p', len - n, ?_, by omega, by omega, ?_, ?_, ?_, fun hy => ⟨c, o + n, hp hy, hcb, ?_⟩⟩, grown_drew (grown_setCell _ _ _ _), hcb, b1.kept hk⟩
  · rw [hy]; exact World.cell?_setCell_same _ _ _ h0
  · show (w.setCell _ _).cell? _ = _
    rw [World.cell?_setCell_other _ _ _ _ (by simp)]; exact h1
  · show (w.setCell _ _).frozen? _ = _
    rw [World.frozen?_setCell]; exact hf0
  · show (w.setCell _ _).frozen? _ = _
    rw [World.frozen?_setCell]; exact hf1
  · subst hn; exact b2.kept hk

set_option maxHeartbeats 1000000 in
theorem take_ok (b : Nat) (x y : List Int) (owed : Nat) (w : World) (hr : Rdr w b (x ++ y) owed) (hx : x ≠ []) :
    Calls Try.prog 36 #[.pointer (some ⟨b, 0, none⟩), .int .u64 x.length] w fun e w' => Took w w' b x y owed e := by
  obtain ⟨hby, hbl, p, cap, h0, hlc, hm, h1, hf0, hf1, hc⟩ := hr
  obtain ⟨c, o, rfl, hcb, hcell⟩ := hc (by simp [hx])
  obtain ⟨len, hlen⟩ : ∃ len, len = (x ++ y).length := ⟨_, rfl⟩
  obtain ⟨n, hn⟩ : ∃ n, n = x.length := ⟨_, rfl⟩
  have hn0 : 0 < n := by rw [hn]; exact List.length_pos_iff.2 hx
  have hle : n ≤ len := by rw [hlen, hn]; simp
  rw [← hlen] at h0 hlc hm
  rw [← hn]
  have HE : ∀ p', (y ≠ [] → p' = some ⟨c, o + n, none⟩) → Hid (Took w (w.setCell ⟨b, 0, none⟩ (.slice p' (len - n) (len - n))).drew b x y owed (.returned (.slice (some ⟨c, o, none⟩) n n))) :=
    fun p' hp => took hby hbl hcb hcell hn hlen h0 h1 hf0 hf1 hlc hm hp _ rfl
  have HN := hid hn; have HL := hid hlen
  clear hlen hn hcell hby hx hc
  by_cases hcap : len = n
  · subst hcap
    have HF := HE (some ⟨c, o, none⟩) (fun h => absurd (List.length_eq_zero_iff.1 (by have h1 := HN.out; have h2 := HL.out; simp at h2; omega)) h)
    simp only [Nat.sub_self] at HF
    clear HE
    go_enter Try.func36, Try.ntmps36
    go_wp2
    go_region
    all_goals go_wp2
    go_ret
    exact HF.out
  · have HF := HE (some ⟨c, o + n, none⟩) (fun _ => rfl)
    clear HE
    go_enter Try.func36, Try.ntmps36
    go_wp2
    go_region
    all_goals go_wp2
    go_ret
    exact HF.out

def Bad : List PanicEntry := [{ v := .iface 28 (.int .i64 10), recovered := false }]

theorem take_short (b n : Nat) (l : List Int) (owed : Nat) (w : World) (hr : Rdr w b l owed) (hn : l.length < n) :
    Calls Try.prog 36 #[.pointer (some ⟨b, 0, none⟩), .int .u64 n] w fun e w' => e = .panicked Bad ∧ w = w' := by
  obtain ⟨hby, hbl, p, cap, h0, hlc, hm, h1, hf0, hf1, hc⟩ := hr
  obtain ⟨len, hlen⟩ : ∃ len, len = l.length := ⟨_, rfl⟩
  rw [← hlen] at h0 hlc hn hm
  clear hlen hc hby
  go_enter Try.func36, Try.ntmps36
  go_wp2
  exact ⟨rfl, rfl, rfl⟩

theorem take_one (b : Nat) (c : Int) (y : List Int) (owed : Nat) (w : World) (hr : Rdr w b (c :: y) owed) :
    Calls Try.prog 36 #[.pointer (some ⟨b, 0, none⟩), .int .u64 1] w fun e w' => ∃ c' o, e = .returned (.slice (some ⟨c', o, none⟩) 1 1) ∧ w'.cell? ⟨c', o, none⟩ = some (.int .u8 c) ∧ Rdr w' b y owed ∧ w.grownBy w' (some b) :=
  (take_ok b [c] y owed w hr (by simp)).mono fun e w' ⟨c', o, he, h1, h2, _, h3⟩ => ⟨c', o, he, h3 0 c rfl, h1, h2⟩

def OutN (w w' : World) (b owed : Nat) (o : Option (Nat × List Int)) (e : Ending) : Prop :=
  w.grownBy w' (some b) ∧ match o with
  | none => e = .panicked Bad
  | some (u, r) => e = .returned (.int .u64 u) ∧ Rdr w' b r owed

set_option maxRecDepth 100000 in
set_option maxHeartbeats 1000000 in
theorem numeral_any (b : Nat) (l : List Int) (owed : Nat) (w : World) (hr : Rdr w b l owed) (hl : l.length ≤ 100000000) :
    Calls Try.prog 38 #[.pointer (some ⟨b, 0, none⟩)] w fun e w' => OutN w w' b owed (rn 0 0 l) e := by
  have HR := hid hr; clear hr
  go_enter Try.func38, Try.ntmps38
  go_wp2
  go_loopg [2, 3] l.length (fun m av sv wr => ∃ (a s : Nat) (r : List Int), m = r.length ∧ s + 7 * r.length = 7 * l.length ∧ av = .int .u64 a ∧ sv = .int .i64 s ∧ Hid (Rdr wr b r owed ∧ w.grownBy wr (some b) ∧ a < 2 ^ s ∧ a < 18446744073709551616 ∧ rn 0 0 l = rn s a r))
  case atStart => exact ⟨0, 0, l, rfl, by omega, rfl, rfl, HR.out, World.grownBy.refl _ _, by simp, by simp, rfl⟩
  case round =>
    obtain ⟨a, s, r, rfl, hs, rfl, rfl, HH⟩ := hrel
    cases r with
    | nil =>
      go_wp2_with (go_at_call 36; refine (take_short b 1 [] owed _ HH.out.1 (by simp)).mono ?_; rintro e w1 ⟨rfl, rfl⟩)
      refine ⟨rfl, HH.out.2.1, ?_⟩
      rw [HH.out.2.2.2.2, rn]
    | cons c r =>
      obtain ⟨hc0, hc1⟩ := HH.out.1.1 c (by simp)
      obtain ⟨k, rfl⟩ := Int.eq_ofNat_of_zero_le hc0
      obtain ⟨d, hd⟩ : ∃ d, d = k % 128 := ⟨_, rfl⟩
      have hand : bits BinOp.and IntKind.u8 (k : Int) 127 = (d : Int) := by rw [hd]; exact and_127 k (by omega)
      have hd1 : d < 128 := by omega
      simp only [List.length_cons] at hs
      have HD := hid hd; clear hd
      have HK : Hid (∀ x, rn s a ((k : Int) :: r) = x ↔ (if 18446744073709551616 ≤ d * 2 ^ s then none else if 128 ≤ (k : Int) then rn (s + 7) (a + d * 2 ^ s) r else if (k : Int) = 0 ∧ 0 < s then none else some (a + d * 2 ^ s, r)) = x) := by
        intro x; rw [rn, HD.out]; rfl
      by_cases hbig : 18446744073709551616 ≤ d * 2 ^ s
      · have hbad := shl_bad hbig
        have HB := hid hbig; clear hbig
        go_wp2_with (go_at_call 36; refine (take_one b _ r owed _ HH.out.1).mono ?_; rintro e w1 ⟨cc, oo, rfl, hb0, hr1, hg1⟩; have HR1 := hid hr1; clear hr1)
        refine ⟨rfl, grown_trans HH.out.2.1 hg1, ?_⟩
        rw [HH.out.2.2.2.2, (HK.out none).2 (if_pos HB.out)]
        rfl
      · have hok := shl_ok (Nat.lt_of_not_le hbig)
        have hval := shl_val (Nat.lt_of_not_le hbig)
        have hor : bits BinOp.or IntKind.u64 (a : Int) ((d * 2 ^ s : Nat) : Int) = ((a + d * 2 ^ s : Nat) : Int) := or_digit a d s HH.out.2.2.1 (num_room HH.out.2.2.1 HH.out.2.2.2.1 (Nat.lt_of_not_le hbig))
        have hall : bits BinOp.or IntKind.u64 (a : Int) (IntKind.u64.wrap ((d : Int) * 2 ^ min s 64)) = ((a + d * 2 ^ s : Nat) : Int) := by rw [hval, hor]
        have hroom : a + d * 2 ^ s < 2 ^ (s + 7) ∧ a + d * 2 ^ s < 18446744073709551616 := ⟨by rw [Nat.pow_add]; have := HH.out.2.2.1; have : d * 2 ^ s ≤ 127 * 2 ^ s := Nat.mul_le_mul_right _ (by omega); omega, num_room HH.out.2.2.1 HH.out.2.2.2.1 (Nat.lt_of_not_le hbig)⟩
        obtain ⟨v, hv⟩ : ∃ v, v = a + d * 2 ^ s := ⟨_, rfl⟩
        rw [← hv] at hall hroom
        have HV := hid hv; have HB := hid hbig; have HRM := hid hroom; clear hbig hval hor hv hroom
        by_cases h128 : 128 ≤ (k : Int)
        · go_wp2_with (go_at_call 36; refine (take_one b _ r owed _ HH.out.1).mono ?_; rintro e w1 ⟨cc, oo, rfl, hb0, hr1, hg1⟩; have HR1 := hid hr1; clear hr1)
          go_roundg r.length
          case measure => simp
          case rel =>
            refine ⟨v, s + 7, r, rfl, by omega, rfl, by go_num, HR1.out, grown_trans HH.out.2.1 hg1, HRM.out.1, HRM.out.2, ?_⟩
            rw [HH.out.2.2.2.2, HV.out]
            exact (HK.out _).2 (by rw [if_neg HB.out, if_pos h128])
        · by_cases hz : k = 0 ∧ 0 < s
          · obtain ⟨hk0, hs0⟩ := hz
            have HZ : Hid (rn 0 0 l = none) := by
              show _ = _
              rw [HH.out.2.2.2.2, (HK.out none).2 (by rw [if_neg HB.out, if_neg h128, if_pos ⟨by omega, hs0⟩])]
            have hkt : ((k : Int) == 0) = true := by simp [hk0]
            clear hk0
            go_wp2_with (go_at_call 36; refine (take_one b _ r owed _ HH.out.1).mono ?_; rintro e w1 ⟨cc, oo, rfl, hb0, hr1, hg1⟩; have HR1 := hid hr1; clear hr1)
            refine ⟨rfl, grown_trans HH.out.2.1 hg1, ?_⟩
            rw [HZ.out]
            rfl
          · have HE : Hid (rn 0 0 l = some (v, r)) := by
              show _ = _
              rw [HH.out.2.2.2.2, (HK.out (some (v, r))).2 (by rw [if_neg HB.out, if_neg h128, if_neg (by intro h; exact hz ⟨by omega, h.2⟩), HV.out])]
            by_cases hk0 : k = 0
            · have hs0 : ¬ 0 < s := by omega
              have hkt : ((k : Int) == 0) = true := by simp [hk0]
              clear hk0 hz
              rw [show min s 64 = s from by omega] at hok hall
              go_wp2_with (go_at_call 36; refine (take_one b _ r owed _ HH.out.1).mono ?_; rintro e w1 ⟨cc, oo, rfl, hb0, hr1, hg1⟩; have HR1 := hid hr1; clear hr1)
              go_ret
              refine ⟨grown_trans HH.out.2.1 hg1, ?_⟩
              rw [HE.out]
              exact ⟨rfl, HR1.out⟩
            · go_wp2_with (go_at_call 36; refine (take_one b _ r owed _ HH.out.1).mono ?_; rintro e w1 ⟨cc, oo, rfl, hb0, hr1, hg1⟩; have HR1 := hid hr1; clear hr1)
              go_ret
              refine ⟨grown_trans HH.out.2.1 hg1, ?_⟩
              rw [HE.out]
              exact ⟨rfl, HR1.out⟩
end Go.Proofs.Ytiklpimnmbjenaa

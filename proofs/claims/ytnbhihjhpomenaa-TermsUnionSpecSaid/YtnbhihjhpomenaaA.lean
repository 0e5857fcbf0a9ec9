/- Rows of spans in memory; contracts: Has, Check, Count of the program. -/
import Derived.Test.YtnbhihjhpomenaaProg
import Derived.Test.YtnbhihjhpomenaaSweep
import Derived.RangeFuncNested
import Derived.RangeFuncBound
import Derived.RangeFuncCalls
import Derived.RangeFuncLeaves
import Derived.RangeFuncFrom
import Derived.Shelf.Abstract
import Derived.Shelf.RegionOpen
import Derived.OwnWalkIn
import Derived.TacticsInMore
import Derived.LoopNIn
import Derived.LoopIn
import Derived.Laws.EntriesVeiled
import Derived.WalkKit
import Derived.WalkLawsBesides
import Derived.Deep.DeepCutAuto
import Derived.Deep.CutBlock
import Derived.Deep.RegionWith
import Derived.Deep.Quiet
import Derived.Deep.QuietTactic
import Derived.Laws.BitsAllLaws
import Derived.Lib.Hide
namespace Go.Proofs.Ytnbhihjhpomenaa
open Go.RowKit Go
set_option linter.unusedVariables false
set_option linter.unusedSimpArgs false
theorem hid {p : Prop} (h : p) : Hid p := Lib.hid h
def I64 (n : Int) : Prop := -9223372036854775808 ≤ n ∧ n ≤ 9223372036854775807
abbrev Sp := List (Int × Int)
/-- a span's value -/
abbrev SV (f t : Int) : Value := .agg #[.int .i64 f, .int .i64 t]
/-- from a on the cells hold vs -/
def Cells (w : World) (a : Addr) (vs : List Value) : Prop := ∀ j v, vs[j]? = some v → w.cell? (a.add j) = some v
theorem add_block (a : Addr) (m : Nat) : (a.add m).block = a.block := by unfold Addr.add; split <;> rfl
theorem Cells.up {w w' : World} {B : Nat} {a : Addr} {vs : List Value} (h : Cells w a vs) (hb : Below B w w') (ha : a.block < B) : Cells w' a vs :=
  fun j v hj => (hb.cell (p := a.add j) (by rw [add_block]; exact ha)).trans (h j v hj)
/-- the cells of spans -/
def sc (l : Sp) : List Value := (T.ends l).map (Value.int .i64)
theorem sc_length (l : Sp) : (sc l).length = 2 * l.length := by unfold sc; rw [List.length_map, T.ends_length]
theorem ends_get (l : Sp) (i : Nat) (f t : Int) (h : l[i]? = some (f, t)) : (T.ends l)[2 * i]? = some f ∧ (T.ends l)[2 * i + 1]? = some t := by
  induction l generalizing i with
  | nil => simp at h
  | cons s r ih =>
    obtain ⟨a, b⟩ := s
    rw [T.ends_cons]
    cases i with
    | zero => simp at h; obtain ⟨rfl, rfl⟩ := h; exact ⟨rfl, rfl⟩
    | succ i =>
      have := ih i (by simpa using h)
      rw [show 2 * (i + 1) = 2 * i + 1 + 1 from by omega]
      simpa using this
theorem sc_get (l : Sp) (i : Nat) (f t : Int) (h : l[i]? = some (f, t)) : (sc l)[2 * i]? = some (.int .i64 f) ∧ (sc l)[2 * i + 1]? = some (.int .i64 t) := by
  obtain ⟨h1, h2⟩ := ends_get l i f t h
  unfold sc
  rw [List.getElem?_map, List.getElem?_map, h1, h2]
  exact ⟨rfl, rfl⟩
/-- a slice value that holds the spans l -/
def SS (w : World) (v : Value) (l : Sp) : Prop := (v = .slice none 0 0 ∧ l = []) ∨ ∃ a cap, v = .slice (some a) l.length cap ∧ l.length ≤ cap ∧ cap ≤ maxLen ∧ Cells w a (sc l) ∧ a.block < w.heap.size
theorem SS.ups {w w' : World} {v : Value} {l : Sp} (h : SS w v l) (hb : Below w.heap.size w w') : SS w' v l := by
  rcases h with h | ⟨a, cap, h1, h2, h3, h4, h5⟩
  · exact .inl h
  · exact .inr ⟨a, cap, h1, h2, h3, h4.up hb h5, Nat.lt_of_lt_of_le h5 hb.size⟩
theorem SS.form {w : World} {v : Value} {l : Sp} (h : SS w v l) : ∃ p cap, v = .slice p l.length cap := by
  rcases h with ⟨rfl, rfl⟩ | ⟨a, cap, rfl, _⟩
  · exact ⟨_, _, rfl⟩
  · exact ⟨_, _, rfl⟩
theorem SS.len {w : World} {v : Value} {l : Sp} (h : SS w v l) : l.length ≤ maxLen := by
  rcases h with ⟨rfl, rfl⟩ | ⟨a, cap, rfl, h1, h2, _⟩
  · simp
  · omega
/-- the spans' cells can be read -/
def RS (p : Option Addr) (n0 : Nat) (l : Sp) (W : World) : Prop := ∀ i f t, l[i]? = some (f, t) → ∃ b o, p = some ⟨b, o, none⟩ ∧ b < n0 ∧ W.cell? ⟨b, o + i * 2, none⟩ = some (.int .i64 f) ∧ W.cell? ⟨b, o + i * 2 + 1, none⟩ = some (.int .i64 t)
theorem add_plain (b o m : Nat) : (⟨b, o, none⟩ : Addr).add m = ⟨b, o + m, none⟩ := by
  unfold Addr.add; split
  · rename_i h; subst h; rfl
  · rfl
theorem Cells.spot {w : World} {a : Addr} {v : Value} {vs : List Value} (h : Cells w a (v :: vs)) : a = ⟨a.block, a.off, none⟩ := by
  have h0 := h 0 v rfl
  have h1 : a.add 0 = a := rfl
  rw [h1] at h0
  have := World.cell?_spot h0
  cases a; simp_all
theorem sc_cons {l : Sp} (h : l ≠ []) : ∃ v vs, sc l = v :: vs := by
  cases l with
  | nil => exact absurd rfl h
  | cons s r => obtain ⟨f, t⟩ := s; exact ⟨_, _, rfl⟩
theorem SS.rs {w : World} {p : Option Addr} {cap n : Nat} {l : Sp} (h : SS w (.slice p n cap) l) : RS p w.heap.size l w := by
  intro i f t hi
  rcases h with ⟨_, rfl⟩ | ⟨a, cap', h1, _, _, h4, h5⟩
  · simp at hi
  · injection h1 with e1 e2 e3
    obtain ⟨g1, g2⟩ := sc_get l i f t hi
    rw [Nat.mul_comm 2 i] at g1 g2
    obtain ⟨v, vs, hv⟩ := sc_cons (l := l) (fun e => by subst e; simp at hi)
    have ha : a = ⟨a.block, a.off, none⟩ := by rw [hv] at h4; exact h4.spot
    have c1 := h4 _ _ g1; have c2 := h4 _ _ g2
    rw [ha, add_plain] at c1 c2
    exact ⟨a.block, a.off, by rw [e1, ← ha], h5, c1, c2⟩
theorem RS.up {p : Option Addr} {n0 : Nat} {l : Sp} {W W' : World} (h : RS p n0 l W) (hb : Below n0 W W') : RS p n0 l W' := fun i f t hi => by
  obtain ⟨b, o, e, hl, h1, h2⟩ := h i f t hi
  exact ⟨b, o, e, hl, (hb.cell (p := ⟨b, o + i * 2, none⟩) hl).trans h1, (hb.cell (p := ⟨b, o + i * 2 + 1, none⟩) hl).trans h2⟩
theorem get_lt {l : Sp} {i : Nat} (h : i < l.length) : ∃ f t, l[i]? = some (f, t) := ⟨l[i].1, l[i].2, by rw [List.getElem?_eq_getElem h]⟩
theorem take_snoc {l : Sp} {i : Nat} {f t : Int} (h : l[i]? = some (f, t)) : l.take (i + 1) = l.take i ++ [(f, t)] := by rw [List.take_add_one, h]; rfl
/-- the error of a list -/
def chk (l : Sp) : Int := if T.ok 1024 (-1) l then 0 else 60
theorem chk_ok {l : Sp} (h : T.ok 1024 (-1) l) : chk l = 0 := if_pos h
theorem chk_no {l : Sp} (h : ¬ T.ok 1024 (-1) l) : chk l = 60 := if_neg h
theorem drop_get {l : Sp} {i : Nat} {f t : Int} (h : l[i]? = some (f, t)) : l.drop i = (f, t) :: l.drop (i + 1) := by
  obtain ⟨h1, h2⟩ := List.getElem?_eq_some_iff.1 h
  rw [List.drop_eq_getElem_cons h1, h2]
set_option maxRecDepth 100000 in
theorem Has_any (v : Value) (l : Sp) (x : Int) (w : World) (hv : SS w v l) :
    Calls Try.prog 16 #[v, .int .i64 x] w fun e w' => e = .returned (.bool (decide (T.has l x))) ∧ Below w.heap.size w w' := by
  obtain ⟨p, cap, rfl⟩ := hv.form
  have hr := hv.rs
  have hm := hv.len
  unfold maxLen at hm
  obtain ⟨n, hn⟩ : ∃ n, n = l.length := ⟨_, rfl⟩
  rw [← hn] at hm ⊢
  have HR := hid hr; have HN := hid hn
  clear hr hv hn
  go_enter Try.func16, Try.ntmps16
  go_wp2
  go_loopw [9] (fun i w1 => ∃ k : Nat, k ≤ n ∧ i = .int .i64 k ∧ Below w.heap.size w w1 ∧ Hid (¬ T.has (l.take k) x)) (fun i _ => n - (intOf i).toNat)
  case atStart => exact ⟨0, by omega, rfl, Below.refl _ _, hid (by simp [T.has_nil])⟩
  case round =>
    obtain ⟨k, hk, rfl, hb, hno⟩ := hrel
    by_cases hlt : k < n
    · obtain ⟨f, t, hi⟩ := get_lt (l := l) (i := k) (by rw [← HN.out]; exact hlt)
      obtain ⟨b, o, rfl, hab, hc1, hc2⟩ := HR.out.up hb k f t hi
      have HB := hid hb; have HI := hid hi
      clear hb hi hab
      have hyes : f ≤ x → x < t → T.has l x := fun h1 h2 => ⟨(f, t), List.mem_of_getElem? HI.out, h1, h2⟩
      have hnext : ¬ (f ≤ x ∧ x < t) → ¬ T.has (l.take (k + 1)) x := fun h h2 => by
        rw [take_snoc HI.out, T.has_append, T.has_cons] at h2
        rcases h2 with h2 | h2 | h2
        · exact hno.out h2
        · exact h h2
        · exact T.has_nil x h2
      have HY := hid hyes; have HX := hid hnext
      clear hyes hnext hno
      rcases (by omega : (f ≤ x ∧ x < t) ∨ (f ≤ x ∧ t ≤ x) ∨ x < f) with ⟨h1, h2⟩ | ⟨h1, h2⟩ | h1
      · have hd : decide (T.has l x) = true := by simpa using HY.out h1 h2
        have HD := hid hd; clear hd
        go_wp2
        go_ret
        exact ⟨by rw [HD.out]; rfl, HB.out.alloc HB.out.size _⟩
      · have hd := HX.out (by omega)
        have HD := hid hd; clear hd
        go_wp2
        go_roundw
        case rel => exact ⟨k + 1, by omega, by go_num, HB.out.alloc HB.out.size _, HD⟩
        case measure => simp [intOf]; omega
      · have hd := HX.out (by omega)
        have HD := hid hd; clear hd
        go_wp2
        go_roundw
        case rel => exact ⟨k + 1, by omega, by go_num, HB.out.alloc HB.out.size _, HD⟩
        case measure => simp [intOf]; omega
    · have hd : decide (T.has l x) = false := by
        have h := hno.out
        rw [show k = l.length by have := HN.out; omega, List.take_length] at h
        simpa using h
      have HD := hid hd; have HB := hid hb
      clear hd hno hb
      go_wp2
      go_ret
      exact ⟨by rw [HD.out]; rfl, HB.out⟩
set_option maxRecDepth 100000 in
theorem Check_any (v : Value) (l : Sp) (w : World) (hv : SS w v l) :
    Calls Try.prog 14 #[v] w fun e w' => e = .returned (.int .i64 (chk l)) ∧ Below w.heap.size w w' := by
  obtain ⟨p, cap, rfl⟩ := hv.form
  have hr := hv.rs
  have hm := hv.len
  unfold maxLen at hm
  obtain ⟨n, hn⟩ : ∃ n, n = l.length := ⟨_, rfl⟩
  rw [← hn] at hm ⊢
  have HR := hid hr; have HN := hid hn
  clear hr hv hn
  go_enter Try.func14, Try.ntmps14
  go_wp2
  go_loopw [3, 8] (fun s i w1 => ∃ (k : Nat) (m : Int), k ≤ n ∧ i = .int .i64 k ∧ s = .int .i64 (m + 1) ∧ -1 ≤ m ∧ m ≤ 1024 ∧ Below w.heap.size w w1 ∧ Hid (T.ok 1024 (-1) l ↔ T.ok 1024 m (l.drop k))) (fun _ i _ => n - (intOf i).toNat)
  case atStart => exact ⟨0, -1, by omega, rfl, rfl, by omega, by omega, Below.refl _ _, hid (by simp)⟩
  case round =>
    obtain ⟨k, m, hk, rfl, rfl, hm1, hm2, hb, hok⟩ := hrel
    by_cases hlt : k < n
    · obtain ⟨f, t, hi⟩ := get_lt (l := l) (i := k) (by rw [← HN.out]; exact hlt)
      obtain ⟨b, o, rfl, hab, hc1, hc2⟩ := HR.out.up hb k f t hi
      have HB := hid hb
      have hstep : T.ok 1024 (-1) l ↔ (m < f ∧ f < t ∧ t ≤ 1024 ∧ T.ok 1024 t (l.drop (k + 1))) := by rw [hok.out, drop_get hi]; rfl
      have HO := hid hstep
      clear hb hi hab hok hstep
      rcases (by omega : (f < m + 1) ∨ (m + 1 ≤ f ∧ t ≤ f) ∨ (m + 1 ≤ f ∧ f < t ∧ 1024 < t) ∨ (m + 1 ≤ f ∧ f < t ∧ t ≤ 1024)) with h1 | ⟨h1, h2⟩ | ⟨h1, h2, h3⟩ | ⟨h1, h2, h3⟩
      · have hd := hid (chk_no (l := l) (fun h => by have := HO.out.1 h; omega))
        go_wp2
        go_ret
        exact ⟨by rw [hd.out]; rfl, HB.out.alloc HB.out.size _⟩
      · have hd := hid (chk_no (l := l) (fun h => by have := HO.out.1 h; omega))
        go_wp2
        go_ret
        exact ⟨by rw [hd.out]; rfl, HB.out.alloc HB.out.size _⟩
      · have hd := hid (chk_no (l := l) (fun h => by have := HO.out.1 h; omega))
        go_wp2
        go_ret
        exact ⟨by rw [hd.out]; rfl, HB.out.alloc HB.out.size _⟩
      · have hd : T.ok 1024 (-1) l ↔ T.ok 1024 t (l.drop (k + 1)) := by
          rw [HO.out]
          constructor
          · rintro ⟨_, _, _, h⟩; exact h
          · intro h; exact ⟨by omega, h2, h3, h⟩
        have HD := hid hd; clear hd
        go_wp2
        go_roundw
        case rel => exact ⟨k + 1, t, by omega, by go_num, by go_num, by omega, by omega, HB.out.alloc HB.out.size _, HD⟩
        case measure => simp [intOf]; omega
    · have hd : T.ok 1024 (-1) l := by
        rw [hok.out, show k = l.length by have := HN.out; omega, List.drop_length]
        trivial
      have HD := hid (chk_ok hd); have HB := hid hb
      clear hd hok hb
      go_wp2
      go_ret
      exact ⟨by rw [HD.out]; rfl, HB.out⟩
/-- the number of terms and the error -/
def cnt (l : Sp) : Int := if T.ok 1024 (-1) l then T.size l else 0
set_option maxRecDepth 100000 in
theorem Count_any (v : Value) (l : Sp) (w : World) (hv : SS w v l) :
    Calls Try.prog 12 #[v] w fun e w' => e = .returned (.tuple #[.int .i64 (cnt l), .int .i64 (chk l)]) ∧ Below w.heap.size w w' := by
  have hvv := hv
  obtain ⟨p, cap, rfl⟩ := hv.form
  have hr := hv.rs
  have hm := hv.len
  unfold maxLen at hm
  obtain ⟨n, hn⟩ : ∃ n, n = l.length := ⟨_, rfl⟩
  rw [← hn] at hm hvv ⊢
  have HR := hid hr; have HN := hid hn; have HV := hid hvv
  clear hr hv hn hvv
  by_cases hok : T.ok 1024 (-1) l
  · have hc : cnt l = T.size l := if_pos hok
    have he := chk_ok hok
    have HC := hid hc; have HE := hid he; have HO := hid hok
    clear hc he hok
    rw [HC.out, HE.out]
    go_enter Try.func12, Try.ntmps12
    go_wp2_with (refine (Check_any _ l _ HV.out).mono ?_; rw [HE.out]; rintro e w1 ⟨rfl, hb1⟩; have HB1 := hid hb1; clear hb1)
    go_loopw [2, 14] (fun s i w2 => ∃ k : Nat, k ≤ n ∧ i = .int .i64 k ∧ s = .int .i64 (T.size (l.take k)) ∧ Below w.heap.size w w2) (fun _ i _ => n - (intOf i).toNat)
    case atStart => exact ⟨0, by omega, rfl, rfl, HB1.out⟩
    case round =>
      obtain ⟨k, hk, rfl, rfl, hb⟩ := hrel
      by_cases hlt : k < n
      · obtain ⟨f, t, hi⟩ := get_lt (l := l) (i := k) (by rw [← HN.out]; exact hlt)
        obtain ⟨b, o, rfl, hab, hc1, hc2⟩ := HR.out.up hb k f t hi
        have HB := hid hb
        have hs : T.size (l.take (k + 1)) = T.size (l.take k) + (t - f) := by rw [take_snoc hi, T.size_snoc]
        have h1 := T.size_bound (by omega) (T.ok_take k HO.out)
        have h2 := T.size_bound (by omega) (T.ok_take (k + 1) HO.out)
        obtain ⟨z, hz⟩ : ∃ z, z = T.size (l.take k) := ⟨_, rfl⟩
        obtain ⟨y, hy⟩ : ∃ y, y = T.size (l.take (k + 1)) := ⟨_, rfl⟩
        have hft := T.ok_to HO.out (List.mem_of_getElem? hi)
        simp only at hft
        rw [← hz, ← hy] at hs
        rw [← hz] at h1; rw [← hy] at h2; rw [← hz]
        have HS := hid hs; have HY := hid hy
        clear hb hi hab hy hz
        go_wp2
        go_roundw
        case rel => exact ⟨k + 1, by omega, by go_num, by rw [← HY.out, HS.out], HB.out.alloc HB.out.size _⟩
        case measure => simp [intOf]; omega
      · have hd : T.size (l.take k) = T.size l := by rw [show k = l.length by have := HN.out; omega, List.take_length]
        rw [hd]
        have HB := hid hb
        clear hd hb
        go_wp2
        exact bodyPost_ret (v := .tuple #[.int .i64 (T.size l), .int .i64 0]) (by simp [results, Try.results12, go_sem]) rfl ⟨rfl, HB.out⟩
  · have hc : cnt l = 0 := if_neg hok
    have he := chk_no hok
    have HC := hid hc; have HE := hid he
    clear hc he hok
    rw [HC.out, HE.out]
    go_enter Try.func12, Try.ntmps12
    go_wp2_with (refine (Check_any _ l _ HV.out).mono ?_; rw [HE.out]; rintro e w1 ⟨rfl, hb1⟩; have HB1 := hid hb1; clear hb1)
    exact bodyPost_ret (v := .tuple #[.int .i64 0, .int .i64 60]) (by simp [results, Try.results12, go_sem]) rfl ⟨rfl, HB1.out⟩
end Go.Proofs.Ytnbhihjhpomenaa

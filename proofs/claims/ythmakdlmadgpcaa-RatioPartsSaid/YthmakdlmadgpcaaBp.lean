/- Means of bounded numbers: they fit, lie between the values, and do not change with a common factor of the weights. -/
import Derived.Test.YthmakdlmadgpcaaAp
namespace Go.Proofs.Ythmakdlmadgpcaa
set_option linter.unusedVariables false
set_option linter.unusedSimpArgs false
theorem nw_small {n d : Int} (hd : d ≠ 0) (h1 : n.natAbs ≤ 1073741824) (h2 : d.natAbs ≤ 1073741824) : ∃ p q, nw n d = (p, q, 0) := by
  unfold nw
  rw [if_neg hd, if_neg]
  · split
    · exact ⟨_, _, rfl⟩
    · exact ⟨_, _, rfl⟩
  · have a1 := Nat.div_le_self n.natAbs (Nat.gcd n.natAbs d.natAbs)
    have a2 := Nat.div_le_self d.natAbs (Nat.gcd n.natAbs d.natAbs)
    omega
theorem getD_mem {xs : List Int} {Q : Int → Prop} (h0 : Q 0) (h : ∀ x ∈ xs, Q x) (j : Nat) : Q (xs.getD j 0) := by
  rw [List.getD_eq_getElem?_getD]
  cases hx : xs[j]? with
  | none => simpa using h0
  | some x => simpa using h x (List.mem_of_getElem? hx)
theorem wchk_small {xs zs : List Int} (hl : xs.length = zs.length) (hn : xs.length ≤ 1000) (hx : ∀ x ∈ xs, -1048576 ≤ x ∧ x ≤ 1048576) (hz : ∀ z ∈ zs, 0 ≤ z ∧ z ≤ 1048576) : wchk xs zs = 0 := by
  unfold wchk
  rw [if_pos, if_neg (by omega)]
  refine ⟨hl, fun j hj => ?_⟩
  have h1 := getD_mem (Q := fun x => -1048576 ≤ x ∧ x ≤ 1048576) (by omega) hx j
  have h2 := getD_mem (Q := fun x => 0 ≤ x ∧ x ≤ 1048576) (by omega) hz j
  exact ⟨by omega, h2.1, h2.2⟩
theorem getD_map (zs : List Int) (f : Int) (j : Nat) : (zs.map (· * f)).getD j 0 = zs.getD j 0 * f := by
  rw [List.getD_eq_getElem?_getD, List.getD_eq_getElem?_getD, List.getElem?_map]
  cases zs[j]? <;> simp
theorem ws_map (zs : List Int) (f : Int) (L : List Nat) : ws (zs.map (· * f)) L = ws zs L * f := by
  induction L with
  | nil => simp [ws]
  | cons x L ih =>
    have e1 : ws (zs.map (· * f)) (x :: L) = (zs.map (· * f)).getD x 0 + ws (zs.map (· * f)) L := by simp [ws]
    have e2 : ws zs (x :: L) = zs.getD x 0 + ws zs L := by simp [ws]
    rw [e1, e2, getD_map, ih, Int.add_mul]
theorem ps_map (xs zs : List Int) (f : Int) (L : List Nat) : ps xs (zs.map (· * f)) L = ps xs zs L * f := by
  induction L with
  | nil => simp [ps]
  | cons x L ih =>
    have e1 : ps xs (zs.map (· * f)) (x :: L) = xs.getD x 0 * (zs.map (· * f)).getD x 0 + ps xs (zs.map (· * f)) L := by simp [ps]
    have e2 : ps xs zs (x :: L) = xs.getD x 0 * zs.getD x 0 + ps xs zs L := by simp [ps]
    rw [e1, e2, getD_map, ih, Int.add_mul, Int.mul_assoc]
/-- small values: an int8, and a weight of eight bits -/
def Sm (xs zs : List Int) : Prop := (∀ x ∈ xs, -128 ≤ x ∧ x ≤ 127) ∧ ∀ z ∈ zs, 0 ≤ z ∧ z ≤ 255
theorem Sm.x {xs zs : List Int} (h : Sm xs zs) (j : Nat) : -128 ≤ xs.getD j 0 ∧ xs.getD j 0 ≤ 127 := getD_mem (Q := fun x => -128 ≤ x ∧ x ≤ 127) (by omega) h.1 j
theorem Sm.z {xs zs : List Int} (h : Sm xs zs) (j : Nat) : 0 ≤ zs.getD j 0 ∧ zs.getD j 0 ≤ 255 := getD_mem (Q := fun x => 0 ≤ x ∧ x ≤ 255) (by omega) h.2 j
theorem ws_sm {xs zs : List Int} (h : Sm xs zs) (L : List Nat) : 0 ≤ ws zs L ∧ ws zs L ≤ 255 * (L.length : Int) := by
  induction L with
  | nil => simp [ws]
  | cons x L ih =>
    have h1 := h.z x
    have e : ws zs (x :: L) = zs.getD x 0 + ws zs L := by simp [ws]
    rw [e]
    generalize zs.getD x 0 = y at *
    simp only [List.length_cons]
    omega
theorem ps_sm {xs zs : List Int} (h : Sm xs zs) (L : List Nat) : -(32640 * (L.length : Int)) ≤ ps xs zs L ∧ ps xs zs L ≤ 32640 * (L.length : Int) := by
  induction L with
  | nil => simp [ps]
  | cons x L ih =>
    have h1 := h.x x
    have h2 := h.z x
    have e : ps xs zs (x :: L) = xs.getD x 0 * zs.getD x 0 + ps xs zs L := by simp [ps]
    have h3 := mul_bd (show -128 ≤ xs.getD x 0 by omega) (show xs.getD x 0 ≤ 128 by omega) (show -255 ≤ zs.getD x 0 by omega) (show zs.getD x 0 ≤ 255 by omega)
    rw [e]
    generalize xs.getD x 0 * zs.getD x 0 = y at *
    simp only [List.length_cons]
    omega
theorem ws_zero {xs zs : List Int} (h : Sm xs zs) (L : List Nat) : ws zs L = 0 ↔ ∀ j ∈ L, zs.getD j 0 = 0 := by
  induction L with
  | nil => simp [ws]
  | cons x L ih =>
    have h1 := h.z x
    have h2 := ws_sm h L
    have e : ws zs (x :: L) = zs.getD x 0 + ws zs L := by simp [ws]
    rw [e]
    constructor
    · intro h0 j hj
      rcases List.mem_cons.1 hj with rfl | hj
      · generalize zs.getD j 0 = y at *; omega
      · exact ih.1 (by generalize zs.getD x 0 = y at *; omega) j hj
    · intro h0
      rw [h0 x (by simp), ih.2 (fun j hj => h0 j (by simp [hj]))]
      rfl
theorem between {xs zs : List Int} (h : Sm xs zs) (L : List Nat) (lo hi : Int) (hb : ∀ j ∈ L, 0 < zs.getD j 0 → lo ≤ xs.getD j 0 ∧ xs.getD j 0 ≤ hi) : lo * ws zs L ≤ ps xs zs L ∧ ps xs zs L ≤ hi * ws zs L := by
  induction L with
  | nil => simp [ws, ps]
  | cons x L ih =>
    have h2 := ih (fun j hj => hb j (by simp [hj]))
    have e1 : ws zs (x :: L) = zs.getD x 0 + ws zs L := by simp [ws]
    have e2 : ps xs zs (x :: L) = xs.getD x 0 * zs.getD x 0 + ps xs zs L := by simp [ps]
    rw [e1, e2, Int.mul_add, Int.mul_add]
    have h1 := h.z x
    have h3 := hb x (by simp)
    generalize xs.getD x 0 = a at *
    generalize zs.getD x 0 = b at *
    have h4 : lo * b ≤ a * b ∧ a * b ≤ hi * b := by
      rcases Int.lt_or_le 0 b with hb0 | hb0
      · exact ⟨Int.mul_le_mul_of_nonneg_right (h3 hb0).1 (by omega), Int.mul_le_mul_of_nonneg_right (h3 hb0).2 (by omega)⟩
      · have : b = 0 := by omega
        subst this; simp
    omega
/-- the two means of the law, and what they are -/
theorem means {xs zs : List Int} (f : Int) (h : Sm xs zs) (hl : xs.length = zs.length) (hn : xs.length ≤ 200) (hf : 1 ≤ f ∧ f ≤ 255) :
    ∃ p q, mn xs zs = (p, q, 0) ∧ mn xs (zs.map (· * f)) = (p, q, 0) ∧ Vd p q ∧ (ws zs (List.range xs.length) = 0 → p = 0 ∧ q = 1) ∧ (ws zs (List.range xs.length) ≠ 0 → p * ws zs (List.range xs.length) = ps xs zs (List.range xs.length) * q) := by
  have c1 : wchk xs zs = 0 := wchk_small hl (by omega) (fun x hx => by have := h.1 x hx; omega) (fun z hz => by have := h.2 z hz; omega)
  have c2 : wchk xs (zs.map (· * f)) = 0 := wchk_small (by simpa using hl) (by omega) (fun x hx => by have := h.1 x hx; omega) (fun z hz => by
    obtain ⟨y, hy, rfl⟩ := List.mem_map.1 hz
    have := h.2 y hy
    have h2 := mul_bd (show -255 ≤ y by omega) (show y ≤ 255 by omega) (show -255 ≤ f by omega) (show f ≤ 255 by omega)
    exact ⟨Int.mul_nonneg (by omega) (by omega), by omega⟩)
  unfold mn
  rw [if_pos c1, if_pos c2, ws_map, ps_map]
  have b1 := ws_sm h (List.range xs.length)
  have b2 := ps_sm h (List.range xs.length)
  rw [List.length_range] at b1 b2
  generalize ws zs (List.range xs.length) = S at *
  generalize ps xs zs (List.range xs.length) = P at *
  by_cases hS : S = 0
  · subst hS
    rw [if_pos rfl, if_pos (by simp)]
    exact ⟨0, 1, rfl, rfl, vd_int 0 (by decide) (by decide), fun _ => ⟨rfl, rfl⟩, fun h0 => absurd rfl h0⟩
  · have hSf : ¬ S * f = 0 := Int.mul_ne_zero hS (by omega)
    rw [if_neg hS, if_neg hSf, nw_mul P S f hS (by omega)]
    obtain ⟨p, q, e⟩ := nw_small hS (n := P) (by omega) (by omega)
    have h1 := nw_some e
    exact ⟨p, q, e, e, h1.2.1, fun h0 => absurd h0 hS, fun _ => h1.2.2⟩
theorem cmp_lo {p q P S lo : Int} (hq : 1 ≤ q) (hS : 0 < S) (e : p * S = P * q) (h : lo * S ≤ P) : cmpr (lo * q) (p * 1) ≤ 0 := by
  refine cmpr_le.2 (Int.le_of_mul_le_mul_right ?_ hS)
  have h1 : lo * S * q ≤ P * q := Int.mul_le_mul_of_nonneg_right h (by omega)
  have e1 : lo * q * S = lo * S * q := by grind
  have e2 : p * 1 * S = p * S := by grind
  omega
theorem cmp_hi {p q P S hi : Int} (hq : 1 ≤ q) (hS : 0 < S) (e : p * S = P * q) (h : P ≤ hi * S) : cmpr (p * 1) (hi * q) ≤ 0 := by
  refine cmpr_le.2 (Int.le_of_mul_le_mul_right ?_ hS)
  have h1 : P * q ≤ hi * S * q := Int.mul_le_mul_of_nonneg_right h (by omega)
  have e1 : hi * q * S = hi * S * q := by grind
  have e2 : p * 1 * S = p * S := by grind
  omega
end Go.Proofs.Ythmakdlmadgpcaa

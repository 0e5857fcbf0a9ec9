/- SHA-256, trees of hashes and their paths as plain functions on bit vectors and bytes. -/

namespace Go.Proofs.YtaoehkoffhnidaaDoor.Dg

/-- rotation to the right -/
def rr (x : BitVec 32) (n : Nat) : BitVec 32 := (x >>> n) ||| (x <<< (32 - n))
def r3 (x : BitVec 32) (k m n : Nat) : BitVec 32 := rr x k ^^^ rr x m ^^^ rr x n
def Kn : List Nat := [1116352408, 1899447441, 3049323471, 3921009573, 961987163, 1508970993, 2453635748, 2870763221, 3624381080, 310598401, 607225278, 1426881987, 1925078388, 2162078206, 2614888103, 3248222580, 3835390401, 4022224774, 264347078, 604807628, 770255983, 1249150122, 1555081692, 1996064986, 2554220882, 2821834349, 2952996808, 3210313671, 3336571891, 3584528711, 113926993, 338241895, 666307205, 773529912, 1294757372, 1396182291, 1695183700, 1986661051, 2177026350, 2456956037, 2730485921, 2820302411, 3259730800, 3345764771, 3516065817, 3600352804, 4094571909, 275423344, 430227734, 506948616, 659060556, 883997877, 958139571, 1322822218, 1537002063, 1747873779, 1955562222, 2024104815, 2227730452, 2361852424, 2428436474, 2756734187, 3204031479, 3329325298]
def kk (t : Nat) : BitVec 32 := BitVec.ofNat 32 (Kn.getD t 0)

/-- the eight numbers -/
structure St where
  a : BitVec 32
  b : BitVec 32
  c : BitVec 32
  d : BitVec 32
  e : BitVec 32
  f : BitVec 32
  g : BitVec 32
  h : BitVec 32

def pp (s : St) (k w : BitVec 32) : BitVec 32 := s.h + r3 s.e 6 11 25 + ((s.e &&& s.f) ^^^ (~~~s.e &&& s.g)) + k + w
def qq (s : St) : BitVec 32 := r3 s.a 2 13 22 + ((s.a &&& s.b) ^^^ (s.a &&& s.c) ^^^ (s.b &&& s.c))
def rnd (s : St) (k w : BitVec 32) : St := ⟨pp s k w + qq s, s.a, s.b, s.c, s.d + pp s k w, s.e, s.f, s.g⟩
def St.add (s t : St) : St := ⟨s.a + t.a, s.b + t.b, s.c + t.c, s.d + t.d, s.e + t.e, s.f + t.f, s.g + t.g, s.h + t.h⟩
def St.list (s : St) : List (BitVec 32) := [s.a, s.b, s.c, s.d, s.e, s.f, s.g, s.h]

/-- four bytes, the most significant one first -/
def wd (l : List UInt8) : BitVec 32 := BitVec.ofNat 32 ((l.getD 0 0).toNat * 16777216 + (l.getD 1 0).toNat * 65536 + (l.getD 2 0).toNat * 256 + (l.getD 3 0).toNat)
/-- the first words of a block -/
def words (l : List UInt8) : List (BitVec 32) := (List.range 16).map fun t => wd (l.drop (4 * t))
/-- the next word of the schedule -/
def nxt (w : List (BitVec 32)) (t : Nat) : BitVec 32 :=
  w.getD (t - 16) 0 + (rr (w.getD (t - 15) 0) 7 ^^^ rr (w.getD (t - 15) 0) 18 ^^^ (w.getD (t - 15) 0) >>> 3) + w.getD (t - 7) 0 + (rr (w.getD (t - 2) 0) 17 ^^^ rr (w.getD (t - 2) 0) 19 ^^^ (w.getD (t - 2) 0) >>> 10)
/-- the schedule with n further words -/
def sch (l : List UInt8) : Nat → List (BitVec 32)
  | 0 => words l
  | n + 1 => sch l n ++ [nxt (sch l n) (16 + n)]
/-- the state after n rounds -/
def rounds (s : St) (w : List (BitVec 32)) : Nat → St
  | 0 => s
  | n + 1 => rnd (rounds s w n) (kk n) (w.getD n 0)
/-- the state after a block -/
def blk (s : St) (l : List UInt8) : St := s.add (rounds s (sch l 48) 64)

def st0 : St := ⟨0x6a09e667#32, 0xbb67ae85#32, 0x3c6ef372#32, 0xa54ff53a#32, 0x510e527f#32, 0x9b05688c#32, 0x1f83d9ab#32, 0x5be0cd19#32⟩

/-- the state after the first n blocks of bytes -/
def runs (s : St) (l : List UInt8) : Nat → St
  | 0 => s
  | n + 1 => blk (runs s l n) ((l.drop (64 * n)).take 64)

/-- the number n as eight bytes -/
def be8 (n : Nat) : List UInt8 := (List.range 8).map fun i => UInt8.ofNat (n >>> (8 * (7 - i)))
def tail (len : Nat) : List UInt8 := 128 :: (List.replicate ((119 - len % 64) % 64) 0 ++ be8 (8 * len))
def pad (b : List UInt8) : List UInt8 := b ++ tail b.length
def byteAt (s : List (BitVec 32)) (i : Nat) : UInt8 := UInt8.ofNat ((s.getD (i / 4) 0).toNat >>> (24 - i % 4 * 8))
def out (s : St) : List UInt8 := (List.range 32).map (byteAt s.list)
/-- the hash of bytes -/
def sha (b : List UInt8) : List UInt8 := out (runs st0 (pad b) ((pad b).length / 64))
def tagd (tag b : List UInt8) : List UInt8 := sha (sha tag ++ b)

theorem out_length (s : St) : (out s).length = 32 := by simp [out]
theorem sha_length (b : List UInt8) : (sha b).length = 32 := out_length _
theorem tagd_length (t b : List UInt8) : (tagd t b).length = 32 := out_length _

end Go.Proofs.YtaoehkoffhnidaaDoor.Dg
namespace Go.Proofs.YtaoehkoffhnidaaDoor.Dg
set_option linter.unusedVariables false
set_option linter.unusedSimpArgs false
def leafS : List UInt8 := [108, 101, 97, 102]
def nodeS : List UInt8 := [110, 111, 100, 101]
def chainS : List UInt8 := [99, 104, 97, 105, 110]
def emptyS : List UInt8 := [101, 109, 112, 116, 121]
/-- the greatest power of 2 below n, for n from 2 on -/
def fpx : Nat → Nat → Nat → Nat
  | 0, k, _ => k
  | f + 1, k, n => if 2 * k < n then fpx f (2 * k) n else k
def fp (n : Nat) : Nat := fpx n 1 n
theorem fpx_spec (f : Nat) : ∀ k n j, k = 2 ^ j → k < n → n ≤ f + k → ∃ i, fpx f k n = 2 ^ i ∧ fpx f k n < n ∧ n ≤ 2 * fpx f k n := by
  induction f with
  | zero => intro k n j h1 h2 h3; omega
  | succ f ih =>
    intro k n j h1 h2 h3
    have hk : 0 < k := by rw [h1]; exact Nat.two_pow_pos j
    rw [fpx]
    by_cases h : 2 * k < n
    · rw [if_pos h]; exact ih (2 * k) n (j + 1) (by rw [h1, Nat.pow_succ]; omega) h (by omega)
    · rw [if_neg h]; exact ⟨j, h1, h2, by omega⟩
theorem fp_spec (n : Nat) (h : 2 ≤ n) : ∃ i, fp n = 2 ^ i ∧ fp n < n ∧ n ≤ 2 * fp n := fpx_spec n 1 n 0 rfl (by omega) (by omega)
theorem fp_lt (n : Nat) (h : 2 ≤ n) : fp n < n := by obtain ⟨i, _, h2, _⟩ := fp_spec n h; exact h2
theorem fp_pos (n : Nat) (h : 2 ≤ n) : 0 < fp n := by obtain ⟨i, h1, _⟩ := fp_spec n h; rw [h1]; exact Nat.two_pow_pos i
theorem pow_between (i j n : Nat) (h1 : 2 ^ i < n) (h2 : n ≤ 2 * 2 ^ i) (h3 : 2 ^ j < n) (h4 : n ≤ 2 * 2 ^ j) : i = j := by
  rcases Nat.lt_trichotomy i j with h | h | h
  · have := Nat.pow_le_pow_right (n := 2) (by omega) (show i + 1 ≤ j from h); rw [Nat.pow_succ] at this; omega
  · exact h
  · have := Nat.pow_le_pow_right (n := 2) (by omega) (show j + 1 ≤ i from h); rw [Nat.pow_succ] at this; omega
theorem fp_eq (n j : Nat) (h1 : 2 ^ j < n) (h2 : n ≤ 2 * 2 ^ j) : fp n = 2 ^ j := by
  have hp := Nat.two_pow_pos j
  obtain ⟨i, h3, h4, h5⟩ := fp_spec n (by omega)
  rw [h3] at h4 h5
  rw [h3, pow_between i j n h4 h5 h1 h2]
/-- the digest of a list -/
def tree (l : List (List UInt8)) : List UInt8 :=
  if h : l.length < 2 then (match l with | [] => tagd emptyS [] | d :: _ => tagd leafS d)
  else tagd nodeS (tree (l.take (fp l.length)) ++ tree (l.drop (fp l.length)))
termination_by l.length
decreasing_by
  · have := fp_lt l.length (by omega); rw [List.length_take]; omega
  · have := fp_pos l.length (by omega); rw [List.length_drop]; omega
theorem tree_nil : tree [] = tagd emptyS [] := by rw [tree]; rfl
theorem tree_one (d : List UInt8) : tree [d] = tagd leafS d := by rw [tree]; rfl
theorem tree_two (l : List (List UInt8)) (h : 2 ≤ l.length) : tree l = tagd nodeS (tree (l.take (fp l.length)) ++ tree (l.drop (fp l.length))) := by
  rw [tree, dif_neg (by omega)]
theorem tree_length (l : List (List UInt8)) : (tree l).length = 32 := by
  rw [tree]
  split
  · split <;> exact tagd_length _ _
  · exact tagd_length _ _
/-- the path of the element at an index -/
def pathOf (l : List (List UInt8)) (at_ : Nat) : List (List UInt8) :=
  if h : l.length < 2 then []
  else if at_ < fp l.length then pathOf (l.take (fp l.length)) at_ ++ [tree (l.drop (fp l.length))]
  else pathOf (l.drop (fp l.length)) (at_ - fp l.length) ++ [tree (l.take (fp l.length))]
termination_by l.length
decreasing_by
  · have := fp_lt l.length (by omega); rw [List.length_take]; omega
  · have := fp_pos l.length (by omega); rw [List.length_drop]; omega
theorem pathOf_one (l : List (List UInt8)) (i : Nat) (h : l.length < 2) : pathOf l i = [] := by rw [pathOf, dif_pos h]
theorem pathOf_lo (l : List (List UInt8)) (i : Nat) (h : 2 ≤ l.length) (hi : i < fp l.length) : pathOf l i = pathOf (l.take (fp l.length)) i ++ [tree (l.drop (fp l.length))] := by
  rw [pathOf, dif_neg (by omega), if_pos hi]
theorem pathOf_hi (l : List (List UInt8)) (i : Nat) (h : 2 ≤ l.length) (hi : ¬ i < fp l.length) : pathOf l i = pathOf (l.drop (fp l.length)) (i - fp l.length) ++ [tree (l.take (fp l.length))] := by
  rw [pathOf, dif_neg (by omega), if_neg hi]
/-- how long the path is -/
def plen (i n : Nat) : Nat :=
  if h : n < 2 then 0
  else if i < fp n then plen i (fp n) + 1
  else plen (i - fp n) (n - fp n) + 1
termination_by n
decreasing_by
  · exact fp_lt n (by omega)
  · have := fp_pos n (by omega); omega
theorem plen_one (i n : Nat) (h : n < 2) : plen i n = 0 := by rw [plen, dif_pos h]
theorem plen_lo (i n : Nat) (h : 2 ≤ n) (hi : i < fp n) : plen i n = plen i (fp n) + 1 := by rw [plen, dif_neg (by omega), if_pos hi]
theorem plen_hi (i n : Nat) (h : 2 ≤ n) (hi : ¬ i < fp n) : plen i n = plen (i - fp n) (n - fp n) + 1 := by rw [plen, dif_neg (by omega), if_neg hi]
theorem plen_le (k : Nat) : ∀ i n, n ≤ 2 ^ k → plen i n ≤ k := by
  induction k with
  | zero => intro i n h; rw [plen_one i n (by simpa using Nat.lt_of_le_of_lt h (by omega))]; omega
  | succ k ih =>
    intro i n h
    by_cases hn : n < 2
    · rw [plen_one i n hn]; omega
    · obtain ⟨j, h1, h2, h3⟩ := fp_spec n (by omega)
      have hf : fp n ≤ 2 ^ k := by
        rw [h1]
        refine Nat.pow_le_pow_right (by omega) ?_
        apply Nat.le_of_lt_succ
        rw [h1] at h2
        exact (Nat.pow_lt_pow_iff_right (by omega)).1 (Nat.lt_of_lt_of_le h2 h)
      by_cases hi : i < fp n
      · rw [plen_lo i n (by omega) hi]; have := ih i (fp n) hf; omega
      · rw [plen_hi i n (by omega) hi]; have := ih (i - fp n) (n - fp n) (by omega); omega
theorem pathOf_length (k : Nat) : ∀ l i, l.length ≤ k → (pathOf l i).length = plen i l.length := by
  induction k with
  | zero => intro l i h; rw [pathOf_one l i (by omega), plen_one i _ (by omega)]; rfl
  | succ k ih =>
    intro l i h
    by_cases hn : l.length < 2
    · rw [pathOf_one l i hn, plen_one i _ hn]; rfl
    · have h1 := fp_lt l.length (by omega)
      have h2 := fp_pos l.length (by omega)
      by_cases hi : i < fp l.length
      · rw [pathOf_lo l i (by omega) hi, plen_lo i _ (by omega) hi, List.length_append, ih _ _ (by rw [List.length_take]; omega), List.length_take, Nat.min_eq_left (by omega)]; rfl
      · rw [pathOf_hi l i (by omega) hi, plen_hi i _ (by omega) hi, List.length_append, ih _ _ (by rw [List.length_drop]; omega), List.length_drop]; rfl
/-- the digest to which a path leads -/
def clm (d : List UInt8) (i n : Nat) (p : List (List UInt8)) : List UInt8 :=
  if h : n < 2 then tagd leafS d
  else if i < fp n then tagd nodeS (clm d i (fp n) p.dropLast ++ p.getLastD [])
  else tagd nodeS (p.getLastD [] ++ clm d (i - fp n) (n - fp n) p.dropLast)
termination_by n
decreasing_by
  · exact fp_lt n (by omega)
  · have := fp_pos n (by omega); omega
theorem clm_one (d : List UInt8) (i n : Nat) (p) (h : n < 2) : clm d i n p = tagd leafS d := by rw [clm, dif_pos h]
theorem clm_lo (d : List UInt8) (i n : Nat) (p) (h : 2 ≤ n) (hi : i < fp n) : clm d i n p = tagd nodeS (clm d i (fp n) p.dropLast ++ p.getLastD []) := by rw [clm, dif_neg (by omega), if_pos hi]
theorem clm_hi (d : List UInt8) (i n : Nat) (p) (h : 2 ≤ n) (hi : ¬ i < fp n) : clm d i n p = tagd nodeS (p.getLastD [] ++ clm d (i - fp n) (n - fp n) p.dropLast) := by rw [clm, dif_neg (by omega), if_neg hi]
theorem clm_length (d : List UInt8) (i n : Nat) (p) : (clm d i n p).length = 32 := by
  rw [clm]
  split
  · exact tagd_length _ _
  · split <;> exact tagd_length _ _
theorem clm_eq (k : Nat) : ∀ l i, l.length ≤ k → i < l.length → clm (l.getD i []) i l.length (pathOf l i) = tree l := by
  induction k with
  | zero => intro l i h h2; omega
  | succ k ih =>
    intro l i h h2
    by_cases hn : l.length < 2
    · rw [clm_one _ _ _ _ hn]
      match l, hn, h2 with
      | [d], _, h2 =>
        obtain rfl : i = 0 := by simp at h2; omega
        rw [tree_one]; rfl
    · have h3 := fp_lt l.length (by omega)
      have h4 := fp_pos l.length (by omega)
      rw [tree_two l (by omega)]
      by_cases hi : i < fp l.length
      · rw [clm_lo _ _ _ _ (by omega) hi, pathOf_lo l i (by omega) hi, List.dropLast_concat, List.getLastD_concat]
        have := ih (l.take (fp l.length)) i (by rw [List.length_take]; omega) (by rw [List.length_take]; omega)
        rw [List.length_take, Nat.min_eq_left (by omega)] at this
        rw [← this]; congr 3
        simp [List.getD_eq_getElem?_getD, List.getElem?_take, hi]
      · rw [clm_hi _ _ _ _ (by omega) hi, pathOf_hi l i (by omega) hi, List.dropLast_concat, List.getLastD_concat]
        have := ih (l.drop (fp l.length)) (i - fp l.length) (by rw [List.length_drop]; omega) (by rw [List.length_drop]; omega)
        rw [List.length_drop] at this
        rw [← this]; congr 3
        simp [List.getD_eq_getElem?_getD, List.getElem?_drop, show fp l.length + (i - fp l.length) = i from by omega]
end Go.Proofs.YtaoehkoffhnidaaDoor.Dg
namespace Go.Proofs.YtaoehkoffhnidaaDoor.Dg
set_option maxRecDepth 100000
theorem sha_abc : (sha [97, 98, 99]).take 4 = [0xba, 0x78, 0x16, 0xbf] := by decide +kernel
theorem sha_nil : (sha []).take 4 = [0xe3, 0xb0, 0xc4, 0x42] := by decide +kernel
end Go.Proofs.YtaoehkoffhnidaaDoor.Dg

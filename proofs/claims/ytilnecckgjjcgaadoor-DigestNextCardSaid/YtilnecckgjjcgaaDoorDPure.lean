/- SHA-256, trees of hashes and their paths as plain functions on bit vectors and bytes. -/
namespace Go.Proofs.YtilnecckgjjcgaaDoor.Dg

/-- rotation to the right -/
def rr (x : BitVec 32) (n : Nat) : BitVec 32 := (x >>> n) ||| (x <<< (32 - n))
def r3 (x : BitVec 32) (k m n : Nat) : BitVec 32 := rr x k ^^^ rr x m ^^^ rr x n
def Kn : List Nat := [1116352408, 1899447441, 3049323471, 3921009573, 961987163, 1508970993, 2453635748, 2870763221, 3624381080, 310598401, 607225278, 1426881987, 1925078388, 2162078206, 2614888103, 3248222580, 3835390401, 4022224774, 264347078, 604807628, 770255983, 1249150122, 1555081692, 1996064986, 2554220882, 2821834349, 2952996808, 3210313671, 3336571891, 3584528711, 113926993, 338241895, 666307205, 773529912, 1294757372, 1396182291, 1695183700, 1986661051, 2177026350, 2456956037, 2730485921, 2820302411, 3259730800, 3345764771, 3516065817, 3600352804, 4094571909, 275423344, 430227734, 506948616, 659060556, 883997877, 958139571, 1322822218, 1537002063, 1747873779, 1955562222, 2024104815, 2227730452, 2361852424, 2428436474, 2756734187, 3204031479, 3329325298]
def kk (t : Nat) : BitVec 32 := BitVec.ofNat 32 (Kn.getD t 0)

/-- the eight numbers -/
structure St where
  a : BitVec 32
  b : BitVec 32
  c : BitVec 32
  d : BitVec 32
  e : BitVec 32
  f : BitVec 32
  g : BitVec 32
  h : BitVec 32

def pp (s : St) (k w : BitVec 32) : BitVec 32 := s.h + r3 s.e 6 11 25 + ((s.e &&& s.f) ^^^ (~~~s.e &&& s.g)) + k + w
def qq (s : St) : BitVec 32 := r3 s.a 2 13 22 + ((s.a &&& s.b) ^^^ (s.a &&& s.c) ^^^ (s.b &&& s.c))
def rnd (s : St) (k w : BitVec 32) : St := ⟨pp s k w + qq s, s.a, s.b, s.c, s.d + pp s k w, s.e, s.f, s.g⟩
def St.add (s t : St) : St := ⟨s.a + t.a, s.b + t.b, s.c + t.c, s.d + t.d, s.e + t.e, s.f + t.f, s.g + t.g, s.h + t.h⟩
def St.list (s : St) : List (BitVec 32) := [s.a, s.b, s.c, s.d, s.e, s.f, s.g, s.h]

/-- four bytes, the most significant one first -/
def wd (l : List UInt8) : BitVec 32 := BitVec.ofNat 32 ((l.getD 0 0).toNat * 16777216 + (l.getD 1 0).toNat * 65536 + (l.getD 2 0).toNat * 256 + (l.getD 3 0).toNat)
/-- the first words of a block -/
def words (l : List UInt8) : List (BitVec 32) := (List.range 16).map fun t => wd (l.drop (4 * t))
/-- the next word of the schedule -/
def nxt (w : List (BitVec 32)) (t : Nat) : BitVec 32 :=
  w.getD (t - 16) 0 + (rr (w.getD (t - 15) 0) 7 ^^^ rr (w.getD (t - 15) 0) 18 ^^^ (w.getD (t - 15) 0) >>> 3) + w.getD (t - 7) 0 + (rr (w.getD (t - 2) 0) 17 ^^^ rr (w.getD (t - 2) 0) 19 ^^^ (w.getD (t - 2) 0) >>> 10)
/-- the schedule with n further words -/
def sch (l : List UInt8) : Nat → List (BitVec 32)
  | 0 => words l
  | n + 1 => sch l n ++ [nxt (sch l n) (16 + n)]
/-- the state after n rounds -/
def rounds (s : St) (w : List (BitVec 32)) : Nat → St
  | 0 => s
  | n + 1 => rnd (rounds s w n) (kk n) (w.getD n 0)
/-- the state after a block -/
def blk (s : St) (l : List UInt8) : St := s.add (rounds s (sch l 48) 64)

def st0 : St := ⟨0x6a09e667#32, 0xbb67ae85#32, 0x3c6ef372#32, 0xa54ff53a#32, 0x510e527f#32, 0x9b05688c#32, 0x1f83d9ab#32, 0x5be0cd19#32⟩

/-- the state after the first n blocks of bytes -/
def runs (s : St) (l : List UInt8) : Nat → St
  | 0 => s
  | n + 1 => blk (runs s l n) ((l.drop (64 * n)).take 64)

/-- the number n as eight bytes -/
def be8 (n : Nat) : List UInt8 := (List.range 8).map fun i => UInt8.ofNat (n >>> (8 * (7 - i)))
def tail (len : Nat) : List UInt8 := 128 :: (List.replicate ((119 - len % 64) % 64) 0 ++ be8 (8 * len))
def pad (b : List UInt8) : List UInt8 := b ++ tail b.length
def byteAt (s : List (BitVec 32)) (i : Nat) : UInt8 := UInt8.ofNat ((s.getD (i / 4) 0).toNat >>> (24 - i % 4 * 8))
def out (s : St) : List UInt8 := (List.range 32).map (byteAt s.list)
/-- the hash of bytes -/
def sha (b : List UInt8) : List UInt8 := out (runs st0 (pad b) ((pad b).length / 64))
def tagd (tag b : List UInt8) : List UInt8 := sha (sha tag ++ b)

theorem out_length (s : St) : (out s).length = 32 := by simp [out]
theorem sha_length (b : List UInt8) : (sha b).length = 32 := out_length _
theorem tagd_length (t b : List UInt8) : (tagd t b).length = 32 := out_length _

end Go.Proofs.YtilnecckgjjcgaaDoor.Dg

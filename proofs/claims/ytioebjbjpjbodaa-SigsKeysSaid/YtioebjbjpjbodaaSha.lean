/-
  SHA-256 in plain words, with no program in it: numbers of 32 bits, a block that is taken in, bytes with what ends them. Conditions: none.
-/
import Derived.Test.YtioebjbjpjbodaaPlain
namespace Go.Proofs.Ytioebjbjpjbodaa

/-- a number's bits, moved n places down, those that fall off coming in at the top -/
def rot (x n : Nat) : Nat := x / 2 ^ n ||| x * 2 ^ (32 - n) % 4294967296
def s0 (x : Nat) : Nat := (rot x 7 ^^^ rot x 18) ^^^ (x / 2 ^ 3)
def s1 (x : Nat) : Nat := (rot x 17 ^^^ rot x 19) ^^^ (x / 2 ^ 10)
def b0 (x : Nat) : Nat := (rot x 2 ^^^ rot x 13) ^^^ rot x 22
def b1 (x : Nat) : Nat := (rot x 6 ^^^ rot x 11) ^^^ rot x 25
def cho (e f g : Nat) : Nat := (e &&& f) ||| ((4294967295 - e) &&& g)
def maj (a b c : Nat) : Nat := ((a &&& b) ||| (a &&& c)) ||| (b &&& c)
/-- a list's element, or 0 -/
def at' (l : List Nat) (i : Nat) : Nat := l.getD i 0
/-- the next number of W, of those so far -/
def nxw (l : List Nat) : Nat := (((at' l (l.length - 16) + s0 (at' l (l.length - 15))) % 4294967296 + at' l (l.length - 7)) % 4294967296 + s1 (at' l (l.length - 2))) % 4294967296
def ext (l : List Nat) : Nat → List Nat
  | 0 => l
  | k + 1 => ext l k ++ [nxw (ext l k)]
/-- K -/
def kk : List Nat := [
  0x428a2f98, 0x71374491, 0xb5c0fbcf, 0xe9b5dba5, 0x3956c25b, 0x59f111f1, 0x923f82a4, 0xab1c5ed5,
  0xd807aa98, 0x12835b01, 0x243185be, 0x550c7dc3, 0x72be5d74, 0x80deb1fe, 0x9bdc06a7, 0xc19bf174,
  0xe49b69c1, 0xefbe4786, 0x0fc19dc6, 0x240ca1cc, 0x2de92c6f, 0x4a7484aa, 0x5cb0a9dc, 0x76f988da,
  0x983e5152, 0xa831c66d, 0xb00327c8, 0xbf597fc7, 0xc6e00bf3, 0xd5a79147, 0x06ca6351, 0x14292967,
  0x27b70a85, 0x2e1b2138, 0x4d2c6dfc, 0x53380d13, 0x650a7354, 0x766a0abb, 0x81c2c92e, 0x92722c85,
  0xa2bfe8a1, 0xa81a664b, 0xc24b8b70, 0xc76c51a3, 0xd192e819, 0xd6990624, 0xf40e3585, 0x106aa070,
  0x19a4c116, 0x1e376c08, 0x2748774c, 0x34b0bcb5, 0x391c0cb3, 0x4ed8aa4a, 0x5b9cca4f, 0x682e6ff3,
  0x748f82ee, 0x78a5636f, 0x84c87814, 0x8cc70208, 0x90befffa, 0xa4506ceb, 0xbef9a3f7, 0xc67178f2]
/-- H -/
def hh : List Nat := [0x6a09e667, 0xbb67ae85, 0x3c6ef372, 0xa54ff53a, 0x510e527f, 0x9b05688c, 0x1f83d9ab, 0x5be0cd19]
/-- the eight numbers of a round -/
structure Oct where
  (a b c d e f g h : Nat)
def Oct.l (s : Oct) : List Nat := [s.a, s.b, s.c, s.d, s.e, s.f, s.g, s.h]
def oct (l : List Nat) : Oct := ⟨at' l 0, at' l 1, at' l 2, at' l 3, at' l 4, at' l 5, at' l 6, at' l 7⟩
def tt (s : Oct) (k w : Nat) : Nat := ((((s.h + b1 s.e) % 4294967296 + cho s.e s.f s.g) % 4294967296 + k) % 4294967296 + w) % 4294967296
def uu (s : Oct) : Nat := (b0 s.a + maj s.a s.b s.c) % 4294967296
def rnd (s : Oct) (k w : Nat) : Oct := ⟨(tt s k w + uu s) % 4294967296, s.a, s.b, s.c, (s.d + tt s k w) % 4294967296, s.e, s.f, s.g⟩
def rnds (s : Oct) (w : List Nat) : Nat → Oct
  | 0 => s
  | i + 1 => rnd (rnds s w i) (at' kk i) (at' w i)
/-- a block's own sixteen numbers -/
def own (b : List UInt8) : Nat → List Nat
  | 0 => []
  | i + 1 => own b i ++ [tell ((b.drop (4 * i)).take 4)]
def wof (b : List UInt8) : List Nat := ext (own b 16) 48
/-- each of them, and each of those -/
def addl (l m : List Nat) : List Nat := List.zipWith (fun x y => (x + y) % 4294967296) l m
/-- a block is taken in -/
def comp (h : List Nat) (b : List UInt8) : List Nat := addl h (rnds (oct h) (wof b) 64).l
/-- n blocks are taken in -/
def eat (h : List Nat) (bs : List UInt8) : Nat → List Nat
  | 0 => h
  | n + 1 => comp (eat h bs n) ((bs.drop (64 * n)).take 64)
/-- how many noughts stand behind the byte 128 -/
def nought (n : Nat) : Nat := (119 - n % 64) % 64
/-- what stands behind n bytes -/
def tail (n : Nat) : List UInt8 := (128 : UInt8) :: (List.replicate (nought n) 0 ++ be (8 * n) 8)
/-- numbers as bytes -/
def spell : List Nat → List UInt8
  | [] => []
  | x :: l => be x 4 ++ spell l
def full (bs : List UInt8) : List UInt8 := bs ++ tail bs.length
/-- the sum of bytes -/
def sha (bs : List UInt8) : List UInt8 := spell (eat hh (full bs) ((full bs).length / 64))

/-- numbers of 32 bits -/
def Sm (l : List Nat) : Prop := ∀ x ∈ l, x < 4294967296

structure Oct.Sm (s : Oct) : Prop where
  a : s.a < 4294967296
  b : s.b < 4294967296
  c : s.c < 4294967296
  d : s.d < 4294967296
  e : s.e < 4294967296
  f : s.f < 4294967296
  g : s.g < 4294967296
  h : s.h < 4294967296
end Go.Proofs.Ytioebjbjpjbodaa

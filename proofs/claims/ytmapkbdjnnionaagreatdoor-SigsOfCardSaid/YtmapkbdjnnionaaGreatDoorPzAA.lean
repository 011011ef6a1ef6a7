import Derived.IntWalk
import Derived.Laws.BitsAllLaws
set_option maxRecDepth 100000
set_option maxHeartbeats 8000000
set_option linter.all false
namespace Go.Proofs.YtmapkbdjnnionaaGreatDoor
section
def aF (bs:List UInt8):Nat:=bs.foldl (fun a b=>a * 256+b.toNat) 0
theorem tell_snoc (bs:List UInt8) (b:UInt8):aF (bs ++ [b])=aF bs * 256+b.toNat:=by simp [aF]
theorem tell_lt (bs:List UInt8):aF bs<256 ^ bs.length:=by
 suffices h:∀ (l:List UInt8),aF l.reverse<256 ^ l.length by have:=h bs.reverse; simpa using this
 intro l
 induction l with
 | nil=>simp [aF]
 | cons b r ih =>
  rw [List.reverse_cons,tell_snoc,List.length_cons,Nat.pow_succ]
  have:=b.toNat_lt
  omega
theorem pow256_le {k:Nat} (h:k≤7):256 ^ k≤72057594037927936:=by
 calc 256 ^ k≤256 ^ 7:=Nat.pow_le_pow_right (by omega) h
  _=72057594037927936:=by decide
theorem or_byte (t x:Nat) (D:t<72057594037927936) (z:x<256) :
  bits .or .u64 (IntKind.u64.wrap ((t:Int) * 256)) (IntKind.u64.wrap (x:Int))=((t * 256+x:Nat):Int):=by
 rw [IntWalk.u64_in _ (by omega),IntWalk.u64_in _ (by omega)]
 have e:((t:Int) * 256)=((t * 256:Nat):Int):=by omega
 rw [e,u64_or_nat _ _ (by omega) (by omega)]
 congr 1
 have h:=Nat.shiftLeft_add_eq_or_of_lt (b:=x) (i:=8) (by omega) t
 have f:(2:Nat) ^ 8=256:=by decide
 rw [Nat.shiftLeft_eq,f] at h
 omega
theorem tell_take_succ (bs:List UInt8) (k:Nat) (h:k<bs.length):aF (bs.take (k+1))=aF (bs.take k) * 256+bs[k].toNat:=by
 rw [List.take_succ_eq_append_getElem h,tell_snoc]
theorem tell_append (a b:List UInt8):aF (a ++ b)=aF a * 256 ^ b.length+aF b:=by
 suffices h:∀ (l:List UInt8),aF (a ++ l.reverse)=aF a * 256 ^ l.length+aF l.reverse by have:=h b.reverse; simpa using this
 intro l
 induction l with
 | nil=>simp [aF]
 | cons x r ih =>
  rw [List.reverse_cons,← List.append_assoc,tell_snoc,ih,tell_snoc,List.length_cons,Nat.pow_succ]
  rw [Nat.add_mul,Nat.mul_assoc,Nat.add_assoc]
def be (n:Nat):Nat→List UInt8
 | 0=>[]
 | k+1=>UInt8.ofNat (n / 256 ^ k) :: be n k
theorem aj (n k:Nat):(be n k).length=k:=by
 induction k with
 | zero=>rfl
 | succ k ih=>simp [be,ih]
theorem be_snoc (n k:Nat):be n (k+1)=be (n / 256) k ++ [UInt8.ofNat n]:=by
 induction k with
 | zero=>simp [be]
 | succ k ih =>
  rw [be,ih,be,List.cons_append,Nat.div_div_eq_div_mul,Nat.pow_succ,Nat.mul_comm 256]
theorem tell_be (n k:Nat):aF (be n k)=n % 256 ^ k:=by
 induction k generalizing n with
 | zero=>simp [be,aF,Nat.mod_one]
 | succ k ih =>
  have z:(2:Nat) ^ 8=256:=by decide
  have f:(256:Nat) ^ (k+1)=256 * 256 ^ k:=by rw [Nat.pow_succ,Nat.mul_comm]
  rw [be_snoc,tell_snoc,ih,UInt8.toNat_ofNat',z,f,Nat.mod_mul]
  omega
theorem be_add (n j k:Nat):be n (j+k)=be (n / 256 ^ k) j ++ be n k:=by
 induction j with
 | zero=>simp [be]
 | succ j ih =>
  have e:j+1+k=(j+k)+1:=by omega
  rw [e,be,ih,be,List.cons_append,Nat.div_div_eq_div_mul,← Nat.pow_add,Nat.add_comm k j]
theorem be_mod (n k:Nat):be (n % 256 ^ k) k=be n k:=by
 induction k generalizing n with
 | zero=>rfl
 | succ k ih =>
  rw [be_snoc,be_snoc]
  have z:n % 256 ^ (k+1) / 256=n / 256 % 256 ^ k:=by
   rw [Nat.pow_succ,Nat.mul_comm,Nat.mod_mul_right_div_self]
  have f:UInt8.ofNat (n % 256 ^ (k+1))=UInt8.ofNat n:=by
   apply UInt8.toNat.inj
   rw [UInt8.toNat_ofNat',UInt8.toNat_ofNat',Nat.pow_succ]
   have:(2:Nat) ^ 8=256:=by decide
   rw [this,Nat.mod_mul_left_mod]
  rw [z,f,ih]
end
section
def v4 (a b c d:Nat):Nat:=a+18446744073709551616 * (b+18446744073709551616 * (c+18446744073709551616 * d))
theorem v4_lt {a b c d:Nat} (E:a<18446744073709551616) (D:b<18446744073709551616) (z:c<18446744073709551616) (f:d<18446744073709551616):v4 a b c d<2 ^ 256:=by
 unfold v4
 have:(2:Nat) ^ 256=115792089237316195423570985008687907853269984665640564039457584007913129639936:=by decide
 omega
def aV (n i:Nat):Nat:=n / 2 ^ i % 2
theorem bitAt_lt (n i:Nat):aV n i<2:=Nat.mod_lt _ (by decide)
theorem bit_step (n i:Nat):n / 2 ^ i=2 * (n / 2 ^ (i+1))+aV n i:=by
 unfold aV
 rw [Nat.pow_succ,← Nat.div_div_eq_div_mul]
 omega
theorem bitAt_high (n i k:Nat) (h:n<2 ^ k) (hi:k≤i):aV n i=0:=by
 unfold aV
 rw [Nat.div_eq_of_lt (Nat.lt_of_lt_of_le h (Nat.pow_le_pow_right (by decide) hi))]
theorem word_bit (x r i:Nat) (f:x<18446744073709551616) (hi:i<64):aV (x+18446744073709551616 * r) i=aV x i:=by
 unfold aV
 have e:(18446744073709551616:Nat)=2 ^ i * (2 * 2 ^ (63 - i)):=by
  have:(18446744073709551616:Nat)=2 ^ 64:=by decide
  rw [this,← Nat.pow_succ',← Nat.pow_add]
  congr 1; omega
 rw [e,Nat.mul_assoc,Nat.add_mul_div_left _ _ (Nat.two_pow_pos i),Nat.mul_assoc,Nat.add_mul_mod_self_left]
def aq (n:Nat):Nat:=if n=0 then 0 else n.log2+1
theorem nbits_lt (n:Nat):n<2 ^ aq n:=by
 unfold aq
 split
 ·subst n; decide
 ·exact Nat.lt_log2_self
theorem nbits_le (n:Nat) (h:0<n):2 ^ (aq n - 1)≤n:=by
 unfold aq
 rw [if_neg (by omega)]
 exact Nat.log2_self_le (by omega)
theorem cL (n:Nat) (h:0<n):0<aq n:=by unfold aq; rw [if_neg (by omega)]; omega
theorem nbits_of (n k:Nat) (z:2 ^ k≤n) (D:n<2 ^ (k+1)):aq n=k+1:=by
 have f:0<n:=Nat.lt_of_lt_of_le (Nat.two_pow_pos k) z
 have a:=nbits_lt n
 have b:=nbits_le n f
 have c:=cL n f
 have d:k<aq n:=(Nat.pow_lt_pow_iff_right (by decide)).1 (Nat.lt_of_le_of_lt z a)
 have e:aq n - 1<k+1:=(Nat.pow_lt_pow_iff_right (by decide)).1 (Nat.lt_of_le_of_lt b D)
 omega
theorem cK (n k:Nat) (h:n<2 ^ k):aq n≤k:=by
 rcases Nat.eq_zero_or_pos n with rfl | f
 ·exact Nat.zero_le _
 ·have b:=nbits_le n f
  have e:aq n - 1<k:=(Nat.pow_lt_pow_iff_right (by decide)).1 (Nat.lt_of_le_of_lt b h)
  omega
theorem mul_dbl {M f high T:Nat} (z:0<M) (h:f+M * high=T) (hb:2 * T<M * M):2 * f % M+M * (2 * high+2 * f / M)=2 * T∧2 * high+2 * f / M<M∧2 * high<M:=by
 have e:=Nat.mod_add_div (2 * f) M
 have q:2 * f % M+M * (2 * high+2 * f / M)=2 * T:=by
  rw [← h,Nat.mul_add,Nat.mul_add,Nat.mul_left_comm M 2 high]
  omega
 refine ⟨q,?_,?_⟩
 ·have:M * (2 * high+2 * f / M)<M * M:=by omega
  exact Nat.lt_of_mul_lt_mul_left this
 ·have:M * (2 * high)<M * M:=by rw [Nat.mul_left_comm]; omega
  exact Nat.lt_of_mul_lt_mul_left this
theorem mul_add {M f high T a:Nat} (z:0<M) (h:f+M * high=T) (hb:T+a<M * M):(f+a) % M+M * (high+(f+a) / M)=T+a∧high+(f+a) / M<M:=by
 have e:=Nat.mod_add_div (f+a) M
 have q:(f+a) % M+M * (high+(f+a) / M)=T+a:=by
  rw [← h,Nat.mul_add]
  omega
 refine ⟨q,?_⟩
 have:M * (high+(f+a) / M)<M * M:=by omega
 exact Nat.lt_of_mul_lt_mul_left this
theorem mul_bits (a b i:Nat):a * (b / 2 ^ i)=2 * (a * (b / 2 ^ (i+1)))+a * aV b i:=by
 rw [bit_step b i,Nat.mul_add,Nat.mul_left_comm]
theorem squares {M a b:Nat} (F:a<M) (hb:b<M):(a * a % M+(M - b * b % M)) % M=(a+b) % M * ((a+(M - b)) % M) % M:=by
 have f:0<M:=by omega
 have z:=Nat.mod_lt (b * b) f
 apply Int.ofNat.inj
 show ((((a * a % M+(M - b * b % M)) % M:Nat)):Int)=(((a+b) % M * ((a+(M - b)) % M) % M:Nat):Int)
 simp only [Int.natCast_emod,Int.natCast_mul,Int.natCast_add,Int.ofNat_sub (Nat.le_of_lt hb),Int.ofNat_sub (Nat.le_of_lt z)]
 have E:(((a:Int) * a % M+(M - (b:Int) * b % M)) % M)=((a:Int) * a - b * b) % M:=by
  rw [show ((a:Int) * a % M+(M - (b:Int) * b % M))=((a:Int) * a % M - (b:Int) * b % M)+M by omega,Int.add_emod_right,← Int.sub_emod]
 have D:(((a:Int)+b) % M * (((a:Int)+(M - b)) % M) % M)=((a:Int) * a - b * b) % M:=by
  rw [← Int.mul_emod]
  have:((a:Int)+b) * ((a:Int)+(M - b))=((a:Int) * a - b * b)+M * (a+b):=by grind
  rw [this,Int.add_mul_emod_self_left]
 rw [E,D]
theorem down_up (a m:Nat):a / 2 ^ m * 2 ^ m+a % 2 ^ m=a:=by
 rw [Nat.mul_comm]; exact Nat.div_add_mod a _
theorem prod_lt {a b k:Nat} (f:a<2 ^ k) (hb:b<2 ^ k):a * b<2 ^ k * 2 ^ k:=Nat.mul_lt_mul'' f hb
theorem addc {x y k:Nat} (z:x<18446744073709551616) (f:y<18446744073709551616) (D:k≤1) :
  ((x+y) % 18446744073709551616+k) % 18446744073709551616+18446744073709551616 * (if (x+y) % 18446744073709551616<y∨((x+y) % 18446744073709551616+k) % 18446744073709551616<k then 1 else 0)=x+y+k:=by
 split <;> omega
theorem subb {x y k:Nat} (z:x<18446744073709551616) (f:y<18446744073709551616) (D:k≤1) :
  ((x+18446744073709551616 - y) % 18446744073709551616+18446744073709551616 - k) % 18446744073709551616+y+k=x+18446744073709551616 * (if x<y∨(x+18446744073709551616 - y) % 18446744073709551616<k then 1 else 0):=by
 split <;> omega
theorem v4_addc {O M L a3 b0 b1 K J D z f t3 I G F k3 E:Nat} (Y:D+18446744073709551616 * G=O+b0+I) (V:z+18446744073709551616 * F=M+b1+G) (U:f+18446744073709551616 * k3=L+K+F) (R:t3+18446744073709551616 * E=a3+J+k3) :
  v4 D z f t3+2 ^ 256 * E=v4 O M L a3+v4 b0 b1 K J+I:=by
 have e:(2:Nat) ^ 256=115792089237316195423570985008687907853269984665640564039457584007913129639936:=by decide
 rw [e]
 unfold v4
 omega
theorem v4_subb {O M L a3 b0 b1 K J D z f t3 I G F k3 E:Nat} (Y:D+b0+I=O+18446744073709551616 * G) (V:z+b1+G=M+18446744073709551616 * F) (U:f+K+F=L+18446744073709551616 * k3) (R:t3+J+k3=a3+18446744073709551616 * E) :
  v4 D z f t3+v4 b0 b1 K J+I=v4 O M L a3+2 ^ 256 * E:=by
 have e:(2:Nat) ^ 256=115792089237316195423570985008687907853269984665640564039457584007913129639936:=by decide
 rw [e]
 unfold v4
 omega
theorem bit_none {a n:Nat} (h:a<2 ^ (n+1)) (hb:aV a n=0):a<2 ^ n:=by
 have:=bit_step a n
 rw [hb,Nat.div_eq_of_lt h] at this
 exact (Nat.div_eq_zero_iff_lt (Nat.two_pow_pos n)).1 (by omega)
theorem bit_some {a n:Nat} (hb:aV a n=1):2 ^ n≤a:=by
 rcases Nat.lt_or_ge a (2 ^ n) with h | h
 ·unfold aV at hb
  rw [Nat.div_eq_of_lt h] at hb
  simp at hb
 ·exact h
theorem bit_top {a n:Nat} (h:a<2 ^ (n+1)) (hb:aV a n=1):aq a=n+1:=nbits_of a n (bit_some hb) h
end
section
def br (x n:Nat):Nat:=x / 2 ^ n ||| x * 2 ^ (32 - n) % 4294967296
def s0 (x:Nat):Nat:=(br x 7 ^^^ br x 18) ^^^ (x / 2 ^ 3)
def s1 (x:Nat):Nat:=(br x 17 ^^^ br x 19) ^^^ (x / 2 ^ 10)
def b0 (x:Nat):Nat:=(br x 2 ^^^ br x 13) ^^^ br x 22
def b1 (x:Nat):Nat:=(br x 6 ^^^ br x 11) ^^^ br x 25
def cho (e f g:Nat):Nat:=(e &&& f) ||| ((4294967295 - e) &&& g)
def maj (a b c:Nat):Nat:=((a &&& b) ||| (a &&& c)) ||| (b &&& c)
def aZ (l:List Nat) (i:Nat):Nat:=l.getD i 0
def nxw (l:List Nat):Nat:=(((aZ l (l.length - 16)+s0 (aZ l (l.length - 15))) % 4294967296+aZ l (l.length - 7)) % 4294967296+s1 (aZ l (l.length - 2))) % 4294967296
def ext (l:List Nat):Nat→List Nat
 | 0=>l
 | k+1=>ext l k ++ [nxw (ext l k)]
def kk:List Nat:=[
 0x428a2f98,0x71374491,0xb5c0fbcf,0xe9b5dba5,0x3956c25b,0x59f111f1,0x923f82a4,0xab1c5ed5,
 0xd807aa98,0x12835b01,0x243185be,0x550c7dc3,0x72be5d74,0x80deb1fe,0x9bdc06a7,0xc19bf174,
 0xe49b69c1,0xefbe4786,0x0fc19dc6,0x240ca1cc,0x2de92c6f,0x4a7484aa,0x5cb0a9dc,0x76f988da,
 0x983e5152,0xa831c66d,0xb00327c8,0xbf597fc7,0xc6e00bf3,0xd5a79147,0x06ca6351,0x14292967,
 0x27b70a85,0x2e1b2138,0x4d2c6dfc,0x53380d13,0x650a7354,0x766a0abb,0x81c2c92e,0x92722c85,
 0xa2bfe8a1,0xa81a664b,0xc24b8b70,0xc76c51a3,0xd192e819,0xd6990624,0xf40e3585,0x106aa070,
 0x19a4c116,0x1e376c08,0x2748774c,0x34b0bcb5,0x391c0cb3,0x4ed8aa4a,0x5b9cca4f,0x682e6ff3,
 0x748f82ee,0x78a5636f,0x84c87814,0x8cc70208,0x90befffa,0xa4506ceb,0xbef9a3f7,0xc67178f2]
def hh:List Nat:=[0x6a09e667,0xbb67ae85,0x3c6ef372,0xa54ff53a,0x510e527f,0x9b05688c,0x1f83d9ab,0x5be0cd19]
structure Oct where
 (a b c d e f g h:Nat)
def Oct.l (s:Oct):List Nat:=[s.a,s.b,s.c,s.d,s.e,s.f,s.g,s.h]
def oct (l:List Nat):Oct:=⟨aZ l 0,aZ l 1,aZ l 2,aZ l 3,aZ l 4,aZ l 5,aZ l 6,aZ l 7⟩
def tt (s:Oct) (k w:Nat):Nat:=((((s.h+b1 s.e) % 4294967296+cho s.e s.f s.g) % 4294967296+k) % 4294967296+w) % 4294967296
def uu (s:Oct):Nat:=(b0 s.a+maj s.a s.b s.c) % 4294967296
def rnd (s:Oct) (k w:Nat):Oct:=⟨(tt s k w+uu s) % 4294967296,s.a,s.b,s.c,(s.d+tt s k w) % 4294967296,s.e,s.f,s.g⟩
def rnds (s:Oct) (w:List Nat):Nat→Oct
 | 0=>s
 | i+1=>rnd (rnds s w i) (aZ kk i) (aZ w i)
def own (b:List UInt8):Nat→List Nat
 | 0=>[]
 | i+1=>own b i ++ [aF ((b.drop (4 * i)).take 4)]
def wof (b:List UInt8):List Nat:=ext (own b 16) 48
def addl (l m:List Nat):List Nat:=List.zipWith (fun x y=>(x+y) % 4294967296) l m
def comp (h:List Nat) (b:List UInt8):List Nat:=addl h (rnds (oct h) (wof b) 64).l
def eat (h:List Nat) (bs:List UInt8):Nat→List Nat
 | 0=>h
 | n+1=>comp (eat h bs n) ((bs.drop (64 * n)).take 64)
def bD (n:Nat):Nat:=(119 - n % 64) % 64
def tail (n:Nat):List UInt8:=(128:UInt8) :: (List.replicate (bD n) 0 ++ be (8 * n) 8)
def spell:List Nat→List UInt8
 | []=>[]
 | x :: l=>be x 4 ++ spell l
def full (bs:List UInt8):List UInt8:=bs ++ tail bs.length
def sha (bs:List UInt8):List UInt8:=spell (eat hh (full bs) ((full bs).length / 64))
def Sm (l:List Nat):Prop:=∀ x∈l,x<4294967296
theorem at_sm {l:List Nat} (h:Sm l) (i:Nat):aZ l i<4294967296:=by
 unfold aZ
 rcases Nat.lt_or_ge i l.length with f | f
 ·rw [List.getD_eq_getElem?_getD,List.getElem?_eq_getElem f,Option.getD_some]
  exact h _ (List.getElem_mem f)
 ·rw [List.getD_eq_getElem?_getD,List.getElem?_eq_none f]; decide
theorem or_lt {a b:Nat} (f:a<4294967296) (hb:b<4294967296):a ||| b<4294967296:=Nat.or_lt_two_pow (n:=32) f hb
theorem xor_lt {a b:Nat} (f:a<4294967296) (hb:b<4294967296):a ^^^ b<4294967296:=Nat.xor_lt_two_pow (n:=32) f hb
theorem and_lt {a:Nat} (b:Nat) (f:a<4294967296):a &&& b<4294967296:=Nat.lt_of_le_of_lt Nat.and_le_left f
theorem dn_lt {x:Nat} (n:Nat) (f:x<4294967296):x / 2 ^ n<4294967296:=Nat.lt_of_le_of_lt (Nat.div_le_self _ _) f
theorem bJ {x:Nat} (n:Nat) (f:x<4294967296):br x n<4294967296:=or_lt (dn_lt n f) (Nat.mod_lt _ (by decide))
theorem nxw_lt (l:List Nat):nxw l<4294967296:=Nat.mod_lt _ (by decide)
theorem ext_length (l:List Nat) (k:Nat):(ext l k).length=l.length+k:=by
 induction k with
 | zero=>rfl
 | succ k ih=>rw [ext,List.length_append,ih]; simp; omega
theorem ext_sm {l:List Nat} (h:Sm l) (k:Nat):Sm (ext l k):=by
 induction k with
 | zero=>exact h
 | succ k ih =>
  intro x f
  rw [ext,List.mem_append,List.mem_singleton] at f
  rcases f with f | rfl
  ·exact ih x f
  ·exact nxw_lt _
theorem dF (b:List UInt8) (i:Nat):(own b i).length=i:=by
 induction i with
 | zero=>rfl
 | succ i ih=>rw [own,List.length_append,ih]; rfl
theorem tell4_lt (l:List UInt8) (h:l.length≤4):aF l<4294967296 :=
 Nat.lt_of_lt_of_le (tell_lt l) (Nat.le_trans (Nat.pow_le_pow_right (by decide) h) (by decide))
theorem own_sm (b:List UInt8) (i:Nat):Sm (own b i):=by
 induction i with
 | zero=>intro x f; cases f
 | succ i ih =>
  intro x f
  rw [own,List.mem_append,List.mem_singleton] at f
  rcases f with f | rfl
  ·exact ih x f
  ·exact tell4_lt _ (by simp; omega)
theorem wof_length (b:List UInt8):(wof b).length=64:=by rw [wof,ext_length,dF]
theorem kk_length:kk.length=64:=rfl
theorem hh_sm:Sm hh:=by unfold Sm hh; decide
theorem hh_length:hh.length=8:=rfl
structure Oct.Sm (s:Oct):Prop where
 a:s.a<4294967296
 b:s.b<4294967296
 c:s.c<4294967296
 d:s.d<4294967296
 e:s.e<4294967296
 f:s.f<4294967296
 g:s.g<4294967296
 h:s.h<4294967296
theorem oct_sm {l:List Nat} (h:Go.Proofs.YtmapkbdjnnionaaGreatDoor.Sm l):(oct l).Sm:=⟨at_sm h 0,at_sm h 1,at_sm h 2,at_sm h 3,at_sm h 4,at_sm h 5,at_sm h 6,at_sm h 7⟩
theorem rnd_sm {s:Oct} (h:s.Sm) (k w:Nat):(rnd s k w).Sm:=⟨Nat.mod_lt _ (by decide),h.a,h.b,h.c,Nat.mod_lt _ (by decide),h.e,h.f,h.g⟩
theorem oct_l {l:List Nat} (h:l.length=8):(oct l).l=l:=by
 match l,h with
 | [a,b,c,d,e,f,g,i],_=>rfl
theorem addl_length (l m:List Nat) (h:l.length=8) (k:m.length=8):(addl l m).length=8:=by simp [addl,h,k]
theorem addl_sm (l m:List Nat):Go.Proofs.YtmapkbdjnnionaaGreatDoor.Sm (addl l m):=by
 intro x f
 unfold addl at f
 rw [List.mem_iff_getElem] at f
 obtain ⟨i,hi,rfl⟩:=f
 rw [List.getElem_zipWith]
 exact Nat.mod_lt _ (by decide)
theorem bT (h:List Nat) (b:List UInt8) (f:h.length=8):(comp h b).length=8:=addl_length _ _ f rfl
theorem comp_sm (h:List Nat) (b:List UInt8):Go.Proofs.YtmapkbdjnnionaaGreatDoor.Sm (comp h b):=addl_sm _ _
theorem eat_length (h:List Nat) (bs:List UInt8) (n:Nat) (f:h.length=8):(eat h bs n).length=8:=by
 cases n with
 | zero=>exact f
 | succ n =>
  have:∀ n,(eat h bs n).length=8:=by
   intro n
   induction n with
   | zero=>exact f
   | succ n ih=>exact bT _ _ ih
  exact this _
theorem eat_sm (h:List Nat) (bs:List UInt8) (n:Nat) (f:Go.Proofs.YtmapkbdjnnionaaGreatDoor.Sm h):Go.Proofs.YtmapkbdjnnionaaGreatDoor.Sm (eat h bs n):=by
 cases n with
 | zero=>exact f
 | succ n=>exact comp_sm _ _
theorem eat_append (h:List Nat) (bs x:List UInt8) (n:Nat) (f:64 * n≤bs.length):eat h (bs ++ x) n=eat h bs n:=by
 induction n with
 | zero=>rfl
 | succ n ih =>
  rw [eat,eat,ih (by omega)]
  congr 1
  rw [List.drop_append_of_le_length (by omega),List.take_append_of_le_length (by simp; omega)]
theorem dP (n:Nat):(tail n).length=9+bD n:=by simp [tail,aj]; omega
theorem full_whole (bs:List UInt8):(full bs).length % 64=0:=by
 unfold full
 rw [List.length_append,dP]
 unfold bD
 omega
theorem spell_length (l:List Nat):(spell l).length=4 * l.length:=by
 induction l with
 | nil=>rfl
 | cons x l ih=>rw [spell,List.length_append,aj,ih,List.length_cons]; omega
theorem dD (bs:List UInt8):(sha bs).length=32:=by rw [sha,spell_length,eat_length _ _ _ hh_length]
theorem at_cons (x:Nat) (l:List Nat) (i:Nat):aZ (x :: l) (i+1)=aZ l i:=by simp [aZ]
theorem spell_at (l:List Nat) (i:Nat) (h:i<4 * l.length):(spell l)[i]?=some (UInt8.ofNat (aZ l (i / 4) / 256 ^ (3 - i % 4))):=by
 induction l generalizing i with
 | nil=>simp at h
 | cons x l ih =>
  rw [spell]
  rcases Nat.lt_or_ge i 4 with f | f
  ·rw [List.getElem?_append_left (by rw [aj]; exact f)]
   match i,f with
   | 0,_=>simp [be,aZ]
   | 1,_=>simp [be,aZ]
   | 2,_=>simp [be,aZ]
   | 3,_=>simp [be,aZ]
  ·rw [List.getElem?_append_right (by rw [aj]; exact f),aj,ih (i - 4) (by rw [List.length_cons] at h; omega)]
   obtain ⟨j,rfl⟩:∃ j,i=j+4:=⟨i - 4,by omega⟩
   have D:(j+4) / 4=j / 4+1:=by omega
   have z:(j+4) % 4=j % 4:=by omega
   rw [D,z,at_cons,Nat.add_sub_cancel]
end
section
theorem div_unique {P q r m:Nat} (h:P=q * m+r) (f:r<m):q=P / m∧r=P % m:=by
 have z:0<m:=by omega
 rw [h,Nat.add_comm,Nat.add_mul_div_right _ _ z,Nat.add_mul_mod_self_right,Nat.div_eq_of_lt f,Nat.mod_eq_of_lt f,Nat.zero_add]
 exact ⟨rfl,rfl⟩
theorem gcd_twice (a b:Nat):Nat.gcd (2 * a) (2 * b)=2 * Nat.gcd a b:=Nat.gcd_mul_left 2 a b
theorem gcd_odd {a b:Nat} (hb:b % 2=1):Nat.gcd (2 * a) b=Nat.gcd a b:=by
 have h:Nat.Coprime 2 b:=by
  unfold Nat.Coprime
  rw [Nat.gcd_rec,hb]; decide
 exact Nat.Coprime.gcd_mul_left_cancel a h
theorem gcd_odd' {a b:Nat} (f:a % 2=1):Nat.gcd a (2 * b)=Nat.gcd a b:=by rw [Nat.gcd_comm,gcd_odd f,Nat.gcd_comm]
theorem gcd_less {a b:Nat} (h:b≤a):Nat.gcd (a - b) b=Nat.gcd a b:=Nat.gcd_sub_self_left h
theorem gcd_less' {a b:Nat} (h:a≤b):Nat.gcd a (b - a)=Nat.gcd a b:=by rw [Nat.gcd_comm,gcd_less h,Nat.gcd_comm]
theorem half_first {u f y0:Nat} (E:2147483648≤f) (F:y0<4294967296) (D:u<f * 4294967296+y0):u / f≤4294967297∧u=u / f * f+u % f∧u % f<f:=by
 have z:0<f:=by omega
 refine ⟨?_,?_,Nat.mod_lt _ z⟩
 ·have:u / f<4294967298:=by
   rw [Nat.div_lt_iff_lt_mul z]
   omega
  omega
 ·have:=Nat.div_add_mod u f
  rw [Nat.mul_comm] at this
  exact this.symm
theorem half_test {u u1 f y0 q r:Nat} (h:u=q * f+r):(r * 4294967296+u1<q * y0)↔(u * 4294967296+u1<q * (f * 4294967296+y0)):=by
 have D:q * (f * 4294967296+y0)=q * f * 4294967296+q * y0:=by rw [Nat.mul_add,Nat.mul_assoc]
 have z:u * 4294967296=q * f * 4294967296+r * 4294967296:=by rw [h,Nat.add_mul]
 rw [D,z]
 omega
theorem half_most {u u1 y:Nat} (f:u<y) (z:u1<4294967296):(u * 4294967296+u1) / y<4294967296:=by
 rw [Nat.div_lt_iff_lt_mul (by omega)]
 have:(u+1) * 4294967296≤y * 4294967296:=Nat.mul_le_mul_right _ f
 rw [Nat.add_mul] at this
 rw [Nat.mul_comm 4294967296 y]
 omega
theorem half_less {n y q:Nat} (z:0<y) (D:n / y<4294967296) (E:n / y≤q) (h:4294967296≤q∨n<q * y):n / y≤q - 1∧1≤q:=by
 have f:n / y<q:=by
  rcases h with h | h
  ·exact Nat.lt_of_lt_of_le D h
  ·rw [Nat.div_lt_iff_lt_mul z]; exact h
 generalize n / y=d at *
 omega
theorem half_done {n y q:Nat} (f:0<y) (z:n / y≤q) (h:q * y≤n):q=n / y:=by
 have:q≤n / y:=by rw [Nat.le_div_iff_mul_le f]; exact h
 omega
theorem half_broken {u u1 f y0 q r:Nat} (h:u=q * f+r) (E:0<f * 4294967296+y0) (J:y0<4294967296) (G:q≤4294967296) (F:4294967296≤r) (z:(u * 4294967296+u1) / (f * 4294967296+y0)≤q):q=(u * 4294967296+u1) / (f * 4294967296+y0):=by
 refine half_done E z ?_
 rcases Nat.lt_or_ge (u * 4294967296+u1) (q * (f * 4294967296+y0)) with D | D
 ·have I:=(half_test (u1:=u1) (y0:=y0) h).2 D
  have a:q * y0≤4294967296 * 4294967295:=Nat.mul_le_mul G (by omega)
  have b:4294967296 * 4294967296≤r * 4294967296:=Nat.mul_le_mul_right _ F
  omega
 ·exact D
theorem half_both {u u1 u0 y q1 q0 r1 r0:Nat} (f:u * 4294967296+u1=q1 * y+r1) (z:r1 * 4294967296+u0=q0 * y+r0) :
  (u * 4294967296+u1) * 4294967296+u0=(q1 * 4294967296+q0) * y+r0:=by
 rw [f,Nat.add_mul,Nat.add_mul,Nat.add_assoc,z,Nat.mul_right_comm]
 omega
theorem moved_div {n y s q r:Nat} (E:0<y) (h:n * 2 ^ s=q * (y * 2 ^ s)+r) (D:r<y * 2 ^ s):q=n / y∧r / 2 ^ s=n % y:=by
 obtain ⟨z,f⟩:=div_unique h D
 rw [Nat.mul_div_mul_right _ _ (Nat.two_pow_pos s)] at z
 rw [Nat.mul_mod_mul_right] at f
 exact ⟨z,by rw [f,Nat.mul_div_cancel _ (Nat.two_pow_pos s)]⟩
end
end Go.Proofs.YtmapkbdjnnionaaGreatDoor

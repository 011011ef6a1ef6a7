import Derived.Test.YtmapkbdjnnionaaGreatDoorPzAO
import Derived.Shelf.Small.Bits
import Derived.Shelf.Bits.Mul64
import Derived.Deep.DeepCutAuto
import Derived.Deep.CutBlock
set_option maxRecDepth 100000
set_option maxHeartbeats 8000000
set_option linter.all false
namespace Go.Proofs.YtmapkbdjnnionaaGreatDoor
open Go.RowKit Go.Shelf
def lz_ren:Go.Shelf.Ren:=⟨fun | 129=>35 | 134=>96 | n=>n,fun | 53=>22 | 3=>3 | 4=>4 | 46=>75 | 5=>5 | 9=>9 | n=>n,fun | n=>n⟩
theorem lz_lays:Go.Proofs.Lays.n134 Tryz.prog lz_ren:={
 mixed:=by kernel_rfl
 f129:=Tryz.func35.trans (congrArg some (by kernel_rfl))
 f134:=Tryz.func96.trans (congrArg some (by kernel_rfl))
 t3:=Tryz.underlying3
 a3:=Tryz.isAgg3
 z3:=Tryz.sizeOf3
 v3:=Tryz.zeroValue3
 t4:=Tryz.underlying4
 a4:=Tryz.isAgg4
 z4:=Tryz.sizeOf4
 v4:=Tryz.zeroValue4
 t5:=Tryz.underlying5
 a5:=Tryz.isAgg5
 z5:=Tryz.sizeOf5
 v5:=Tryz.zeroValue5
 t9:=Tryz.underlying9
 a9:=Tryz.isAgg9
 z9:=Tryz.sizeOf9
 v9:=Tryz.zeroValue9
 t46:=Tryz.underlying75
 a46:=Tryz.isAgg75
 z46:=Tryz.sizeOf75
 v46:=Tryz.zeroValue75
 t53:=Tryz.underlying22
 a53:=Tryz.isAgg22
 z53:=Tryz.sizeOf22
 v53:=Tryz.zeroValue22 }
theorem lz_any (x s:Nat) (w:World) (f:x<18446744073709551616) (z:s+aq x=64):Calls Tryz.prog 96 #[.int .u64 (x:Int)] w fun e w'=>e=.returned (.int .i64 (s:Int))∧w'=w:=by
 refine (Any.bits_LeadingZeros64 lz_lays (x:Int) w (by omega) (by omega)).mono fun e w' ⟨he,hw⟩=>?_
 rw [he,hw,Int.toNat_natCast,bitLen_nbits x f]
 refine ⟨?_,rfl⟩
 rw [show (64:Int) - (aq x:Int)=(s:Int) by omega]
theorem mul64_any (x y h l:Nat) (w:World) (z:x<18446744073709551616) (f:y<18446744073709551616) (E:x * y / 18446744073709551616=h) (D:x * y % 18446744073709551616=l):Calls Tryz.prog 73 #[.int .u64 (x:Int),.int .u64 (y:Int)] w fun e w'=>e=.returned (.tuple #[.int .u64 (h:Int),.int .u64 (l:Int)])∧w'=w:=by
 subst E; subst D
 exact Any.bits_Mul64 (ρ:=⟨fun | 264=>73 | n=>n,fun | 53=>22 | 46=>75 | n=>n,fun | n=>n⟩) {
  mixed:=by kernel_rfl
  f264:=Tryz.func73.trans (congrArg some (by kernel_rfl))
  t46:=Tryz.underlying75
  a46:=Tryz.isAgg75
  z46:=Tryz.sizeOf75
  v46:=Tryz.zeroValue75
  t53:=Tryz.underlying22
  a53:=Tryz.isAgg22
  z53:=Tryz.sizeOf22
  v53:=Tryz.zeroValue22 } x y z f w
theorem half_wraps {D y0 q r u1:Nat} (E:q≤4294967297) (G:r<4294967296) (I:D<4294967296) (J:y0<4294967296) (F:u1<4294967296) :
  ∃ z f:Nat,IntKind.u64.wrap ((q:Int) * (y0:Int))=(f:Int)∧IntKind.u64.wrap (4294967296 * (r:Int))=4294967296 * (r:Int)∧IntKind.u64.wrap (4294967296 * (r:Int)+(u1:Int))=(z:Int)∧z=r * 4294967296+u1∧f=q * y0:=by
 have a:q * y0≤4294967297 * 4294967295:=Nat.mul_le_mul E (by omega)
 refine ⟨_,_,?_,?_,?_,rfl,rfl⟩
 ·rw [← Int.natCast_mul,IntWalk.u64_in _ (by omega)]
 ·rw [IntWalk.u64_in _ (by omega)]
 ·rw [IntWalk.u64_in _ (by omega)]; omega
theorem half_down {u u1 f y0 q r d:Nat} (X:f<4294967296∧y0<4294967296∧2147483648≤f∧u1<4294967296∧u<f * 4294967296+y0∧(u * 4294967296+u1) / (f * 4294967296+y0)=d) (L:u=q * f+r∧d≤q∧q≤4294967297∧r<4294967296) (E:4294967296≤q∨r * 4294967296+u1<q * y0) :
  ∃ z D:Nat,IntKind.u64.wrap ((q:Int) - 1)=(z:Int)∧IntKind.u64.wrap ((r:Int)+(f:Int))=(D:Int)∧z<q∧(4294967296≤D→d=z)∧(D<4294967296→u=z * f+D∧d≤z∧z≤4294967297∧D<4294967296):=by
 obtain ⟨Z,U,Y,R,O,F⟩:=X
 obtain ⟨K,J,l3,l4⟩:=L
 have M:0<f * 4294967296+y0:=by omega
 have V:=half_most O R
 have I:d≤q - 1∧1≤q:=by
  rw [← F] at J ⊢
  refine half_less M V J ?_
  rcases E with E | E
  ·exact Or.inl E
  ·exact Or.inr ((half_test K).1 E)
 obtain ⟨k,rfl⟩:∃ k,q=k+1:=⟨q - 1,by omega⟩
 rw [Nat.add_sub_cancel] at I
 have e:u=k * f+(r+f):=by rw [K,Nat.succ_mul]; omega
 refine ⟨k,r+f,?_,?_,by omega,fun G=>?_,fun G=>⟨e,I.1,by omega,G⟩⟩
 ·rw [IntWalk.u64_in _ (by omega)]; omega
 ·rw [IntWalk.u64_in _ (by omega)]; omega
 ·have:=half_broken (u1:=u1) e M U (by omega) G (by rw [F]; exact I.1)
  rw [this,F]
theorem half_stop {u u1 f y0 q r d:Nat} (X:f<4294967296∧y0<4294967296∧2147483648≤f∧u1<4294967296∧u<f * 4294967296+y0∧(u * 4294967296+u1) / (f * 4294967296+y0)=d) (L:u=q * f+r∧d≤q∧q≤4294967297∧r<4294967296) (U:q<4294967296) (F:¬ r * 4294967296+u1<q * y0):d=q:=by
 obtain ⟨M,K,J,I,G,z⟩:=X
 obtain ⟨E,D,R,O⟩:=L
 rw [← z] at D
 have:=half_done (by omega) D (by have:=mt (half_test (u1:=u1) (y0:=y0) E).2 F; omega)
 rw [this,z]
theorem half_start {u u1 f y0 d:Nat} (V:f<4294967296) (I:y0<4294967296) (G:2147483648≤f) (U:u1<4294967296) (F:u<f * 4294967296+y0) (E:(u * 4294967296+u1) / (f * 4294967296+y0)=d) :
  ∃ q r:Nat,IntKind.u64.wrap ((u:Int) / (f:Int))=(q:Int)∧IntKind.u64.wrap ((u:Int) - IntKind.u64.wrap ((q:Int) * (f:Int)))=(r:Int)∧(u=q * f+r∧d≤q∧q≤4294967297∧r<4294967296):=by
 obtain ⟨O,M,Z⟩:=half_first G I F
 have R:((u:Int) / (f:Int))=((u / f:Nat):Int):=by simp
 have D:d≤u / f:=by
  rw [← E]
  refine Nat.le_of_lt_succ (Nat.div_lt_of_lt_mul ?_)
  have:u+1≤(u / f+1) * f:=by rw [Nat.add_mul]; omega
  have Y:(u+1) * 4294967296≤(u / f+1) * f * 4294967296:=Nat.mul_le_mul_right _ this
  have L:(u / f+1) * (f * 4294967296+y0)=(u / f+1) * f * 4294967296+(u / f+1) * y0:=by rw [Nat.mul_add,Nat.mul_assoc]
  have K:Nat.succ (u / f)=u / f+1:=rfl
  rw [K,Nat.mul_comm (f * 4294967296+y0),L]
  omega
 rw [R]
 generalize u / f=q at *
 generalize u % f=r at *
 have J:IntKind.u64.wrap ((q:Int) * (f:Int))=((q * f:Nat):Int):=by
  rw [← Int.natCast_mul]
  generalize q * f=z at *
  rw [IntWalk.u64_in _ (by omega)]
 refine ⟨q,r,?_,?_,M,D,O,by omega⟩
 ·rw [IntWalk.u64_in _ (by omega)]
 ·rw [J]
  generalize q * f=z at *
  rw [IntWalk.u64_in _ (by omega)]; omega
theorem half_parts (Y:Nat) (h:Y<18446744073709551616):∃ a b:Nat,(Y:Int) / 4294967296=(a:Int)∧bits .and .u64 (Y:Int) 4294967295=(b:Int)∧a * 4294967296+b=Y∧a<4294967296∧b<4294967296:=by
 refine ⟨Y / 4294967296,Y % 4294967296,by omega,Mul64.maskN Y h,by omega,by omega,by omega⟩
theorem two_halves (u u1 u0:Nat):u * 18446744073709551616+(u1 * 4294967296+u0)=(u * 4294967296+u1) * 4294967296+u0:=by omega
theorem moved_up {hi lo y s t:Nat} (L:hi<y) (R:lo<18446744073709551616) (hs:s+aq y=64) (Z:t+s=64) :
  ∃ Y u l:Nat,IntKind.u64.wrap ((y:Int) * 2 ^ s)=(Y:Int)∧bits .or .u64 (IntKind.u64.wrap ((hi:Int) * 2 ^ s)) ((lo:Int) / 2 ^ t)=(u:Int)∧IntKind.u64.wrap ((lo:Int) * 2 ^ s)=(l:Int)∧Y=y * 2 ^ s∧9223372036854775808≤Y∧Y<18446744073709551616∧u<Y∧l<18446744073709551616∧(hi * 18446744073709551616+lo) * 2 ^ s=u * 18446744073709551616+l:=by
 have h1:=nbits_lt y
 have h2:=nbits_le y (by omega)
 have K:(18446744073709551616:Nat)=2 ^ t * 2 ^ s:=by rw [← Nat.pow_add,Z]
 have f:=Nat.two_pow_pos s
 have D:=Nat.two_pow_pos t
 have z:y * 2 ^ s<18446744073709551616:=by
  have:=Nat.mul_lt_mul_of_pos_right h1 f
  rwa [← Nat.pow_add,show aq y+s=64 by omega] at this
 have hb:=cL y (by omega)
 have J:9223372036854775808≤y * 2 ^ s:=by
  have:=Nat.mul_le_mul_right (2 ^ s) h2
  rwa [← Nat.pow_add,show aq y - 1+s=63 by omega] at this
 have O:hi * 2 ^ s<18446744073709551616:=Nat.lt_of_le_of_lt (Nat.mul_le_mul_right _ (Nat.le_of_lt L)) z
 have G:lo / 2 ^ t<2 ^ s:=by rw [Nat.div_lt_iff_lt_mul D,Nat.mul_comm,← K]; exact R
 have E:lo / 2 ^ t<18446744073709551616:=Nat.lt_of_le_of_lt (Nat.div_le_self _ _) R
 have V:lo * 2 ^ s=lo / 2 ^ t * 18446744073709551616+lo % 2 ^ t * 2 ^ s:=by
  rw [K,← Nat.mul_assoc,← Nat.add_mul]
  congr 1
  have:=Nat.div_add_mod lo (2 ^ t)
  rw [Nat.mul_comm] at this; exact this.symm
 have F:lo % 2 ^ t * 2 ^ s<18446744073709551616:=by
  rw [K]; exact Nat.mul_lt_mul_of_pos_right (Nat.mod_lt _ D) f
 have U:(hi * 18446744073709551616+lo) * 2 ^ s=(hi * 2 ^ s+lo / 2 ^ t) * 18446744073709551616+lo % 2 ^ t * 2 ^ s:=by
  rw [Nat.add_mul,V,Nat.add_mul,Nat.mul_right_comm]; omega
 have M:∀ a:Nat,a * 2 ^ s<18446744073709551616→IntKind.u64.wrap ((a:Int) * 2 ^ s)=((a * 2 ^ s:Nat):Int):=fun a ha=>by
  have:((a:Int) * 2 ^ s)=((a * 2 ^ s:Nat):Int):=by simp
  rw [this,IntWalk.u64_in _ (by omega)]
 refine ⟨y * 2 ^ s,hi * 2 ^ s+lo / 2 ^ t,lo % 2 ^ t * 2 ^ s,M y z,?_,?_,rfl,J,z,?_,F,U⟩
 ·rw [M hi O,show ((lo:Int) / 2 ^ t)=((lo / 2 ^ t:Nat):Int) by simp,u64_or_nat _ _ O E]
  congr 1
  have h:=Nat.shiftLeft_add_eq_or_of_lt G hi
  rw [Nat.shiftLeft_eq] at h
  omega
 ·have:((lo:Int) * 2 ^ s)=((lo * 2 ^ s:Nat):Int):=by simp
  rw [this,IntKind.wrap_u64,V]
  omega
 ·have I:(hi * 18446744073709551616+lo)<y * 18446744073709551616:=by
   have:=Nat.mul_le_mul_right 18446744073709551616 (Nat.succ_le_of_lt L)
   rw [Nat.succ_mul] at this; omega
  have h3:=Nat.mul_lt_mul_of_pos_right I f
  rw [U,Nat.mul_right_comm] at h3
  omega
theorem div64_none (lo y:Nat) (w:World) (z:0<y) (I:lo<18446744073709551616) (J:y<18446744073709551616):Calls Tryz.prog 74 #[.int .u64 0,.int .u64 (lo:Int),.int .u64 (y:Int)] w fun e w'=>e=.returned (.tuple #[.int .u64 ((lo / y:Nat):Int),.int .u64 ((lo % y:Nat):Int)])∧Below w.heap.size w w':=by
 have G:((y:Int)=0)=False:=eq_false (by omega)
 have n1:((y:Int)≤0)=False:=eq_false (by omega)
 have hd:lo / y≤lo:=Nat.div_le_self _ _
 have D:lo % y<y:=Nat.mod_lt _ z
 obtain ⟨q,eq⟩:∃ q,lo / y=q:=⟨_,rfl⟩
 obtain ⟨r,f⟩:∃ r,lo % y=r:=⟨_,rfl⟩
 have M:IntKind.u64.wrap ((lo:Int) / (y:Int))=(q:Int):=by
  rw [← Int.natCast_ediv,eq,IntWalk.u64_in _ (by omega)]
 have L:(lo:Int) % (y:Int)=(r:Int):=by rw [← Int.natCast_emod,f]
 have K:(lo:Int).tmod (y:Int)=(r:Int):=by rw [Int.tmod_eq_emod_of_nonneg (by omega),← Int.natCast_emod,f]
 have F:=hid eq
 have E:=hid f
 clear eq f hd D
 go_enter Tryz.func74,Tryz.ntmps74
 go_upto_region 6 with fail
 go_region
 all_goals
  go_wp2
  exact bodyPost_ret (v:=.tuple #[.int .u64 (q:Int),.int .u64 (r:Int)]) (by simp [results,Tryz.results74,go_sem]) rfl ⟨by rw [F.out,E.out],(Below.refl _ _).drew⟩
theorem div64_some (hi lo y:Nat) (w:World) (hy:hi<y) (h0:hi≠0) (hl:lo<18446744073709551616) (hY:y<18446744073709551616):Calls Tryz.prog 74 #[.int .u64 (hi:Int),.int .u64 (lo:Int),.int .u64 (y:Int)] w fun e w'=>e=.returned (.tuple #[.int .u64 (((hi * 18446744073709551616+lo) / y:Nat):Int),.int .u64 (((hi * 18446744073709551616+lo) % y:Nat):Int)])∧Below w.heap.size w w':=by
 have aJ:=cK y 64 hY
 obtain ⟨s,hs⟩:∃ s,s+aq y=64:=⟨64 - aq y,by omega⟩
 obtain ⟨t,ht⟩:∃ t,t+s=64:=⟨64 - s,by omega⟩
 obtain ⟨Y,u,l,E1,E2,E3,e4,e5,e6,e7,e8,e9⟩:=moved_up hy hl hs ht
 have n0:((y:Int)=0)=False:=eq_false (by omega)
 have n1:((y:Int)≤(hi:Int))=False:=eq_false (by omega)
 have n2:((hi:Int)=0)=False:=eq_false (by omega)
 have n4:((hi:Int) == 0)=false:=by simpa using h0
 have n5:((y:Int) == 0)=false:=by
  have:¬ y=0:=by omega
  simpa using this
 have s1:IntKind.u64.wrap (s:Int)=(s:Int):=IntWalk.u64_in _ (by omega)
 have s2:min s 64=s:=by omega
 have s3:IntKind.u64.wrap (64 - (s:Int))=(t:Int):=by rw [IntWalk.u64_in _ (by omega)]; omega
 have s4:min t 64=t:=by omega
 obtain ⟨D,y0,Y1,Y0,aA,l1,l2⟩:=half_parts Y e6
 obtain ⟨u1,u0,U1,U0,ax,l4,l5⟩:=half_parts l e8
 have l3:2147483648≤D:=by clear e9 e4 hs ht; omega
 have aI:0<y:=Nat.lt_of_le_of_lt (Nat.zero_le _) hy
 obtain ⟨d1,ad⟩:∃ z,(u * 4294967296+u1) / (D * 4294967296+y0)=z:=⟨_,rfl⟩
 obtain ⟨r1,ao⟩:∃ z,(u * 4294967296+u1) % (D * 4294967296+y0)=z:=⟨_,rfl⟩
 have az:=half_most (u1:=u1) (show u<D * 4294967296+y0 by omega) l4
 have R:=Nat.mod_lt (u * 4294967296+u1) (show 0<D * 4294967296+y0 by omega)
 have O:=Nat.div_add_mod (u * 4294967296+u1) (D * 4294967296+y0)
 rw [ad] at az
 rw [ao] at R
 rw [ad,ao] at O
 obtain ⟨d2,ab⟩:∃ z,(r1 * 4294967296+u0) / (D * 4294967296+y0)=z:=⟨_,rfl⟩
 obtain ⟨r2,an⟩:∃ z,(r1 * 4294967296+u0) % (D * 4294967296+y0)=z:=⟨_,rfl⟩
 have ay:=half_most (u1:=u0) R l5
 have al:=Nat.mod_lt (r1 * 4294967296+u0) (show 0<D * 4294967296+y0 by omega)
 have M:=Nat.div_add_mod (r1 * 4294967296+u0) (D * 4294967296+y0)
 rw [ab] at ay
 rw [an] at al
 rw [ab,an] at M
 have X1:=hid (show D<4294967296∧y0<4294967296∧2147483648≤D∧u1<4294967296∧u<D * 4294967296+y0∧(u * 4294967296+u1) / (D * 4294967296+y0)=d1 from ⟨l1,l2,l3,l4,by omega,ad⟩)
 have X2:=hid (show D<4294967296∧y0<4294967296∧2147483648≤D∧u0<4294967296∧r1<D * 4294967296+y0∧(r1 * 4294967296+u0) / (D * 4294967296+y0)=d2 from ⟨l1,l2,l3,l5,R,ab⟩)
 obtain ⟨q1,aG,F1,G1,aC⟩:=half_start l1 l2 l3 l4 (show u<D * 4294967296+y0 by omega) ad
 obtain ⟨q2,aE,F2,G2,aB⟩:=half_start l1 l2 l3 l5 R ab
 rw [aA] at O M R al
 have V1:IntKind.u64.wrap (IntKind.u64.wrap (IntKind.u64.wrap ((u:Int) * 4294967296)+(u1:Int)) - IntKind.u64.wrap ((d1:Int) * (Y:Int)))=(r1:Int):=by
  have:((d1:Int) * (Y:Int))=((Y * d1:Nat):Int):=by rw [Int.natCast_mul]; exact Int.mul_comm _ _
  rw [this]
  simp only [IntKind.wrap_u64]
  omega
 have V2:IntKind.u64.wrap (IntKind.u64.wrap (IntKind.u64.wrap ((r1:Int) * 4294967296)+(u0:Int)) - IntKind.u64.wrap ((d2:Int) * (Y:Int)))=(r2:Int):=by
  have:((d2:Int) * (Y:Int))=((Y * d2:Nat):Int):=by rw [Int.natCast_mul]; exact Int.mul_comm _ _
  rw [this]
  simp only [IntKind.wrap_u64]
  omega
 have V3:IntKind.u64.wrap (IntKind.u64.wrap ((d1:Int) * 4294967296)+(d2:Int))=((d1 * 4294967296+d2:Nat):Int):=by
  simp only [IntKind.wrap_u64]
  omega
 have Z:=half_both (u:=u) (u1:=u1) (u0:=u0) (y:=Y) (q1:=d1) (q0:=d2) (r1:=r1) (r0:=r2) (by rw [Nat.mul_comm d1]; exact O.symm) (by rw [Nat.mul_comm d2]; exact M.symm)
 have aK:=moved_div (n:=hi * 18446744073709551616+lo) (y:=y) (s:=s) (q:=d1 * 4294967296+d2) (r:=r2) aI (by rw [e9,← e4,← Z,← ax]; exact two_halves u u1 u0) (by rw [← e4]; exact al)
 obtain ⟨o1,o2⟩:=aK
 have V4:(r2:Int) / 2 ^ s=(((hi * 18446744073709551616+lo) % y:Nat):Int):=by rw [← o2]; simp
 rw [o1] at V3
 obtain ⟨O1,ar⟩:∃ z,(hi * 18446744073709551616+lo) / y=z:=⟨_,rfl⟩
 obtain ⟨O2,ap⟩:∃ z,(hi * 18446744073709551616+lo) % y=z:=⟨_,rfl⟩
 rw [ar] at V3
 rw [ap] at V4
 have L1:=hid aC
 have L2:=hid aB
 clear aC aB
 have P1:=hid ar
 have P2:=hid ap
 have HY:=hid hY
 have HS:=hid hs
 have aM:((D:Int)=0)=False:=eq_false (by omega)
 have aL:¬ D=0:=by omega
 clear aJ hs ht e4 e5 e6 e7 e8 e9 aA ax l1 l2 l3 l4 l5 ad ao az R O ab an ay al M Z o1 o2 ar ap hy h0 hl hY
 go_enter Tryz.func74,Tryz.ntmps74
 go_upto_block 0 with (go_at_call 96; refine (lz_any y s _ HY.out HS.out).mono ?_; rintro e w' ⟨rfl,rfl⟩)
 go_cut [15,16] (fun s15 s16 wx=>s15=.int .u64 (d1:Int)∧(∃ x:Nat,s16=.int .u64 (x:Int))∧wx=w')
 case first =>
  go_wp2_with fail
  go_loop [15,16] (fun a b=>∃ q r:Nat,a=.int .u64 (q:Int)∧b=.int .u64 (r:Int)∧Hid (u=q * D+r∧d1≤q∧q≤4294967297∧r<4294967296)) (fun a _=>(intOf a).toNat)
  case atStart=>exact ⟨q1,aG,rfl,rfl,L1⟩
  case round =>
   obtain ⟨q,r,rfl,rfl,K⟩:=hrel
   have X:=X1.out
   obtain ⟨z1,z2,w1,w2,w4,G,F⟩:=half_wraps K.out.2.2.1 K.out.2.2.2 X.1 X.2.1 X.2.2.2.1
   by_cases c0:(4294967296:Int)≤(q:Int)
   ·clear w1 w2 w4
    obtain ⟨q',E,v1,v2,f,J,I⟩:=half_down X K.out (Or.inl (by omega))
    have f:=hid f
    have J:=hid J
    have I:=hid I
    clear X K G F
    by_cases L:4294967296≤E
    ·have c2:(4294967296:Int)≤(E:Int):=by omega
     have e:=hid (J.out L)
     clear J I L
     go_wp2
     go_meet
     exact ⟨by rw [e.out],⟨E,rfl⟩,rfl⟩
    ·have c2:¬ (4294967296:Int)≤(E:Int):=by omega
     have e:=hid (I.out (by omega))
     clear J I L
     go_wp2
     go_round
     case rel=>exact ⟨q',E,rfl,rfl,e⟩
     case measure=>have:=f.out; simp [intOf]; omega
   ·by_cases c1:(z1:Int)<(z2:Int)
    ·obtain ⟨q',E,v1,v2,f,J,I⟩:=half_down X K.out (Or.inr (by rw [← G,← F]; omega))
     have f:=hid f
     have J:=hid J
     have I:=hid I
     clear X K G F
     by_cases L:4294967296≤E
     ·have c2:(4294967296:Int)≤(E:Int):=by omega
      have e:=hid (J.out L)
      clear J I L
      go_wp2
      go_meet
      exact ⟨by rw [e.out],⟨E,rfl⟩,rfl⟩
     ·have c2:¬ (4294967296:Int)≤(E:Int):=by omega
      have e:=hid (I.out (by omega))
      clear J I L
      go_wp2
      go_round
      case rel=>exact ⟨q',E,rfl,rfl,e⟩
      case measure=>have:=f.out; simp [intOf]; omega
    ·have e:=hid (half_stop X K.out (by omega) (by rw [← G,← F]; omega))
     clear X K G F
     go_wp2
     go_meet
     exact ⟨by rw [e.out],⟨r,rfl⟩,rfl⟩
 case rest =>
  obtain ⟨rfl,⟨x1,rfl⟩,V⟩:=hcut
  have U:=V.symm
  clear V
  subst U
  go_upto_block 2 with fail
  go_cut [18,16] (fun s18 s16 wx=>s18=.int .u64 (d2:Int)∧(∃ x:Nat,s16=.int .u64 (x:Int))∧wx=w')
  case first =>
   go_wp2_with fail
   go_loop [18,16] (fun a b=>∃ q r:Nat,a=.int .u64 (q:Int)∧b=.int .u64 (r:Int)∧Hid (r1=q * D+r∧d2≤q∧q≤4294967297∧r<4294967296)) (fun a _=>(intOf a).toNat)
   case atStart=>exact ⟨q2,aE,rfl,rfl,L2⟩
   case round =>
    obtain ⟨q,r,rfl,rfl,K⟩:=hrel
    have X:=X2.out
    obtain ⟨z1,z2,w1,w2,w4,G,F⟩:=half_wraps K.out.2.2.1 K.out.2.2.2 X.1 X.2.1 X.2.2.2.1
    by_cases c0:(4294967296:Int)≤(q:Int)
    ·clear w1 w2 w4
     obtain ⟨q',E,v1,v2,f,J,I⟩:=half_down X K.out (Or.inl (by omega))
     have f:=hid f
     have J:=hid J
     have I:=hid I
     clear X K G F
     by_cases L:4294967296≤E
     ·have c2:(4294967296:Int)≤(E:Int):=by omega
      have e:=hid (J.out L)
      clear J I L
      go_wp2
      go_meet
      exact ⟨by rw [e.out],⟨E,rfl⟩,rfl⟩
     ·have c2:¬ (4294967296:Int)≤(E:Int):=by omega
      have e:=hid (I.out (by omega))
      clear J I L
      go_wp2
      go_round
      case rel=>exact ⟨q',E,rfl,rfl,e⟩
      case measure=>have:=f.out; simp [intOf]; omega
    ·by_cases c1:(z1:Int)<(z2:Int)
     ·obtain ⟨q',E,v1,v2,f,J,I⟩:=half_down X K.out (Or.inr (by rw [← G,← F]; omega))
      have f:=hid f
      have J:=hid J
      have I:=hid I
      clear X K G F
      by_cases L:4294967296≤E
      ·have c2:(4294967296:Int)≤(E:Int):=by omega
       have e:=hid (J.out L)
       clear J I L
       go_wp2
       go_meet
       exact ⟨by rw [e.out],⟨E,rfl⟩,rfl⟩
      ·have c2:¬ (4294967296:Int)≤(E:Int):=by omega
       have e:=hid (I.out (by omega))
       clear J I L
       go_wp2
       go_round
       case rel=>exact ⟨q',E,rfl,rfl,e⟩
       case measure=>have:=f.out; simp [intOf]; omega
     ·have e:=hid (half_stop X K.out (by omega) (by rw [← G,← F]; omega))
      clear X K G F
      go_wp2
      go_meet
      exact ⟨by rw [e.out],⟨r,rfl⟩,rfl⟩
  case rest =>
   obtain ⟨rfl,⟨x2,rfl⟩,V⟩:=hcut
   have U:=V.symm
   clear V
   subst U
   go_wp2
   exact bodyPost_ret (v:=.tuple #[.int .u64 (O1:Int),.int .u64 (O2:Int)]) (by simp [results,Tryz.results74,go_sem]) rfl ⟨by rw [P1.out,P2.out],Below.refl _ _⟩
theorem div64_any (hi lo y q r:Nat) (w:World) (f:hi<y) (z:lo<18446744073709551616) (D:y<18446744073709551616) (G:(hi * 18446744073709551616+lo) / y=q) (F:(hi * 18446744073709551616+lo) % y=r):Calls Tryz.prog 74 #[.int .u64 (hi:Int),.int .u64 (lo:Int),.int .u64 (y:Int)] w fun e w'=>e=.returned (.tuple #[.int .u64 (q:Int),.int .u64 (r:Int)])∧Below w.heap.size w w':=by
 subst G; subst F
 by_cases E:hi=0
 ·subst E
  rw [Nat.zero_mul,Nat.zero_add]
  exact div64_none lo y w f z D
 ·exact div64_some hi lo y w f E z D
theorem rem64_any (hi lo y r:Nat) (w:World) (hh:hi<18446744073709551616) (F:lo<18446744073709551616) (I:0<y) (G:y<18446744073709551616) (D:(hi * 18446744073709551616+lo) % y=r):Calls Tryz.prog 97 #[.int .u64 (hi:Int),.int .u64 (lo:Int),.int .u64 (y:Int)] w fun e w'=>e=.returned (.int .u64 (r:Int))∧Below w.heap.size w w':=by
 have O:((y:Int)=0)=False:=eq_false (by omega)
 have n3:¬ y=0:=by omega
 obtain ⟨m,z⟩:∃ m,hi % y=m:=⟨_,rfl⟩
 have E:m<y:=by rw [← z]; exact Nat.mod_lt _ I
 have R:(hi:Int).tmod (y:Int)=(m:Int):=by rw [Int.tmod_eq_emod_of_nonneg (by omega),← Int.natCast_emod,z]
 have f:(m * 18446744073709551616+lo) % y=r:=by rw [← D,← z,Nat.add_mod,Nat.mod_mul_mod,← Nat.add_mod]
 have L:=hid E
 have M:=hid F
 have J:=hid G
 have K:=hid f
 clear z E D f F G hh I
 go_enter Tryz.func97,Tryz.ntmps97
 go_wp2_with (go_at_call 74; refine (div64_any m lo y _ r _ L.out M.out J.out rfl K.out).mono ?_; rintro e w' ⟨rfl,hb⟩)
 exact bodyPost_ret (v:=.int .u64 (r:Int)) (by simp [results,Tryz.results97,go_sem]) rfl ⟨rfl,hb⟩
end Go.Proofs.YtmapkbdjnnionaaGreatDoor

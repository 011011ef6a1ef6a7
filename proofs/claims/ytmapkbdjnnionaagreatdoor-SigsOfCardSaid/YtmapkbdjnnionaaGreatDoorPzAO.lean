import Derived.Test.YtmapkbdjnnionaaGreatDoorPzAN
import Derived.Shelf.Strconv.Itoa0
set_option maxRecDepth 100000
set_option maxHeartbeats 8000000
set_option linter.all false
namespace Go.Proofs.YtmapkbdjnnionaaGreatDoor
open Go.RowKit Go.Shelf
def len_ren:Go.Shelf.Ren:=⟨fun | 129=>35 | n=>n,fun | 53=>22 | 3=>3 | 4=>4 | 46=>75 | 5=>5 | 9=>9 | n=>n,fun | n=>n⟩
theorem len_lays:Go.Proofs.Lays.n129 Tryz.prog len_ren:={
 mixed:=by kernel_rfl
 f129:=Tryz.func35.trans (congrArg some (by kernel_rfl))
 t3:=Tryz.underlying3
 a3:=Tryz.isAgg3
 z3:=Tryz.sizeOf3
 v3:=Tryz.zeroValue3
 t4:=Tryz.underlying4
 a4:=Tryz.isAgg4
 z4:=Tryz.sizeOf4
 v4:=Tryz.zeroValue4
 t5:=Tryz.underlying5
 a5:=Tryz.isAgg5
 z5:=Tryz.sizeOf5
 v5:=Tryz.zeroValue5
 t9:=Tryz.underlying9
 a9:=Tryz.isAgg9
 z9:=Tryz.sizeOf9
 v9:=Tryz.zeroValue9
 t46:=Tryz.underlying75
 a46:=Tryz.isAgg75
 z46:=Tryz.sizeOf75
 v46:=Tryz.zeroValue75
 t53:=Tryz.underlying22
 a53:=Tryz.isAgg22
 z53:=Tryz.sizeOf22
 v53:=Tryz.zeroValue22 }
theorem nbits_half (x:Nat) (h:x≠0):aq x=1+aq (x / 2):=by
 have z:0<x:=by omega
 by_cases f:x=1
 ·subst f; decide
 ·have D:x / 2≠0:=by omega
  have a:=nbits_lt (x / 2)
  have b:=nbits_le (x / 2) (by omega)
  have c:=cL (x / 2) (by omega)
  have e:1+aq (x / 2)=aq (x / 2)+1:=by omega
  rw [e]
  refine nbits_of x (aq (x / 2)) ?_ ?_
  ·have:2 ^ aq (x / 2)=2 * 2 ^ (aq (x / 2) - 1):=by
    conv=>lhs; rw [show aq (x / 2)=(aq (x / 2) - 1)+1 by omega,Nat.pow_succ,Nat.mul_comm]
   omega
  ·rw [Nat.pow_succ]; omega
theorem bitLen_nbits (x:Nat) (h:x<18446744073709551616):Lib.bitLen x=aq x:=by
 induction x using Nat.strongRecOn with
 | ind x ih =>
  by_cases f:x=0
  ·subst f; decide
  ·rw [Lib.bitLen_half x f h,nbits_half x f,ih (x / 2) (by omega) (by omega)]
theorem len_any (x:Nat) (w:World) (f:x<18446744073709551616):Calls Tryz.prog 35 #[.int .u64 (x:Int)] w fun e w'=>e=.returned (.int .i64 (aq x:Int))∧w=w':=by
 refine (Any.bits_Len64 len_lays (x:Int) w (by omega) (by omega)).mono fun e w' ⟨he,hw⟩=>?_
 rw [he,hw,Int.toNat_natCast,bitLen_nbits x f]
 exact ⟨rfl,rfl⟩
theorem nbits_top (y r:Nat) (k:Nat) (D:r<2 ^ k) (f:0<y):aq (r+2 ^ k * y)=k+aq y:=by
 have a:=nbits_lt y
 have b:=nbits_le y f
 have c:=cL y f
 rw [show k+aq y=(k+(aq y - 1))+1 by omega]
 refine nbits_of _ _ ?_ ?_
 ·rw [Nat.pow_add]
  have:=Nat.mul_le_mul_left (2 ^ k) b
  omega
 ·rw [show k+(aq y - 1)+1=k+aq y by omega,Nat.pow_add]
  have z:y+1≤2 ^ aq y:=a
  have:=Nat.mul_le_mul_left (2 ^ k) z
  rw [Nat.mul_add] at this
  omega
theorem bits3 (x:Nat) (f:x<2 ^ 256) (h:wd x 3≠0):aq x=192+aq (wd x 3):=by
 have e:=v4_wd x f
 have:=nbits_top (wd x 3) (wd x 0+18446744073709551616 * (wd x 1+18446744073709551616 * wd x 2)) 192 (by
  have E:=aO x 0
  have D:=aO x 1
  have z:=aO x 2
  rw [show (2:Nat) ^ 192=6277101735386680763835789423207666416102355444464034512896 by decide]
  omega) (by omega)
 rw [← this]
 conv=>lhs; rw [← e]
 unfold v4
 rw [show (2:Nat) ^ 192=6277101735386680763835789423207666416102355444464034512896 by decide]
 congr 1
 omega
theorem bits2 (x:Nat) (f:x<2 ^ 256) (z:wd x 3=0) (h:wd x 2≠0):aq x=128+aq (wd x 2):=by
 have e:=v4_wd x f
 have:=nbits_top (wd x 2) (wd x 0+18446744073709551616 * wd x 1) 128 (by
  have E:=aO x 0
  have D:=aO x 1
  rw [show (2:Nat) ^ 128=340282366920938463463374607431768211456 by decide]
  omega) (by omega)
 rw [← this]
 conv=>lhs; rw [← e]
 unfold v4
 rw [z,show (2:Nat) ^ 128=340282366920938463463374607431768211456 by decide]
 congr 1
 omega
theorem bits1 (x:Nat) (f:x<2 ^ 256) (z:wd x 3=0) (D:wd x 2=0) (h:wd x 1≠0):aq x=64+aq (wd x 1):=by
 have e:=v4_wd x f
 have:=nbits_top (wd x 1) (wd x 0) 64 (aO x 0) (by omega)
 rw [← this]
 conv=>lhs; rw [← e]
 unfold v4
 rw [z,D]
 congr 1
theorem bits0 (x:Nat) (f:x<2 ^ 256) (z:wd x 3=0) (D:wd x 2=0) (E:wd x 1=0):x=wd x 0:=by
 have e:=v4_wd x f
 unfold v4 at e
 rw [z,D,E] at e
 omega
theorem bits_at3 (x:Nat) (w:World) (f:x<2 ^ 256)  (h:wd x 3≠0):Calls Tryz.prog 12 #[af x] w fun e w'=>e=.returned (.int .i64 (aq x:Int))∧Below w.heap.size w w':=by
 have E:Hid (aq x=192+aq (wd x 3)):=hid (bits3 x f  h)
 have L:=hid (aO x 3)
 have hb:=cK _ 64 L.out
 have n3:((wd x 3:Int) != 0)=true:=by simpa using h
 clear f h
 go_enter Tryz.func12,Tryz.ntmps12
 go_wp2
 refine wp_loop_rounds 5 ?_
 rw [rounds_succ]
 go_wp2_with (go_at_call 35; refine (len_any _ _ L.out).mono ?_; rintro e w' ⟨rfl,rfl⟩)
 go_ret
 exact ⟨by rw [E.out]; simp,bal (Below.refl _ _) _⟩
theorem bits_at2 (x:Nat) (w:World) (z:x<2 ^ 256) (f:wd x 3=0) (h:wd x 2≠0):Calls Tryz.prog 12 #[af x] w fun e w'=>e=.returned (.int .i64 (aq x:Int))∧Below w.heap.size w w':=by
 have E:Hid (aq x=128+aq (wd x 2)):=hid (bits2 x z f h)
 have L:=hid (aO x 2)
 have hb:=cK _ 64 L.out
 have n2:((wd x 2:Int) != 0)=true:=by simpa using h
 have z3:((wd x 3:Int) != 0)=false:=by simp [f]
 clear z h f
 go_enter Tryz.func12,Tryz.ntmps12
 go_wp2
 refine wp_loop_rounds 5 ?_
 rw [rounds_succ]
 go_wp2
 rw [rounds_succ]
 go_wp2_with (go_at_call 35; refine (len_any _ _ L.out).mono ?_; rintro e w' ⟨rfl,rfl⟩)
 go_ret
 exact ⟨by rw [E.out]; simp,bal (Below.refl _ _) _⟩
theorem bits_at1 (x:Nat) (w:World) (D:x<2 ^ 256) (f:wd x 3=0) (z:wd x 2=0) (h:wd x 1≠0):Calls Tryz.prog 12 #[af x] w fun e w'=>e=.returned (.int .i64 (aq x:Int))∧Below w.heap.size w w':=by
 have E:Hid (aq x=64+aq (wd x 1)):=hid (bits1 x D f z h)
 have L:=hid (aO x 1)
 have hb:=cK _ 64 L.out
 have n1:((wd x 1:Int) != 0)=true:=by simpa using h
 have z3:((wd x 3:Int) != 0)=false:=by simp [f]
 have F:((wd x 2:Int) != 0)=false:=by simp [z]
 clear D h f z
 go_enter Tryz.func12,Tryz.ntmps12
 go_wp2
 refine wp_loop_rounds 5 ?_
 rw [rounds_succ]
 go_wp2
 rw [rounds_succ]
 go_wp2
 rw [rounds_succ]
 go_wp2_with (go_at_call 35; refine (len_any _ _ L.out).mono ?_; rintro e w' ⟨rfl,rfl⟩)
 go_ret
 exact ⟨by rw [E.out]; simp,bal (Below.refl _ _) _⟩
theorem bits_at0 (x:Nat) (w:World) (F:x<2 ^ 256) (f:wd x 3=0) (z:wd x 2=0) (D:wd x 1=0) (h:wd x 0≠0):Calls Tryz.prog 12 #[af x] w fun e w'=>e=.returned (.int .i64 (aq x:Int))∧Below w.heap.size w w':=by
 have E:Hid (aq x=0+aq (wd x 0)):=hid (by have e:=bits0 x F f z D; rw [← e]; omega)
 have L:=hid (aO x 0)
 have hb:=cK _ 64 L.out
 have J:((wd x 0:Int) != 0)=true:=by simpa using h
 have z3:((wd x 3:Int) != 0)=false:=by simp [f]
 have G:((wd x 2:Int) != 0)=false:=by simp [z]
 have I:((wd x 1:Int) != 0)=false:=by simp [D]
 clear F h f z D
 go_enter Tryz.func12,Tryz.ntmps12
 go_wp2
 refine wp_loop_rounds 5 ?_
 rw [rounds_succ]
 go_wp2
 rw [rounds_succ]
 go_wp2
 rw [rounds_succ]
 go_wp2
 rw [rounds_succ]
 go_wp2_with (go_at_call 35; refine (len_any _ _ L.out).mono ?_; rintro e w' ⟨rfl,rfl⟩)
 go_ret
 exact ⟨by rw [E.out]; simp,bal (Below.refl _ _) _⟩
theorem bits_none (w:World):Calls Tryz.prog 12 #[af 0] w fun e w'=>e=.returned (.int .i64 0)∧Below w.heap.size w w':=by
 have D:((wd 0 0:Int) != 0)=false:=by decide
 have z:((wd 0 1:Int) != 0)=false:=by decide
 have f:((wd 0 2:Int) != 0)=false:=by decide
 have z3:((wd 0 3:Int) != 0)=false:=by decide
 go_enter Tryz.func12,Tryz.ntmps12
 go_wp2
 refine wp_loop_rounds 5 ?_
 rw [rounds_succ]
 go_wp2
 rw [rounds_succ]
 go_wp2
 rw [rounds_succ]
 go_wp2
 rw [rounds_succ]
 go_wp2
 rw [rounds_succ]
 go_wp2
 go_ret
 exact ⟨rfl,bal (Below.refl _ _) _⟩
theorem bits_any (x:Nat) (w:World) (f:x<2 ^ 256):Calls Tryz.prog 12 #[af x] w fun e w'=>e=.returned (.int .i64 (aq x:Int))∧Below w.heap.size w w':=by
 by_cases z:wd x 3=0
 ·by_cases D:wd x 2=0
  ·by_cases E:wd x 1=0
   ·by_cases F:wd x 0=0
    ·have e:=bits0 x f z D E
     rw [F] at e
     subst e
     exact bits_none w
    ·exact bits_at0 x w f z D E F
   ·exact bits_at1 x w f z D E
  ·exact bits_at2 x w f z D
 ·exact bits_at3 x w f z
end Go.Proofs.YtmapkbdjnnionaaGreatDoor

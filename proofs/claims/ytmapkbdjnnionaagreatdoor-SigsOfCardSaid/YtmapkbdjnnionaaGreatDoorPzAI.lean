import Derived.Test.YtmapkbdjnnionaaGreatDoorPzAB
import Derived.WalkLawsBesides
import Derived.WalkSpells
set_option maxRecDepth 100000
set_option maxHeartbeats 8000000
set_option linter.all false
namespace Go.Proofs.YtmapkbdjnnionaaGreatDoor
section
open Go.RowKit
def mx (x y z:Nat):Nat→Nat
 | 0=>0
 | 1=>x
 | 2=>x ^^^ y
 | _=>(x ^^^ y) ^^^ z
def nth3 (x y z:Nat):Nat→Nat
 | 0=>x
 | 1=>y
 | _=>z
def Tri (w:World) (g x y z:Nat):Prop:=w.cell? ⟨g,0,none⟩=some (.int .u32 (x:Int))∧w.cell? ⟨g,1,none⟩=some (.int .u32 (y:Int))∧w.cell? ⟨g,2,none⟩=some (.int .u32 (z:Int))
theorem Tri.at {w:World} {g x y z:Nat} (h:Tri w g x y z) (k:Nat) (f:k<3):w.cell? ⟨g,k,none⟩=some (.int .u32 (nth3 x y z k:Int)):=by
 match k,f with
 | 0,_=>exact h.1
 | 1,_=>exact h.2.1
 | 2,_=>exact h.2.2
theorem mx_step (x y z k:Nat) (F:k<3) (f:x<4294967296) (D:y<4294967296) (E:z<4294967296):bits .xor .u32 (mx x y z k:Int) (nth3 x y z k:Int)=((mx x y z (k+1):Nat):Int):=by
 match k,F with
 | 0,_=>rw [mx,nth3,mx,u32_xor_nat _ _ (by decide) f,Nat.zero_xor]
 | 1,_=>rw [mx,nth3,mx,u32_xor_nat _ _ f D]
 | 2,_=>rw [mx,nth3,mx,u32_xor_nat _ _ (xor_lt f D) E] <;> simp
theorem mix_any (g x y z:Nat) (w:World) (h:Tri w g x y z) (I:x<4294967296) (G:y<4294967296) (F:z<4294967296) :
  Calls Tryz.prog 129 #[.slice (some ⟨g,0,none⟩) 3 3] w fun e w'=>e=.returned (.int .u32 ((x ^^^ y) ^^^ z:Nat))∧w=w':=by
 have M:=hid h
 have L:=hid I
 have K:=hid G
 have J:=hid F
 clear h I G F
 go_enter Tryz.func129,Tryz.ntmps129
 go_wp2
 go_loop [3,8] (fun n i=>∃ k:Nat,k≤3∧i=.int .i64 k∧n=.int .u32 (mx x y z k:Int)) (fun _ i=>3 - (intOf i).toNat)
 case atStart=>exact ⟨0,Nat.zero_le _,rfl,rfl⟩
 case round =>
  obtain ⟨k,O,rfl,rfl⟩:=hrel
  by_cases f:k<3
  ·have D:=M.out.at k f
   have E:=hid (mx_step x y z k f L.out K.out J.out)
   generalize nth3 x y z k=v at D E
   generalize mx x y z k=t at E
   go_wp2
   go_round
   case rel=>exact ⟨k+1,by omega,by go_num,by rw [E.out]⟩
   case measure=>simp [intOf]; omega
  ·obtain rfl:k=3:=by omega
   rw [mx]
   go_wp2
   go_ret
   exact ⟨rfl,rfl⟩
theorem splice_head (m:Nat) (bs:List UInt8):splice (au (List.replicate (bs.length+m) 0)) 0 (au bs)=au (bs ++ List.replicate m 0):=by
 simp [splice,au,List.drop_replicate]
theorem longer_any (A:Option Addr) (c m:Nat) (bs:List UInt8) (w:World) (G:Rd w A bs) (I:bs.length+m≤281474976710656) :
  Calls Tryz.prog 81 #[.slice A bs.length c,.int .i64 (m:Int)] w fun e w'=>e=.returned (.slice (some ⟨w.heap.size,0,none⟩) (bs.length+m) (bs.length+m))∧
   Row w' w.heap.size (bs ++ List.replicate m 0)∧Below w.heap.size w w':=by
 have f:=run_make_bytes w (bs.length+m) I
 rw [Int.natCast_add] at f
 have O:=hid (heap_alloc_new w (.cells (au (List.replicate (bs.length+m) 0)).toArray 5))
 have F:=hid ((Below.refl w.heap.size w).alloc (Nat.le_refl _) (.cells (au (List.replicate (bs.length+m) 0)).toArray 5))
 have M:Hid ((au bs).length=Nat.min bs.length (bs.length+m)):=by rw [aX]; exact hid (Nat.min_eq_left (Nat.le_add_right _ _)).symm
 have L:Hid (0<(au bs).length→some (⟨w.heap.size,0,none⟩:Addr)=some ⟨w.heap.size,0,none⟩∧∃ E,A=some E∧∀ j v,(au bs)[j]?=some v→(w.alloc (.cells (au (List.replicate (bs.length+m) 0)).toArray 5)).cell? (E.add j)=some v) :=
  hid fun D=>⟨rfl,(G.below F.out (Nat.le_refl _)).cells (by rw [aX] at D; exact D)⟩
 have R:Hid (0+(au bs).length≤(au (List.replicate (bs.length+m) 0)).length):=hid (by simp [aX])
 have J:=hid (splice_head m bs)
 go_enter Tryz.func81,Tryz.ntmps81
 go_wp2_with (with_reducible refine wpList_copy_splice rfl (.tmp 11) (.tmp 12) 66 66 rfl 5 Tryz.underlying66 u8_size _ _ _ _ _ _ rfl rfl w.heap.size 0 (au (List.replicate (bs.length+m) 0)) 5 O.out (au bs) M.out L.out R.out (bvs_one bs) w.heap.size w F.out (Nat.le_refl _) ?_; intro w1 K z)
 go_ret
 refine ⟨rfl,?_,z⟩
 have:=K.out
 rw [J.out] at this
 exact this
def eqStep (a b:List UInt8) (i:Nat) (_s:Option Bool×Unit):Sem (ForInStep (Option Bool×Unit)):=do
 let x ← Go.part 5 (au a).toArray (i * 1)
 let y ← Go.part 5 (au b).toArray (i * 1)
 let r ← Op.equalIn 9999 5 x y
 if (!r)=true then pure (ForInStep.done (some false,())) else pure (ForInStep.yield (none,()))
theorem told_any (A:Option Addr) (c:Nat) (bs:List UInt8) (w:World) (G:Rd w A bs) (I:bs.length≤8) :
  Calls Tryz.prog 106 #[.slice A bs.length c] w fun e w'=>e=.returned (.int .u64 (aF bs:Int))∧w=w':=by
 go_enter Tryz.func106,Tryz.ntmps106
 go_wp2
 go_loop [3,8] (fun n i=>∃ k:Nat,k≤bs.length∧i=.int .i64 k∧n=.int .u64 (aF (bs.take k):Int)) (fun _ i=>bs.length - (intOf i).toNat)
 case atStart=>exact ⟨0,Nat.zero_le _,rfl,rfl⟩
 case round =>
  obtain ⟨k,J,rfl,rfl⟩:=hrel
  by_cases f:k<bs.length
  ·obtain ⟨g,o,rfl,K,hc⟩:=G (by omega)
   have z:=hc k f
   clear hc
   have D:=hid (tell_take_succ bs k f)
   have F:=hid (bs[k].toNat_lt)
   have E:=hid (Nat.lt_of_lt_of_le (tell_lt (bs.take k)) (pow256_le (k:=(bs.take k).length) (by rw [List.length_take]; omega)))
   generalize bs[k].toNat=x at z D F
   generalize aF (bs.take k)=t at D E
   go_wp2
   go_round
   case rel=>exact ⟨k+1,by omega,by go_num,by rw [D.out,or_byte t x E.out F.out]⟩
   case measure=>simp [intOf]; omega
  ·obtain rfl:k=bs.length:=by omega
   rw [List.take_length]
   go_wp2
   go_ret
   exact ⟨rfl,rfl⟩
end
end Go.Proofs.YtmapkbdjnnionaaGreatDoor

import Derived.Test.YtmapkbdjnnionaaGreatDoorPzAM
import Derived.Test.YtmapkbdjnnionaaGreatDoorPzBR
set_option maxRecDepth 100000
set_option maxHeartbeats 8000000
set_option linter.all false
namespace Go.Proofs.YtmapkbdjnnionaaGreatDoor
open Go.RowKit Go.ChangeShapes Go.WideShapes Go.ChangeAt
theorem cells_sig:Tryz.prog.cellsOf 30=8:=by kernel_rfl
theorem cells_giv:Tryz.prog.cellsOf 32=60:=by kernel_rfl
theorem cells_num7:Tryz.prog.cellsOf 24=4:=by kernel_rfl
theorem cells_grp7:Tryz.prog.cellsOf 26=12:=by kernel_rfl
theorem part_at {l z:List Value} {o n:Nat} (h:(l.drop o).take n=z):∀ j v,z[j]?=some v→l[o+j]?=some v:=by
 intro j v f
 rw [← h,List.getElem?_take] at f
 split at f
 ·rw [List.getElem?_drop] at f; exact f
 ·cases f
theorem four_of {l:List Value} (h:l.length=4):∃ a b c d,l = [a,b,c,d]:=by
 match l,h with
 | [a,b,c,d],_=>exact ⟨a,b,c,d,rfl⟩
theorem eight_of {l:List Value} (h:l.length=8):∃ a b c d e f g i,l = [a,b,c,d,e,f,g,i]:=by
 match l,h with
 | [a,b,c,d,e,f,g,i],_=>exact ⟨a,b,c,d,e,f,g,i,rfl⟩
theorem twelve_of {l:List Value} (h:l.length=12):∃ a b c d e f g i j k m n,l = [a,b,c,d,e,f,g,i,j,k,m,n]:=by
 match l,h with
 | [a,b,c,d,e,f,g,i,j,k,m,n],_=>exact ⟨a,b,c,d,e,f,g,i,j,k,m,n,rfl⟩
section
variable {H:Type} {enc:TypeId×Value→H} {W:World} {base:Nat} {spare:Nat→Bool} {held:Bool} {r:Reach} {b0:Nat} {v:Value} {d:DataW H} {p:List MemPlace}
theorem num_list {m:Nat} {l:List Value} {y:DataW H×List MemPlace} (h:DataW.trod enc Tryz.prog W base spare held m 24 l=some y):∃ x:Nat,l=(ai x).toList∧x<2 ^ 256:=by
 obtain ⟨_,_,_,_,f,_⟩:=DataW.trod_array Tryz.underlying24 h
 rw [cells_num7] at f
 obtain ⟨a,b,c,e,rfl⟩:=four_of f
 obtain ⟨x,⟨rfl,rfl,rfl,rfl⟩,z⟩:=num_cells h
 exact ⟨x,rfl,z⟩
theorem grp_list {m:Nat} {l:List Value} {y:DataW H×List MemPlace} (h:DataW.trod enc Tryz.prog W base spare held m 26 l=some y):∃ p q g:Nat,l=(aY p q g).toList∧p<2 ^ 256∧q<2 ^ 256∧g<2 ^ 256:=by
 obtain ⟨_,_,_,_,f,_⟩:=DataW.trod_struct Tryz.underlying26 h
 rw [cells_grp7] at f
 obtain ⟨O,M,L,a3,a4,a5,K,J,I,a9,G,F,rfl⟩:=twelve_of f
 obtain ⟨p,q,g,⟨rfl,rfl,rfl,rfl,rfl,rfl,rfl,rfl,rfl,rfl,rfl,rfl⟩,E,D,z⟩:=group_cells h
 exact ⟨p,q,g,rfl,E,D,z⟩
theorem sig_list {m:Nat} {l:List Value} {y:DataW H×List MemPlace} (h:DataW.trod enc Tryz.prog W base spare held m 30 l=some y):∃ c t:Nat,l=(dl c t).toList∧c<2 ^ 256∧t<2 ^ 256:=by
 obtain ⟨J,n,_,_,f,I,hf⟩:=DataW.trod_struct Tryz.underlying30 h
 rw [cells_sig] at f
 obtain ⟨R,O,M,a3,a4,a5,L,K,rfl⟩:=eight_of f
 have D:=hf 0 _ rfl
 have z:=hf 1 _ rfl
 rw [List.getElem?_eq_getElem (by rw [I]; decide)] at D z
 obtain ⟨c,F,hc⟩:=num_list D
 obtain ⟨t,E,G⟩:=num_list z
 simp [cells_num7] at F E
 obtain ⟨rfl,rfl,rfl,rfl⟩:=F
 obtain ⟨rfl,rfl,rfl,rfl⟩:=E
 exact ⟨c,t,rfl,hc,G⟩
theorem open_given (O:Value.okWide Tryz.prog W r b0 32 v) (h:DataW.Trod enc Tryz.prog W base spare held 32 v d p):∃ (Z:Array Value) (p q g x:Nat) (bs:List UInt8) (k c t:Nat),v=.agg Z∧Giv Z p q g x bs k c t:=by
 obtain ⟨E,rfl,hs⟩:=okWide_struct Tryz.underlying32 O
 obtain ⟨L,D⟩:=h
 obtain ⟨xs,n,_,_,hl,Y,hf⟩:=DataW.trod_struct Tryz.underlying32 D
 have K:=hf 0 _ rfl
 have J:=hf 1 _ rfl
 have I:=hf 2 _ rfl
 have G:=hf 3 _ rfl
 have F:=hf 4 _ rfl
 rw [List.getElem?_eq_getElem (by rw [Y]; decide)] at K J I G F
 obtain ⟨p,q,g,e0,V,U,hg⟩:=grp_list K
 obtain ⟨x,e1,M⟩:=num_list J
 obtain ⟨bs,e2,hb⟩:=sum_list I
 obtain ⟨k,e3,hk⟩:=num_list G
 obtain ⟨c,t,e4,hc,R⟩:=sig_list F
 have z:∀ (i:Nat),E[i]?=(Value.agg E).cells.toList[i]?:=fun i=>by simp [Value.cells]
 exact ⟨E,p,q,g,x,bs,k,c,t,rfl,fun j v f=>(z _).trans (part_at e0 j v f),fun j v f=>(z _).trans (part_at e1 j v f),fun j v f=>(z _).trans (part_at e2 j v f),fun j v f=>(z _).trans (part_at e3 j v f),fun j v f=>(z _).trans (part_at e4 j v f),hb,V,U,hg,M,hk,hc,R⟩
end
end Go.Proofs.YtmapkbdjnnionaaGreatDoor

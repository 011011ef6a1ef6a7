import Derived.Test.YtmapkbdjnnionaaGreatDoorPzAD
import Derived.Lib.SmallJoins
set_option maxRecDepth 100000
set_option maxHeartbeats 8000000
set_option linter.all false
namespace Go.Proofs.YtmapkbdjnnionaaGreatDoor
open Go.RowKit Go.ChangeShapes Go.WideShapes Go.ChangeAt
theorem okWide_struct {P:Program} {W:World} {r:Reach} {b0:Nat} {t:TypeId} {F:Array Field} {v:Value} (z:P.underlying t=some (.struct F)) (h:Value.okWide P W r b0 t v):∃ f:Array Value,v=.agg f∧f.size=P.cellsOf t:=by
 simp only [Value.okWide,z] at h
 obtain ⟨f,E,D,_⟩:=h
 exact ⟨f,E,D⟩
theorem cells_group:Tryz.prog.cellsOf 26=12:=by kernel_rfl
section
variable {H:Type} {enc:TypeId×Value→H} {W:World} {base:Nat} {spare:Nat→Bool} {held:Bool} {r:Reach} {b0:Nat} {v:Value} {d:DataW H} {p:List MemPlace}
theorem num_cells {m:Nat} {O M L K:Value} {y:DataW H×List MemPlace} (h:DataW.trod enc Tryz.prog W base spare held m 24 [O,M,L,K]=some y):∃ x:Nat,(O=.int .u64 (wd x 0:Int)∧M=.int .u64 (wd x 1:Int)∧L=.int .u64 (wd x 2:Int)∧K=.int .u64 (wd x 3:Int))∧x<2 ^ 256:=by
 obtain ⟨z0,z1,z2,z3,k,_,q0,q1,U,R⟩:=trod_array4 Tryz.underlying24 lcells_u64 h
 obtain ⟨V,J,E⟩:=lword_at q0
 obtain ⟨n1,I,D⟩:=lword_at q1
 obtain ⟨n2,G,z⟩:=lword_at U
 obtain ⟨n3,F,f⟩:=lword_at R
 simp at J I G F
 obtain ⟨e0,e1,Z,Y⟩:=wd_v4 E D z f
 refine ⟨v4 V n1 n2 n3,?_,v4_lt E D z f⟩
 rw [e0,e1,Z,Y]
 exact ⟨J,I,G,F⟩
theorem group_cells {m:Nat} {Y V U R O M L K J I D f:Value} {y:DataW H×List MemPlace} (h:DataW.trod enc Tryz.prog W base spare held m 26 [Y,V,U,R,O,M,L,K,J,I,D,f]=some y) :
  ∃ x y z:Nat,(Y=.int .u64 (wd x 0:Int)∧V=.int .u64 (wd x 1:Int)∧U=.int .u64 (wd x 2:Int)∧R=.int .u64 (wd x 3:Int)∧O=.int .u64 (wd y 0:Int)∧M=.int .u64 (wd y 1:Int)∧L=.int .u64 (wd y 2:Int)∧K=.int .u64 (wd y 3:Int)∧J=.int .u64 (wd z 0:Int)∧I=.int .u64 (wd z 1:Int)∧D=.int .u64 (wd z 2:Int)∧f=.int .u64 (wd z 3:Int))∧x<2 ^ 256∧y<2 ^ 256∧z<2 ^ 256:=by
 obtain ⟨y0,y1,y2,n,_,_,G,F,E⟩:=Go.Deep.trod_struct3 Tryz.underlying26 h
 simp [lcells_num] at G F E
 obtain ⟨x,hx,bx⟩:=num_cells G
 obtain ⟨y,hy,bY⟩:=num_cells F
 obtain ⟨z,Z,bz⟩:=num_cells E
 obtain ⟨rfl,rfl,rfl,rfl⟩:=hx
 obtain ⟨rfl,rfl,rfl,rfl⟩:=hy
 obtain ⟨rfl,rfl,rfl,rfl⟩:=Z
 exact ⟨x,y,z,⟨rfl,rfl,rfl,rfl,rfl,rfl,rfl,rfl,rfl,rfl,rfl,rfl⟩,bx,bY,bz⟩
theorem open_group (hv:Value.okWide Tryz.prog W r b0 26 v) (h:DataW.Trod enc Tryz.prog W base spare held 26 v d p):∃ x y z:Nat,v=.agg #[.int .u64 (wd x 0:Int),.int .u64 (wd x 1:Int),.int .u64 (wd x 2:Int),.int .u64 (wd x 3:Int),.int .u64 (wd y 0:Int),.int .u64 (wd y 1:Int),.int .u64 (wd y 2:Int),.int .u64 (wd y 3:Int),.int .u64 (wd z 0:Int),.int .u64 (wd z 1:Int),.int .u64 (wd z 2:Int),.int .u64 (wd z 3:Int)]∧x<2 ^ 256∧y<2 ^ 256∧z<2 ^ 256:=by
 obtain ⟨Y,rfl,U⟩:=okWide_struct Tryz.underlying26 hv
 rw [cells_group] at U
 obtain ⟨V,hf⟩:=h
 obtain ⟨R,O,M,L,K,J,I,G,F,E,D,f,rfl⟩:∃ R O M L K J I G F E D f,Y=#[R,O,M,L,K,J,I,G,F,E,D,f]:=by
  match Y,U with
  | ⟨[R,O,M,L,K,J,I,G,F,E,D,f]⟩,_=>exact ⟨R,O,M,L,K,J,I,G,F,E,D,f,rfl⟩
 obtain ⟨x,y,z,Z,bx,bY,bz⟩:=group_cells (by simpa [Value.cells] using hf)
 obtain ⟨rfl,rfl,rfl,rfl,rfl,rfl,rfl,rfl,rfl,rfl,rfl,rfl⟩:=Z
 exact ⟨x,y,z,rfl,bx,bY,bz⟩
end
end Go.Proofs.YtmapkbdjnnionaaGreatDoor

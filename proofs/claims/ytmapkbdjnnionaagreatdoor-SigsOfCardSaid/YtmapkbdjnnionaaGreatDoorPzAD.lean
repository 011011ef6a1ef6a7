import Derived.Test.YtmapkbdjnnionaaGreatDoorPzAC
import Derived.ProofKit
import Derived.OpenShut
import Derived.ShutString
set_option maxRecDepth 100000
set_option maxHeartbeats 8000000
set_option linter.all false
namespace Go.Proofs.YtmapkbdjnnionaaGreatDoor
open Go.RowKit Go.ChangeShapes Go.WideShapes Go.ChangeAt
theorem lown:ownKnob Tryz.prog.godebug=none:=by kernel_rfl
theorem llaidOut:laidOutB Tryz.prog=true:=by kernel_rfl
theorem okWide_array {P:Program} {W:World} {r:Reach} {b0:Nat} {t e:TypeId} {n:Nat} {v:Value} (z:P.underlying t=some (.array n e)) (h:Value.okWide P W r b0 t v):∃ f:Array Value,v=.agg f∧f.size=P.cellsOf t:=by
 simp only [Value.okWide,z] at h
 obtain ⟨f,E,D,_⟩:=h
 exact ⟨f,E,D⟩
theorem lcells_num:Tryz.prog.cellsOf 24=4:=by kernel_rfl
theorem lcells_u64:Tryz.prog.cellsOf 22=1:=by kernel_rfl
section
variable {H:Type} {enc:TypeId×Value→H} {W:World} {base:Nat} {spare:Nat→Bool} {held:Bool} {r:Reach} {b0:Nat} {v:Value} {d:DataW H} {p:List MemPlace}
theorem lword_at {m:Nat} {f:List Value} {y:DataW H×List MemPlace} (h:DataW.trod enc Tryz.prog W base spare held m 22 f=some y):∃ n:Nat,f = [.int .u64 (n:Int)]∧n<18446744073709551616:=by
 obtain ⟨z,rfl,_,D⟩:=DataW.trod_int Tryz.underlying22 h
 have hb:0≤z∧z≤18446744073709551615:=by simpa [Lit.wf,IntKind.min,IntKind.max,IntKind.signed,IntKind.bits] using D
 obtain ⟨n,rfl⟩:=Int.eq_ofNat_of_zero_le hb.1
 exact ⟨n,rfl,by omega⟩
theorem lopen_num (hv:Value.okWide Tryz.prog W r b0 24 v) (h:DataW.Trod enc Tryz.prog W base spare held 24 v d p):∃ x:Nat,v=af x∧x<2 ^ 256:=by
 obtain ⟨cs,rfl,G⟩:=okWide_array Tryz.underlying24 hv
 rw [lcells_num] at G
 obtain ⟨U,hf⟩:=h
 obtain ⟨xs,m,_,_,_,hl,f⟩:=DataW.trod_array Tryz.underlying24 hf
 obtain ⟨F,E,D,z,rfl⟩:∃ F E D z,cs=#[F,E,D,z]:=by
  match cs,G with
  | ⟨[F,E,D,z]⟩,_=>exact ⟨F,E,D,z,rfl⟩
 rw [lcells_u64] at f
 have R:=f 0 (by omega)
 have O:=f 1 (by omega)
 have M:=f 2 (by omega)
 have g3:=f 3 (by omega)
 rw [List.getElem?_eq_getElem (by omega)] at R O M g3
 obtain ⟨n0,e0,L⟩:=lword_at R
 obtain ⟨n1,Z,K⟩:=lword_at O
 obtain ⟨n2,Y,J⟩:=lword_at M
 obtain ⟨n3,V,I⟩:=lword_at g3
 simp [Value.cells] at e0 Z Y V
 subst e0; subst Z; subst Y; subst V
 exact ⟨v4 n0 n1 n2 n3,num_of L K J I,v4_lt L K J I⟩
end
end Go.Proofs.YtmapkbdjnnionaaGreatDoor

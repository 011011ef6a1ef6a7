import Derived.Test.YtmapkbdjnnionaaGreatDoorPzAE
import Derived.Test.YtmapkbdjnnionaaGreatDoorPzAL
set_option maxRecDepth 100000
set_option maxHeartbeats 8000000
set_option linter.all false
namespace Go.Proofs.YtmapkbdjnnionaaGreatDoor
open Go.RowKit Go.ChangeShapes Go.WideShapes Go.ChangeAt
theorem cells_sum:Tryz.prog.cellsOf 28=32:=by kernel_rfl
theorem cells_u8:Tryz.prog.cellsOf 5=1:=by kernel_rfl
theorem okWide_arr {P:Program} {W:World} {r:Reach} {b0:Nat} {t e:TypeId} {n:Nat} {v:Value} (z:P.underlying t=some (.array n e)) (h:Value.okWide P W r b0 t v):∃ f:Array Value,v=.agg f∧f.size=P.cellsOf t:=by
 simp only [Value.okWide,z] at h
 obtain ⟨f,E,D,_⟩:=h
 exact ⟨f,E,D⟩
theorem bytes_of:∀ (l:List Value),(∀ i,i<l.length→∃ b:UInt8,l[i]?=some (.int .u8 ((b.toNat:Nat):Int)))→∃ bs:List UInt8,l=au bs
 | [],_=>⟨[],rfl⟩
 | c :: l,h=>by
  obtain ⟨b,hb⟩:=h 0 (by simp)
  obtain ⟨bs,f⟩:=bytes_of l (fun i hi=>by have:=h (i+1) (by simpa using hi); simpa using this)
  refine ⟨b :: bs,?_⟩
  simp at hb
  simp [au,hb]
  simpa [au] using f
section
variable {H:Type} {enc:TypeId×Value→H} {W:World} {base:Nat} {spare:Nat→Bool} {held:Bool} {r:Reach} {b0:Nat} {v:Value} {d:DataW H} {p:List MemPlace}
theorem sum_list {m:Nat} {l:List Value} {y:DataW H×List MemPlace} (h:DataW.trod enc Tryz.prog W base spare held m 28 l=some y):∃ bs:List UInt8,l=au bs∧bs.length=32:=by
 obtain ⟨I,J,_,_,f,K,D⟩:=DataW.trod_array Tryz.underlying28 h
 rw [cells_sum] at f
 rw [cells_u8] at D
 obtain ⟨bs,rfl⟩:=bytes_of l (fun i hi=>by
  have g:=D i (by omega)
  rw [List.getElem?_eq_getElem (by omega)] at g
  obtain ⟨z,e,_,E⟩:=DataW.trod_int Tryz.underlying5 g
  have hb:0≤z∧z≤255:=by simpa [Lit.wf,IntKind.min,IntKind.max,IntKind.signed,IntKind.bits] using E
  obtain ⟨n,rfl⟩:=Int.eq_ofNat_of_zero_le hb.1
  refine ⟨UInt8.ofNat n,?_⟩
  have G:=congrArg (fun x:List Value=>x[0]?) e
  have F:l[i]?=some (.int .u8 (n:Int)):=by simpa using G
  rw [F,UInt8.toNat_ofNat',Nat.mod_eq_of_lt (by omega)])
 exact ⟨bs,rfl,by rw [← aX]; exact f⟩
theorem open_sum (z:Value.okWide Tryz.prog W r b0 28 v) (h:DataW.Trod enc Tryz.prog W base spare held 28 v d p):∃ bs:List UInt8,v=.agg (au bs).toArray∧bs.length=32:=by
 obtain ⟨E,rfl,F⟩:=okWide_arr Tryz.underlying28 z
 obtain ⟨f,hf⟩:=h
 obtain ⟨bs,hb,D⟩:=sum_list (l:=E.toList) (by simpa [Value.cells] using hf)
 exact ⟨bs,by rw [← hb],D⟩
end
end Go.Proofs.YtmapkbdjnnionaaGreatDoor

import Derived.Test.YtmapkbdjnnionaaGreatDoorPzAF
import Derived.Test.YtmapkbdjnnionaaGreatDoorPzAK
import Derived.Test.YtmapkbdjnnionaaGreatDoorCards
import Derived.Test.YtmapkbdjnnionaaGreatDoorTie
import Derived.Deep.DeepHandedRow
import Derived.Deep.Strs
import Derived.Lib.LaidTab
set_option maxRecDepth 100000
set_option maxHeartbeats 8000000
set_option linter.all false
namespace Go.Proofs.YtmapkbdjnnionaaGreatDoor
open Go.RowKit Go.ChangeShapes Go.WideShapes Go.ChangeAt
theorem own_knob:ownKnob Tryz.prog.godebug=none:=by kernel_rfl
theorem laidOut:laidOutB Tryz.prog=true:=by kernel_rfl
def litsOf:DataW Unit→Array Value
 | .agg parts=>(parts.filterMap fun | .lit (.int k n)=>some (.int k n) | _=>none).toArray
 | _=>#[]
def setRow (vs:Array Value):Obj→Obj
 | .cells _ t frozen=>.cells vs t frozen
 | o=>o
noncomputable def laidWorld (os:Os):World :=
 { World.holding Tryz.prog os ⟨#[],#[],[]⟩ with heap:=(World.holding Tryz.prog os ⟨#[],#[],[]⟩).heap.modify 2 (setRow (litsOf Rows.laid_burrow_shas_cubes)) }
theorem gT:Tryz.prog.globalNamed "burrow/shas.cubes" = some 2:=by kernel_rfl
theorem gTType:(Tryz.prog.globals[2]?).map (·.type)=some 139:=by kernel_rfl
theorem kt_of {W:World} (D:laidMetH Tryz.prog [("burrow/shas.cubes",Rows.laid_burrow_shas_cubes)] W):Kt W:=by
 have h:Lib.TabIs Tryz.prog W "burrow/shas.cubes" .u32 (kk.map fun n:Nat=>(n:Int)):=Lib.tabIs_of_head gT gTType Tryz.underlying139 Tryz.underlying70 (by kernel_rfl) (by kernel_rfl) D
 intro j z
 have f:kk.length=64:=kk_length
 rw [h.cell gT j (by simpa [f] using z)]
 congr 2
 simp [aZ,List.getD,f,z]
section
variable {H:Type} {enc:TypeId×Value→H} {W:World} {base:Nat} {spare:Nat→Bool} {held:Bool} {r:Reach} {b0:Nat} {v:Value} {d:DataW H} {p:List MemPlace}
end
end Go.Proofs.YtmapkbdjnnionaaGreatDoor

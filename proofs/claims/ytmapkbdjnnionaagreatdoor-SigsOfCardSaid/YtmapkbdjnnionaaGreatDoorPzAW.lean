import Derived.Test.YtmapkbdjnnionaaGreatDoorPzAL
import Derived.Deep.Matrix
set_option maxRecDepth 100000
set_option maxHeartbeats 8000000
set_option linter.all false
namespace Go.Proofs.YtmapkbdjnnionaaGreatDoor
open Go.RowKit Go.ChangeShapes Go.WideShapes Go.ChangeAt Go.Deep
def Rws (w:World) (a0:Option Addr) (n:Nat) (A:Nat→Option Addr) (L C:Nat→Nat) (xs:Nat→List UInt8):Prop :=
 ∀ r,r<n→(∃ g o,a0=some ⟨g,o,none⟩∧g<w.heap.size∧w.cell? ⟨g,o+r,none⟩=some (.slice (A r) (L r) (C r)))∧(xs r).length=L r∧Rd w (A r) (xs r)∧L r≤C r∧C r≤9223372036854775807∧(A r=none→C r=0)
section
variable {H:Type} {enc:TypeId×Value→H} {W:World} {base:Nat} {held:Bool} {d:DataW H} {p:List MemPlace}
end
end Go.Proofs.YtmapkbdjnnionaaGreatDoor

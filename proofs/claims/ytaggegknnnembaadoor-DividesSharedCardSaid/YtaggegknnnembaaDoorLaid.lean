/-
  What the rows of this seat share: a world whose table holds what its initialiser lays, and the table as the walks ask it. Conditions: none.
-/
import Derived.Test.YtaggegknnnembaaDoorRow3
import Derived.Test.YtaggegknnnembaaDoorTz
import Derived.Test.YtaggegknnnembaaDoorCards
import Derived.Test.YtaggegknnnembaaDoorTie
import Derived.Deep.DeepHandedRow
import Derived.Deep.Strs
import Derived.Laws.IdiomArrays
import Derived.Lib.LaidTab
namespace Go.Proofs.YtaggegknnnembaaDoor
open Go.RowKit Go.ChangeShapes Go.WideShapes Go.ChangeAt
set_option linter.unusedVariables false

def litsOf : DataW Unit → Array Value
  | .agg parts => (parts.filterMap fun | .lit (.int k n) => some (.int k n) | _ => none).toArray
  | _ => #[]
def setRow (vs : Array Value) : Obj → Obj
  | .cells _ t frozen => .cells vs t frozen
  | o => o
/-- the settled world, the table holding what is laid -/
noncomputable def laidWorld (os : Os) : World :=
  { World.holding Tryd.prog os ⟨#[], #[], []⟩ with heap := (World.holding Tryd.prog os ⟨#[], #[], []⟩).heap.modify 0 (setRow (litsOf Rows.laid_math_bits_deBruijn64tab)) }
theorem gT : Tryd.prog.globalNamed "math/bits.deBruijn64tab" = some 0 := by kernel_rfl
theorem gTType : (Tryd.prog.globals[0]?).map (·.type) = some 86 := by kernel_rfl
theorem tab_of {W : World} (hL : laidMetH Tryd.prog [("math/bits.deBruijn64tab", Rows.laid_math_bits_deBruijn64tab)] W) : Tab W := by
  have h : Lib.TabIs Tryd.prog W "math/bits.deBruijn64tab" .u8 (Lib.deBruijn64tab.map fun n : Nat => (n : Int)) := Lib.tabIs_of_head gT gTType Tryd.underlying86 Tryd.underlying5 (by kernel_rfl) (by kernel_rfl) hL
  intro j hj
  have hl : Lib.deBruijn64tab.length = 64 := by decide
  rw [h.cell gT j (by simpa [hl] using hj)]
  congr 2
  simp [List.getD, hl, hj]
end Go.Proofs.YtaggegknnnembaaDoor

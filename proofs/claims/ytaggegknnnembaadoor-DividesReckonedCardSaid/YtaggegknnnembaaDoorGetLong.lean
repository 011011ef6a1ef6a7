/-
  nums.GetLong, walked: refused, or the long number that the first 32 bytes tell. Condition: the slice's capacity is at most 2^47.
-/
import Derived.Test.YtaggegknnnembaaDoorTold
import Derived.Test.YtaggegknnnembaaDoorPutLong
namespace Go.Proofs.YtaggegknnnembaaDoor
open Go.RowKit
set_option linter.unusedVariables false

/-- the eight bytes of word j, the highest word ahead -/
def word (bs : List UInt8) (j : Nat) : Nat := tell ((bs.drop (8 * j)).take 8)

end Go.Proofs.YtaggegknnnembaaDoor

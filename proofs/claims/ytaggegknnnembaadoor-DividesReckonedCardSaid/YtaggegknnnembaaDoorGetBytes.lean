/-
  nums.GetBytes, walked: refused, or the bytes that stand behind their count, and how many that was. Condition: the slice's capacity is at most 2^47.
-/
import Derived.Test.YtaggegknnnembaaDoorPut
import Derived.Test.YtaggegknnnembaaDoorGet
namespace Go.Proofs.YtaggegknnnembaaDoor
open Go.RowKit
set_option linter.unusedVariables false

end Go.Proofs.YtaggegknnnembaaDoor

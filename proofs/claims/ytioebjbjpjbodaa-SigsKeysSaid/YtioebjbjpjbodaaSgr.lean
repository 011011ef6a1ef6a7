/-
  From groups, numbers, sums and signatures, as the reading gives them, to what the walks ask. Conditions: none.
-/
import Derived.Test.YtioebjbjpjbodaaRow6
namespace Go.Proofs.Ytioebjbjpjbodaa
open Go.RowKit Go.ChangeShapes Go.WideShapes Go.ChangeAt
set_option linter.unusedVariables false
set_option linter.unusedSimpArgs false

end Go.Proofs.Ytioebjbjpjbodaa

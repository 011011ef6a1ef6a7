/-
  nums.told, walked: it answers the number that the bytes tell. Condition: at most eight bytes.
-/
import Derived.Test.YtaggegknnnembaaDoorWords
import Derived.Outline
import Derived.WalkLawsBesides
import Derived.WalkSpells
namespace Go.Proofs.YtaggegknnnembaaDoor
open Go.RowKit

end Go.Proofs.YtaggegknnnembaaDoor

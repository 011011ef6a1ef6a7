/-
  The document's own answers (burrowref01), walked: behind, Row, Put. Conditions: sizes within 2^46.
-/
import Derived.Test.YtbloejlebikecaaDoorAppend
import Derived.Outline
import Derived.WalkLawsBesides
import Derived.WalkSpells
namespace Go.Proofs.YtbloejlebikecaaDoor
open Go.RowKit
set_option linter.unusedVariables false

/-- it returns a slice of its own that holds these bytes, and nothing that was there has changed -/
def OutO (w : World) (bs : List UInt8) (e : Ending) (w' : World) : Prop := ∃ v, e = .returned v ∧ Ow w' w.heap.size v bs ∧ Below w.heap.size w w'

theorem Row.one (w : World) (b : UInt8) : Row (w.alloc (.cells #[.int .u8 ((b.toNat : Nat) : Int)] 5)) w.heap.size [b] := heap_alloc_new w _

end Go.Proofs.YtbloejlebikecaaDoor

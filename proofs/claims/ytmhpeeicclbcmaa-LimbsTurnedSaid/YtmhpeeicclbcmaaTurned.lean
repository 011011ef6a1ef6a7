/-
  burrowlaw02.LimbsTurned, walked: it answers true at any long number. Conditions: none.
-/
import Derived.Test.YtmhpeeicclbcmaaTurnedZ
import Derived.Test.YtmhpeeicclbcmaaTurnedM
namespace Go.Proofs.Ytmhpeeicclbcmaa
open Go.RowKit
set_option linter.unusedVariables false

theorem turnedLaw_any (a : Nat) (w : World) (ha : a < 2 ^ 256) : Calls Try.prog 4 #[num a] w fun e w' => e = .returned (.bool true) ∧ Below w.heap.size w w' := by
  by_cases h : a = 0
  · subst h; exact turned_zero w
  · exact turned_more a w ha h
end Go.Proofs.Ytmhpeeicclbcmaa

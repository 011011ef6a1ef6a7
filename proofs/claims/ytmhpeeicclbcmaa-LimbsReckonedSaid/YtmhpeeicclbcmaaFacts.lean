/-
  Numbers that the laws of limbs turn on: no program stands here. Conditions: none.
-/
import Derived.Test.YtmhpeeicclbcmaaShf
namespace Go.Proofs.Ytmhpeeicclbcmaa
open Go.RowKit
set_option linter.unusedVariables false

theorem dif_mod {x y : Nat} (hx : x < 2 ^ 256) (hy : y < 2 ^ 256) : dif x y = (x + (2 ^ 256 - y)) % 2 ^ 256 := by
  unfold dif
  rw [p256] at *
  split <;> omega
theorem dif_self (x : Nat) : dif x x = 0 := by unfold dif; simp
theorem lent_self (x : Nat) : lent x x = 0 := by unfold lent; simp
end Go.Proofs.Ytmhpeeicclbcmaa

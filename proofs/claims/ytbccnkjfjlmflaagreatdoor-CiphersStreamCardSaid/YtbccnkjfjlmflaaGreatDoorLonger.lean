/-
  nums.longer, walked: the bytes in new memory, and noughts behind them. Condition: no more than 2^48 of them in all.
-/
import Derived.Test.YtbccnkjfjlmflaaGreatDoorWords
import Derived.Outline
import Derived.WalkLawsBesides
import Derived.WalkSpells
namespace Go.Proofs.YtbccnkjfjlmflaaGreatDoor
open Go.RowKit

theorem splice_head (m : Nat) (bs : List UInt8) : splice (bvs (List.replicate (bs.length + m) 0)) 0 (bvs bs) = bvs (bs ++ List.replicate m 0) := by
  simp [splice, bvs, List.drop_replicate]

end Go.Proofs.YtbccnkjfjlmflaaGreatDoor

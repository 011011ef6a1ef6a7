/-
  Plain facts on bytes and the numbers that they tell, with no program in it. Conditions: none.
-/
import Derived.IntWalk
import Derived.Laws.BitsAllLaws
namespace Go.Proofs.Ytioebjbjpjbodaa

/-- the number that bytes tell, the highest ahead -/
def tell (bs : List UInt8) : Nat := bs.foldl (fun a b => a * 256 + b.toNat) 0

/-- the last bytes of a number, the highest ahead -/
def be (n : Nat) : Nat → List UInt8
  | 0 => []
  | k + 1 => UInt8.ofNat (n / 256 ^ k) :: be n k

end Go.Proofs.Ytioebjbjpjbodaa

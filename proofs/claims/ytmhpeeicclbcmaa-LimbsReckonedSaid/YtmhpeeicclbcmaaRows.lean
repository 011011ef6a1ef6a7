/-
  No cell of these rows narrows 'for every input' (looked for: loops, veiled, ifaces, maps, wideKeys, modest, calm, conditions, laid).
  DERIVED. THE GIVEN ROWS OF THIS SEAT. 7 by the template 'for every input the law returns true; each argument reads behind the call as it read before'; 0 by the template 'total and deterministic' (their statements: YtmhpeeicclbcmaaTotals.lean).
  GIVEN WITH THE SEED: the statements are not yours to turn. If you find one false, say at which input.
  Laid BY PROGRAM, IN A SANDBOX (cutbox-rows.mjs): the forced cells as the released guide's own fill.sh prints them over the translation 5a8762d140619d10… (all of the seat's roots in one cut). By AI agents, Wed Nov 11 2026. No macro, syntax, notation, axiom, sorry.
-/
import Derived.Test.YtmhpeeicclbcmaaChecked
import GoSem.Claim
import GoSem.ClaimJoined
import GoSem.ClaimMapViews
import Derived.JoinedTies
import Derived.KernelRfl
namespace Go.Proofs.Ytmhpeeicclbcmaa
/- THE CELL 'sum', in the pinned program and in every row, IS THE sha256 OF THE DUMP (.gsa) THAT YtmhpeeicclbcmaaProg.lean LOADS. Nothing in Lean hashes anything: it is a label: what it is worth is what the hold of that sum in a sandbox is worth. -/
noncomputable def Try.pinned : Pinned := { name := "ytmhpeeicclbcmaa", sum := "5a8762d140619d1096869243af0edc2109636f6451c16de60b8e762d34b44ff8", checked := Try.checked }
namespace Rows
def none {H : Type} : Left H := { results := [], args := [] }

/-- 'burrowlaw02.LimbsReckoned': WHATEVER THE INPUT: true; the input reads as it did. -/
def limbsReckonedSpec : ChangeSpec := { name := "limbsReckoned", fn := fun _ => fun
  | [d1, d2, d3] => { results := [.lit (.bool true)], args := [d1, d2, d3] }
  | _ => none }
def limbsReckonedRow : OpenClaim := { program := "ytmhpeeicclbcmaa", sum := "5a8762d140619d1096869243af0edc2109636f6451c16de60b8e762d34b44ff8", func := "burrow/burrowlaw02.LimbsReckoned", spec := "limbsReckoned", inPlace := ["math/bits.Add64", "math/bits.Sub64"], apart := false }
def LimbsReckonedSaid : Prop := limbsReckonedRow.holds Try.pinned (OpenSpec.ofChange limbsReckonedSpec)

/-- ITS FALSE NEIGHBOUR: 'it returns false'. Refute it at one input. -/
def limbsReckonedWrong : ChangeSpec := { name := "limbsReckoned", fn := fun _ => fun
  | [d1, d2, d3] => { results := [.lit (.bool false)], args := [d1, d2, d3] }
  | _ => none }
def LimbsReckonedWrongFalsely : Prop := limbsReckonedRow.holds Try.pinned (OpenSpec.ofChange limbsReckonedWrong)

/-- 'burrowlaw02.LimbsTurned': WHATEVER THE INPUT: true; the input reads as it did. -/
def limbsTurnedSpec : ChangeSpec := { name := "limbsTurned", fn := fun _ => fun
  | [d] => { results := [.lit (.bool true)], args := [d] }
  | _ => none }
def limbsTurnedRow : OpenClaim := { program := "ytmhpeeicclbcmaa", sum := "5a8762d140619d1096869243af0edc2109636f6451c16de60b8e762d34b44ff8", func := "burrow/burrowlaw02.LimbsTurned", spec := "limbsTurned", inPlace := ["math/bits.Add64", "math/bits.Sub64"], apart := false }
def LimbsTurnedSaid : Prop := limbsTurnedRow.holds Try.pinned (OpenSpec.ofChange limbsTurnedSpec)

/-- ITS FALSE NEIGHBOUR: 'it returns false'. Refute it at one input. -/
def limbsTurnedWrong : ChangeSpec := { name := "limbsTurned", fn := fun _ => fun
  | [d] => { results := [.lit (.bool false)], args := [d] }
  | _ => none }
def LimbsTurnedWrongFalsely : Prop := limbsTurnedRow.holds Try.pinned (OpenSpec.ofChange limbsTurnedWrong)

/-- 'burrowlaw02.LimbsSteps': WHATEVER THE INPUT: true; the input reads as it did. -/
def limbsStepsSpec : ChangeSpec := { name := "limbsSteps", fn := fun _ => fun
  | [d1, d2] => { results := [.lit (.bool true)], args := [d1, d2] }
  | _ => none }
def limbsStepsRow : OpenClaim := { program := "ytmhpeeicclbcmaa", sum := "5a8762d140619d1096869243af0edc2109636f6451c16de60b8e762d34b44ff8", func := "burrow/burrowlaw02.LimbsSteps", spec := "limbsSteps", inPlace := ["math/bits.Add64", "math/bits.Sub64"], apart := false }
def LimbsStepsSaid : Prop := limbsStepsRow.holds Try.pinned (OpenSpec.ofChange limbsStepsSpec)

/-- ITS FALSE NEIGHBOUR: 'it returns false'. Refute it at one input. -/
def limbsStepsWrong : ChangeSpec := { name := "limbsSteps", fn := fun _ => fun
  | [d1, d2] => { results := [.lit (.bool false)], args := [d1, d2] }
  | _ => none }
def LimbsStepsWrongFalsely : Prop := limbsStepsRow.holds Try.pinned (OpenSpec.ofChange limbsStepsWrong)

/-- 'burrowlaw02.LimbsApart': WHATEVER THE INPUT: true; the input reads as it did. -/
def limbsApartSpec : ChangeSpec := { name := "limbsApart", fn := fun _ => fun
  | [d1, d2] => { results := [.lit (.bool true)], args := [d1, d2] }
  | _ => none }
def limbsApartRow : OpenClaim := { program := "ytmhpeeicclbcmaa", sum := "5a8762d140619d1096869243af0edc2109636f6451c16de60b8e762d34b44ff8", func := "burrow/burrowlaw02.LimbsApart", spec := "limbsApart", inPlace := ["math/bits.Sub64", "math/bits.Add64"], apart := false }
def LimbsApartSaid : Prop := limbsApartRow.holds Try.pinned (OpenSpec.ofChange limbsApartSpec)

/-- ITS FALSE NEIGHBOUR: 'it returns false'. Refute it at one input. -/
def limbsApartWrong : ChangeSpec := { name := "limbsApart", fn := fun _ => fun
  | [d1, d2] => { results := [.lit (.bool false)], args := [d1, d2] }
  | _ => none }
def LimbsApartWrongFalsely : Prop := limbsApartRow.holds Try.pinned (OpenSpec.ofChange limbsApartWrong)

/-- 'burrowlaw02.LimbsSquares': WHATEVER THE INPUT: true; the input reads as it did. -/
def limbsSquaresSpec : ChangeSpec := { name := "limbsSquares", fn := fun _ => fun
  | [d1, d2] => { results := [.lit (.bool true)], args := [d1, d2] }
  | _ => none }
def limbsSquaresRow : OpenClaim := { program := "ytmhpeeicclbcmaa", sum := "5a8762d140619d1096869243af0edc2109636f6451c16de60b8e762d34b44ff8", func := "burrow/burrowlaw02.LimbsSquares", spec := "limbsSquares", inPlace := ["math/bits.Sub64", "math/bits.Add64"], apart := false }
def LimbsSquaresSaid : Prop := limbsSquaresRow.holds Try.pinned (OpenSpec.ofChange limbsSquaresSpec)

/-- ITS FALSE NEIGHBOUR: 'it returns false'. Refute it at one input. -/
def limbsSquaresWrong : ChangeSpec := { name := "limbsSquares", fn := fun _ => fun
  | [d1, d2] => { results := [.lit (.bool false)], args := [d1, d2] }
  | _ => none }
def LimbsSquaresWrongFalsely : Prop := limbsSquaresRow.holds Try.pinned (OpenSpec.ofChange limbsSquaresWrong)

/-- 'burrowlaw02.LimbsTop': WHATEVER THE INPUT: true; the input reads as it did. -/
def limbsTopSpec : ChangeSpec := { name := "limbsTop", fn := fun _ => fun
  | [d1, d2] => { results := [.lit (.bool true)], args := [d1, d2] }
  | _ => none }
def limbsTopRow : OpenClaim := { program := "ytmhpeeicclbcmaa", sum := "5a8762d140619d1096869243af0edc2109636f6451c16de60b8e762d34b44ff8", func := "burrow/burrowlaw02.LimbsTop", spec := "limbsTop", inPlace := ["math/bits.Add64", "math/bits.Sub64"], apart := false }
def LimbsTopSaid : Prop := limbsTopRow.holds Try.pinned (OpenSpec.ofChange limbsTopSpec)

/-- ITS FALSE NEIGHBOUR: 'it returns false'. Refute it at one input. -/
def limbsTopWrong : ChangeSpec := { name := "limbsTop", fn := fun _ => fun
  | [d1, d2] => { results := [.lit (.bool false)], args := [d1, d2] }
  | _ => none }
def LimbsTopWrongFalsely : Prop := limbsTopRow.holds Try.pinned (OpenSpec.ofChange limbsTopWrong)

/-- 'burrowlaw02.LimbsMoves': WHATEVER THE INPUT: true; the input reads as it did. -/
def limbsMovesSpec : ChangeSpec := { name := "limbsMoves", fn := fun _ => fun
  | [d1, d2, d3] => { results := [.lit (.bool true)], args := [d1, d2, d3] }
  | _ => none }
def limbsMovesRow : OpenClaim := { program := "ytmhpeeicclbcmaa", sum := "5a8762d140619d1096869243af0edc2109636f6451c16de60b8e762d34b44ff8", func := "burrow/burrowlaw02.LimbsMoves", spec := "limbsMoves", inPlace := ["math/bits.Add64", "math/bits.Sub64"], apart := false }
def LimbsMovesSaid : Prop := limbsMovesRow.holds Try.pinned (OpenSpec.ofChange limbsMovesSpec)

/-- ITS FALSE NEIGHBOUR: 'it returns false'. Refute it at one input. -/
def limbsMovesWrong : ChangeSpec := { name := "limbsMoves", fn := fun _ => fun
  | [d1, d2, d3] => { results := [.lit (.bool false)], args := [d1, d2, d3] }
  | _ => none }
def LimbsMovesWrongFalsely : Prop := limbsMovesRow.holds Try.pinned (OpenSpec.ofChange limbsMovesWrong)

/- THE SECOND FORM. 'bulk': how many values and letters a reading holds, each counted each time it is reached (what is shared counts as often as it is met; a slice's spare places count too). A statement '..UptoSaid' is the law's where the arguments, and the package variables that the reading takes, are together of bulk at most 1048576: NARROWER than '..Said'. Prove '..Said' where nothing that the law and all that it calls make is longer than what came in: it says more and counts as full. Else prove '..UptoSaid'. A law counts once. -/
mutual
def uptoBulk {H : Type} : DataW H → Nat
  | .lit (.string bytes) => bytes.length + 1
  | .lit _ => 1
  | .nil => 1
  | .ptr d => uptoBulk d + 1
  | .slice elems spare => uptoBulkAll elems + uptoBulkAll spare + 1
  | .agg parts => uptoBulkAll parts + 1
  | .iface _ d => uptoBulk d + 1
  | .map entries => uptoBulkEntries entries + 1
  | .held _ => 1
def uptoBulkAll {H : Type} : List (DataW H) → Nat
  | [] => 0
  | d :: r => uptoBulk d + uptoBulkAll r
def uptoBulkEntries {H : Type} : List (Lit × DataW H) → Nat
  | [] => 0
  | x :: r => uptoBulkEntry x + uptoBulkEntries r
def uptoBulkEntry {H : Type} : Lit × DataW H → Nat
  | (.string bytes, d) => bytes.length + uptoBulk d + 1
  | (_, d) => uptoBulk d + 1
 end
def uptoSmall : (H : Type) → List (DataW H) → Bool := fun _ ds => decide (uptoBulkAll ds ≤ 1048576)
def OpenSpec.upto (s : _root_.Go.ChangeSpec) : _root_.Go.OpenSpec := { _root_.Go.OpenSpec.ofChange s with cond := some uptoSmall }

/-- 'burrowlaw02.LimbsReckoned', WHERE WHAT IT READS IS OF BULK AT MOST 1048576: true; the input reads as it did. -/
def limbsReckonedUptoRow : OpenClaim := { program := "ytmhpeeicclbcmaa", sum := "5a8762d140619d1096869243af0edc2109636f6451c16de60b8e762d34b44ff8", func := "burrow/burrowlaw02.LimbsReckoned", spec := "limbsReckoned", inPlace := ["math/bits.Add64", "math/bits.Sub64"], apart := false, narrowed := true }
def LimbsReckonedUptoSaid : Prop := limbsReckonedUptoRow.holds Try.pinned (OpenSpec.upto limbsReckonedSpec)

/-- 'burrowlaw02.LimbsTurned', WHERE WHAT IT READS IS OF BULK AT MOST 1048576: true; the input reads as it did. -/
def limbsTurnedUptoRow : OpenClaim := { program := "ytmhpeeicclbcmaa", sum := "5a8762d140619d1096869243af0edc2109636f6451c16de60b8e762d34b44ff8", func := "burrow/burrowlaw02.LimbsTurned", spec := "limbsTurned", inPlace := ["math/bits.Add64", "math/bits.Sub64"], apart := false, narrowed := true }
def LimbsTurnedUptoSaid : Prop := limbsTurnedUptoRow.holds Try.pinned (OpenSpec.upto limbsTurnedSpec)

/-- 'burrowlaw02.LimbsSteps', WHERE WHAT IT READS IS OF BULK AT MOST 1048576: true; the input reads as it did. -/
def limbsStepsUptoRow : OpenClaim := { program := "ytmhpeeicclbcmaa", sum := "5a8762d140619d1096869243af0edc2109636f6451c16de60b8e762d34b44ff8", func := "burrow/burrowlaw02.LimbsSteps", spec := "limbsSteps", inPlace := ["math/bits.Add64", "math/bits.Sub64"], apart := false, narrowed := true }
def LimbsStepsUptoSaid : Prop := limbsStepsUptoRow.holds Try.pinned (OpenSpec.upto limbsStepsSpec)

/-- 'burrowlaw02.LimbsApart', WHERE WHAT IT READS IS OF BULK AT MOST 1048576: true; the input reads as it did. -/
def limbsApartUptoRow : OpenClaim := { program := "ytmhpeeicclbcmaa", sum := "5a8762d140619d1096869243af0edc2109636f6451c16de60b8e762d34b44ff8", func := "burrow/burrowlaw02.LimbsApart", spec := "limbsApart", inPlace := ["math/bits.Sub64", "math/bits.Add64"], apart := false, narrowed := true }
def LimbsApartUptoSaid : Prop := limbsApartUptoRow.holds Try.pinned (OpenSpec.upto limbsApartSpec)

/-- 'burrowlaw02.LimbsSquares', WHERE WHAT IT READS IS OF BULK AT MOST 1048576: true; the input reads as it did. -/
def limbsSquaresUptoRow : OpenClaim := { program := "ytmhpeeicclbcmaa", sum := "5a8762d140619d1096869243af0edc2109636f6451c16de60b8e762d34b44ff8", func := "burrow/burrowlaw02.LimbsSquares", spec := "limbsSquares", inPlace := ["math/bits.Sub64", "math/bits.Add64"], apart := false, narrowed := true }
def LimbsSquaresUptoSaid : Prop := limbsSquaresUptoRow.holds Try.pinned (OpenSpec.upto limbsSquaresSpec)

/-- 'burrowlaw02.LimbsTop', WHERE WHAT IT READS IS OF BULK AT MOST 1048576: true; the input reads as it did. -/
def limbsTopUptoRow : OpenClaim := { program := "ytmhpeeicclbcmaa", sum := "5a8762d140619d1096869243af0edc2109636f6451c16de60b8e762d34b44ff8", func := "burrow/burrowlaw02.LimbsTop", spec := "limbsTop", inPlace := ["math/bits.Add64", "math/bits.Sub64"], apart := false, narrowed := true }
def LimbsTopUptoSaid : Prop := limbsTopUptoRow.holds Try.pinned (OpenSpec.upto limbsTopSpec)

/-- 'burrowlaw02.LimbsMoves', WHERE WHAT IT READS IS OF BULK AT MOST 1048576: true; the input reads as it did. -/
def limbsMovesUptoRow : OpenClaim := { program := "ytmhpeeicclbcmaa", sum := "5a8762d140619d1096869243af0edc2109636f6451c16de60b8e762d34b44ff8", func := "burrow/burrowlaw02.LimbsMoves", spec := "limbsMoves", inPlace := ["math/bits.Add64", "math/bits.Sub64"], apart := false, narrowed := true }
def LimbsMovesUptoSaid : Prop := limbsMovesUptoRow.holds Try.pinned (OpenSpec.upto limbsMovesSpec)

end Rows
end Go.Proofs.Ytmhpeeicclbcmaa

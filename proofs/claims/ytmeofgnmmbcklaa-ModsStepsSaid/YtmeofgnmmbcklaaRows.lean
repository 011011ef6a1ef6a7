/-
  No cell of these rows narrows 'for every input' (looked for: loops, veiled, ifaces, maps, wideKeys, modest, calm, conditions, laid).
  DERIVED. THE GIVEN ROWS OF THIS SEAT. 6 by the template 'for every input the law returns true; each argument reads behind the call as it read before'; 0 by the template 'total and deterministic' (their statements: YtmeofgnmmbcklaaTotals.lean).
  GIVEN WITH THE SEED: the statements are not yours to turn. If you find one false, say at which input.
  Laid BY PROGRAM, IN A SANDBOX (cutbox-rows.mjs): the forced cells as the released guide's own fill.sh prints them over the translation 4b5e1a5b6a9f337c… (all of the seat's roots in one cut). By AI agents, Wed Nov 11 2026. No macro, syntax, notation, axiom, sorry.
-/
import Derived.Test.YtmeofgnmmbcklaaChecked
import GoSem.Claim
import GoSem.ClaimJoined
import GoSem.ClaimMapViews
import Derived.JoinedTies
import Derived.KernelRfl
namespace Go.Proofs.Ytmeofgnmmbcklaa
/- THE CELL 'sum', in the pinned program and in every row, IS THE sha256 OF THE DUMP (.gsa) THAT YtmeofgnmmbcklaaProg.lean LOADS. Nothing in Lean hashes anything: it is a label: what it is worth is what the hold of that sum in a sandbox is worth. -/
noncomputable def Try.pinned : Pinned := { name := "ytmeofgnmmbcklaa", sum := "4b5e1a5b6a9f337c080afc4e13c24eb70c2e6a9db65a6bfcf7a64e753b7fab71", checked := Try.checked }
namespace Rows
def none {H : Type} : Left H := { results := [], args := [] }

/-- 'burrowlaw04.ModsReckoned': WHATEVER THE INPUT: true; the input reads as it did. -/
def modsReckonedSpec : ChangeSpec := { name := "modsReckoned", fn := fun _ => fun
  | [d1, d2, d3] => { results := [.lit (.bool true)], args := [d1, d2, d3] }
  | _ => none }
def modsReckonedRow : OpenClaim := { program := "ytmeofgnmmbcklaa", sum := "4b5e1a5b6a9f337c080afc4e13c24eb70c2e6a9db65a6bfcf7a64e753b7fab71", func := "burrow/burrowlaw04.ModsReckoned", spec := "modsReckoned", inPlace := ["math/bits.Add64", "math/bits.Sub64"], unfollowed := true, recurses := true, named := ["math/bits.divideError", "math/bits.overflowError"], apart := false }
def ModsReckonedSaid : Prop := modsReckonedRow.holds Try.pinned (OpenSpec.ofChange modsReckonedSpec)

/-- ITS FALSE NEIGHBOUR: 'it returns false'. Refute it at one input. -/
def modsReckonedWrong : ChangeSpec := { name := "modsReckoned", fn := fun _ => fun
  | [d1, d2, d3] => { results := [.lit (.bool false)], args := [d1, d2, d3] }
  | _ => none }
def ModsReckonedWrongFalsely : Prop := modsReckonedRow.holds Try.pinned (OpenSpec.ofChange modsReckonedWrong)

/-- 'burrowlaw04.ModsRound': WHATEVER THE INPUT: true; the input reads as it did. -/
def modsRoundSpec : ChangeSpec := { name := "modsRound", fn := fun _ => fun
  | [d1, d2] => { results := [.lit (.bool true)], args := [d1, d2] }
  | _ => none }
def modsRoundRow : OpenClaim := { program := "ytmeofgnmmbcklaa", sum := "4b5e1a5b6a9f337c080afc4e13c24eb70c2e6a9db65a6bfcf7a64e753b7fab71", func := "burrow/burrowlaw04.ModsRound", spec := "modsRound", inPlace := ["math/bits.Add64", "math/bits.Sub64"], unfollowed := true, recurses := true, apart := false }
def ModsRoundSaid : Prop := modsRoundRow.holds Try.pinned (OpenSpec.ofChange modsRoundSpec)

/-- ITS FALSE NEIGHBOUR: 'it returns false'. Refute it at one input. -/
def modsRoundWrong : ChangeSpec := { name := "modsRound", fn := fun _ => fun
  | [d1, d2] => { results := [.lit (.bool false)], args := [d1, d2] }
  | _ => none }
def ModsRoundWrongFalsely : Prop := modsRoundRow.holds Try.pinned (OpenSpec.ofChange modsRoundWrong)

/-- 'burrowlaw04.ModsLast': WHATEVER THE INPUT: true; the input reads as it did. -/
def modsLastSpec : ChangeSpec := { name := "modsLast", fn := fun _ => fun
  | [d1, d2] => { results := [.lit (.bool true)], args := [d1, d2] }
  | _ => none }
def modsLastRow : OpenClaim := { program := "ytmeofgnmmbcklaa", sum := "4b5e1a5b6a9f337c080afc4e13c24eb70c2e6a9db65a6bfcf7a64e753b7fab71", func := "burrow/burrowlaw04.ModsLast", spec := "modsLast", inPlace := ["math/bits.Add64", "math/bits.Sub64"], unfollowed := true, recurses := true, apart := false }
def ModsLastSaid : Prop := modsLastRow.holds Try.pinned (OpenSpec.ofChange modsLastSpec)

/-- ITS FALSE NEIGHBOUR: 'it returns false'. Refute it at one input. -/
def modsLastWrong : ChangeSpec := { name := "modsLast", fn := fun _ => fun
  | [d1, d2] => { results := [.lit (.bool false)], args := [d1, d2] }
  | _ => none }
def ModsLastWrongFalsely : Prop := modsLastRow.holds Try.pinned (OpenSpec.ofChange modsLastWrong)

/-- 'burrowlaw04.ModsSteps': WHATEVER THE INPUT: true; the input reads as it did. -/
def modsStepsSpec : ChangeSpec := { name := "modsSteps", fn := fun _ => fun
  | [d1, d2, d3] => { results := [.lit (.bool true)], args := [d1, d2, d3] }
  | _ => none }
def modsStepsRow : OpenClaim := { program := "ytmeofgnmmbcklaa", sum := "4b5e1a5b6a9f337c080afc4e13c24eb70c2e6a9db65a6bfcf7a64e753b7fab71", func := "burrow/burrowlaw04.ModsSteps", spec := "modsSteps", inPlace := ["math/bits.Add64", "math/bits.Sub64"], unfollowed := true, recurses := true, apart := false }
def ModsStepsSaid : Prop := modsStepsRow.holds Try.pinned (OpenSpec.ofChange modsStepsSpec)

/-- ITS FALSE NEIGHBOUR: 'it returns false'. Refute it at one input. -/
def modsStepsWrong : ChangeSpec := { name := "modsSteps", fn := fun _ => fun
  | [d1, d2, d3] => { results := [.lit (.bool false)], args := [d1, d2, d3] }
  | _ => none }
def ModsStepsWrongFalsely : Prop := modsStepsRow.holds Try.pinned (OpenSpec.ofChange modsStepsWrong)

/-- 'burrowlaw04.ModsPrime': WHATEVER THE INPUT: true; the input reads as it did. -/
def modsPrimeSpec : ChangeSpec := { name := "modsPrime", fn := fun _ => fun
  | [d1, d2] => { results := [.lit (.bool true)], args := [d1, d2] }
  | _ => none }
def modsPrimeRow : OpenClaim := { program := "ytmeofgnmmbcklaa", sum := "4b5e1a5b6a9f337c080afc4e13c24eb70c2e6a9db65a6bfcf7a64e753b7fab71", func := "burrow/burrowlaw04.ModsPrime", spec := "modsPrime", inPlace := ["math/bits.Add64", "math/bits.Sub64"], unfollowed := true, recurses := true, apart := false }
def ModsPrimeSaid : Prop := modsPrimeRow.holds Try.pinned (OpenSpec.ofChange modsPrimeSpec)

/-- ITS FALSE NEIGHBOUR: 'it returns false'. Refute it at one input. -/
def modsPrimeWrong : ChangeSpec := { name := "modsPrime", fn := fun _ => fun
  | [d1, d2] => { results := [.lit (.bool false)], args := [d1, d2] }
  | _ => none }
def ModsPrimeWrongFalsely : Prop := modsPrimeRow.holds Try.pinned (OpenSpec.ofChange modsPrimeWrong)

/-- 'burrowlaw04.ModsBeyond': WHATEVER THE INPUT: true; the input reads as it did. -/
def modsBeyondSpec : ChangeSpec := { name := "modsBeyond", fn := fun _ => fun
  | [d1, d2, d3] => { results := [.lit (.bool true)], args := [d1, d2, d3] }
  | _ => none }
def modsBeyondRow : OpenClaim := { program := "ytmeofgnmmbcklaa", sum := "4b5e1a5b6a9f337c080afc4e13c24eb70c2e6a9db65a6bfcf7a64e753b7fab71", func := "burrow/burrowlaw04.ModsBeyond", spec := "modsBeyond", inPlace := ["math/bits.Add64", "math/bits.Sub64"], unfollowed := true, recurses := true, apart := false }
def ModsBeyondSaid : Prop := modsBeyondRow.holds Try.pinned (OpenSpec.ofChange modsBeyondSpec)

/-- ITS FALSE NEIGHBOUR: 'it returns false'. Refute it at one input. -/
def modsBeyondWrong : ChangeSpec := { name := "modsBeyond", fn := fun _ => fun
  | [d1, d2, d3] => { results := [.lit (.bool false)], args := [d1, d2, d3] }
  | _ => none }
def ModsBeyondWrongFalsely : Prop := modsBeyondRow.holds Try.pinned (OpenSpec.ofChange modsBeyondWrong)

/- THE SECOND FORM. 'bulk': how many values and letters a reading holds, each counted each time it is reached (what is shared counts as often as it is met; a slice's spare places count too). A statement '..UptoSaid' is the law's where the arguments, and the package variables that the reading takes, are together of bulk at most 1048576: NARROWER than '..Said'. Prove '..Said' where nothing that the law and all that it calls make is longer than what came in: it says more and counts as full. Else prove '..UptoSaid'. A law counts once. -/
mutual
def uptoBulk {H : Type} : DataW H → Nat
  | .lit (.string bytes) => bytes.length + 1
  | .lit _ => 1
  | .nil => 1
  | .ptr d => uptoBulk d + 1
  | .slice elems spare => uptoBulkAll elems + uptoBulkAll spare + 1
  | .agg parts => uptoBulkAll parts + 1
  | .iface _ d => uptoBulk d + 1
  | .map entries => uptoBulkEntries entries + 1
  | .held _ => 1
def uptoBulkAll {H : Type} : List (DataW H) → Nat
  | [] => 0
  | d :: r => uptoBulk d + uptoBulkAll r
def uptoBulkEntries {H : Type} : List (Lit × DataW H) → Nat
  | [] => 0
  | x :: r => uptoBulkEntry x + uptoBulkEntries r
def uptoBulkEntry {H : Type} : Lit × DataW H → Nat
  | (.string bytes, d) => bytes.length + uptoBulk d + 1
  | (_, d) => uptoBulk d + 1
 end
def uptoSmall : (H : Type) → List (DataW H) → Bool := fun _ ds => decide (uptoBulkAll ds ≤ 1048576)
def OpenSpec.upto (s : _root_.Go.ChangeSpec) : _root_.Go.OpenSpec := { _root_.Go.OpenSpec.ofChange s with cond := some uptoSmall }

/-- 'burrowlaw04.ModsReckoned', WHERE WHAT IT READS IS OF BULK AT MOST 1048576: true; the input reads as it did. -/
def modsReckonedUptoRow : OpenClaim := { program := "ytmeofgnmmbcklaa", sum := "4b5e1a5b6a9f337c080afc4e13c24eb70c2e6a9db65a6bfcf7a64e753b7fab71", func := "burrow/burrowlaw04.ModsReckoned", spec := "modsReckoned", inPlace := ["math/bits.Add64", "math/bits.Sub64"], unfollowed := true, recurses := true, named := ["math/bits.divideError", "math/bits.overflowError"], apart := false, narrowed := true }
def ModsReckonedUptoSaid : Prop := modsReckonedUptoRow.holds Try.pinned (OpenSpec.upto modsReckonedSpec)

/-- 'burrowlaw04.ModsRound', WHERE WHAT IT READS IS OF BULK AT MOST 1048576: true; the input reads as it did. -/
def modsRoundUptoRow : OpenClaim := { program := "ytmeofgnmmbcklaa", sum := "4b5e1a5b6a9f337c080afc4e13c24eb70c2e6a9db65a6bfcf7a64e753b7fab71", func := "burrow/burrowlaw04.ModsRound", spec := "modsRound", inPlace := ["math/bits.Add64", "math/bits.Sub64"], unfollowed := true, recurses := true, apart := false, narrowed := true }
def ModsRoundUptoSaid : Prop := modsRoundUptoRow.holds Try.pinned (OpenSpec.upto modsRoundSpec)

/-- 'burrowlaw04.ModsLast', WHERE WHAT IT READS IS OF BULK AT MOST 1048576: true; the input reads as it did. -/
def modsLastUptoRow : OpenClaim := { program := "ytmeofgnmmbcklaa", sum := "4b5e1a5b6a9f337c080afc4e13c24eb70c2e6a9db65a6bfcf7a64e753b7fab71", func := "burrow/burrowlaw04.ModsLast", spec := "modsLast", inPlace := ["math/bits.Add64", "math/bits.Sub64"], unfollowed := true, recurses := true, apart := false, narrowed := true }
def ModsLastUptoSaid : Prop := modsLastUptoRow.holds Try.pinned (OpenSpec.upto modsLastSpec)

/-- 'burrowlaw04.ModsSteps', WHERE WHAT IT READS IS OF BULK AT MOST 1048576: true; the input reads as it did. -/
def modsStepsUptoRow : OpenClaim := { program := "ytmeofgnmmbcklaa", sum := "4b5e1a5b6a9f337c080afc4e13c24eb70c2e6a9db65a6bfcf7a64e753b7fab71", func := "burrow/burrowlaw04.ModsSteps", spec := "modsSteps", inPlace := ["math/bits.Add64", "math/bits.Sub64"], unfollowed := true, recurses := true, apart := false, narrowed := true }
def ModsStepsUptoSaid : Prop := modsStepsUptoRow.holds Try.pinned (OpenSpec.upto modsStepsSpec)

/-- 'burrowlaw04.ModsPrime', WHERE WHAT IT READS IS OF BULK AT MOST 1048576: true; the input reads as it did. -/
def modsPrimeUptoRow : OpenClaim := { program := "ytmeofgnmmbcklaa", sum := "4b5e1a5b6a9f337c080afc4e13c24eb70c2e6a9db65a6bfcf7a64e753b7fab71", func := "burrow/burrowlaw04.ModsPrime", spec := "modsPrime", inPlace := ["math/bits.Add64", "math/bits.Sub64"], unfollowed := true, recurses := true, apart := false, narrowed := true }
def ModsPrimeUptoSaid : Prop := modsPrimeUptoRow.holds Try.pinned (OpenSpec.upto modsPrimeSpec)

/-- 'burrowlaw04.ModsBeyond', WHERE WHAT IT READS IS OF BULK AT MOST 1048576: true; the input reads as it did. -/
def modsBeyondUptoRow : OpenClaim := { program := "ytmeofgnmmbcklaa", sum := "4b5e1a5b6a9f337c080afc4e13c24eb70c2e6a9db65a6bfcf7a64e753b7fab71", func := "burrow/burrowlaw04.ModsBeyond", spec := "modsBeyond", inPlace := ["math/bits.Add64", "math/bits.Sub64"], unfollowed := true, recurses := true, apart := false, narrowed := true }
def ModsBeyondUptoSaid : Prop := modsBeyondUptoRow.holds Try.pinned (OpenSpec.upto modsBeyondSpec)

end Rows
end Go.Proofs.Ytmeofgnmmbcklaa

/-
  No cell of these rows narrows 'for every input' (looked for: loops, veiled, ifaces, maps, wideKeys, modest, calm, conditions, laid).
  DERIVED. THE GIVEN ROWS OF THIS SEAT. 6 by the template 'for every input the law returns true; each argument reads behind the call as it read before'; 0 by the template 'total and deterministic' (their statements: YtaggegknnnembaaTotals.lean).
  GIVEN WITH THE SEED: the statements are not yours to turn. If you find one false, say at which input.
  Laid BY PROGRAM, IN A SANDBOX (cutbox-rows.mjs): the forced cells as the released guide's own fill.sh prints them over the translation e7692e7ce1da7d76… (all of the seat's roots in one cut). By AI agents, Wed Nov 11 2026. No macro, syntax, notation, axiom, sorry.
-/
import Derived.Test.YtaggegknnnembaaChecked
import GoSem.Claim
import GoSem.ClaimJoined
import GoSem.ClaimMapViews
import Derived.JoinedTies
import Derived.KernelRfl
namespace Go.Proofs.Ytaggegknnnembaa
/- THE CELL 'sum', in the pinned program and in every row, IS THE sha256 OF THE DUMP (.gsa) THAT YtaggegknnnembaaProg.lean LOADS. Nothing in Lean hashes anything: it is a label: what it is worth is what the hold of that sum in a sandbox is worth. -/
noncomputable def Try.pinned : Pinned := { name := "ytaggegknnnembaa", sum := "e7692e7ce1da7d76e7c24ac72f6ebfc4bd40771db4f062ee2cb5a6c74a196602", checked := Try.checked }
namespace Rows
def none {H : Type} : Left H := { results := [], args := [] }

/-- 'burrowlaw06.GroupsOf': WHATEVER THE INPUT: true; the input reads as it did. -/
def groupsOfSpec : ChangeSpec := { name := "groupsOf", fn := fun _ => fun
  | [d1, d2, d3] => { results := [.lit (.bool true)], args := [d1, d2, d3] }
  | _ => none }
def groupsOfRow : OpenClaim := { program := "ytaggegknnnembaa", sum := "e7692e7ce1da7d76e7c24ac72f6ebfc4bd40771db4f062ee2cb5a6c74a196602", func := "burrow/burrowlaw06.GroupsOf", spec := "groupsOf", inPlace := ["math/bits.Add64", "math/bits.Sub64"], unfollowed := true, recurses := true, named := ["math/bits.divideError", "math/bits.overflowError"], apart := false }
def GroupsOfSaid : Prop := groupsOfRow.holds Try.pinned (OpenSpec.ofChange groupsOfSpec)

/-- ITS FALSE NEIGHBOUR: 'it returns false'. Refute it at one input. -/
def groupsOfWrong : ChangeSpec := { name := "groupsOf", fn := fun _ => fun
  | [d1, d2, d3] => { results := [.lit (.bool false)], args := [d1, d2, d3] }
  | _ => none }
def GroupsOfWrongFalsely : Prop := groupsOfRow.holds Try.pinned (OpenSpec.ofChange groupsOfWrong)

/-- 'burrowlaw06.GroupsClosed': WHATEVER THE INPUT: true; the input reads as it did. -/
def groupsClosedSpec : ChangeSpec := { name := "groupsClosed", fn := fun _ => fun
  | [d] => { results := [.lit (.bool true)], args := [d] }
  | _ => none }
def groupsClosedRow : OpenClaim := { program := "ytaggegknnnembaa", sum := "e7692e7ce1da7d76e7c24ac72f6ebfc4bd40771db4f062ee2cb5a6c74a196602", func := "burrow/burrowlaw06.GroupsClosed", spec := "groupsClosed", inPlace := ["math/bits.Add64", "math/bits.Sub64"], unfollowed := true, recurses := true, named := ["math/bits.divideError", "math/bits.overflowError"], apart := false }
def GroupsClosedSaid : Prop := groupsClosedRow.holds Try.pinned (OpenSpec.ofChange groupsClosedSpec)

/-- ITS FALSE NEIGHBOUR: 'it returns false'. Refute it at one input. -/
def groupsClosedWrong : ChangeSpec := { name := "groupsClosed", fn := fun _ => fun
  | [d] => { results := [.lit (.bool false)], args := [d] }
  | _ => none }
def GroupsClosedWrongFalsely : Prop := groupsClosedRow.holds Try.pinned (OpenSpec.ofChange groupsClosedWrong)

/-- 'burrowlaw06.GroupsRound': WHATEVER THE INPUT: true; the input reads as it did. -/
def groupsRoundSpec : ChangeSpec := { name := "groupsRound", fn := fun _ => fun
  | [d] => { results := [.lit (.bool true)], args := [d] }
  | _ => none }
def groupsRoundRow : OpenClaim := { program := "ytaggegknnnembaa", sum := "e7692e7ce1da7d76e7c24ac72f6ebfc4bd40771db4f062ee2cb5a6c74a196602", func := "burrow/burrowlaw06.GroupsRound", spec := "groupsRound", inPlace := ["math/bits.Add64", "math/bits.Sub64"], unfollowed := true, recurses := true, named := ["math/bits.divideError", "math/bits.overflowError"], apart := false }
def GroupsRoundSaid : Prop := groupsRoundRow.holds Try.pinned (OpenSpec.ofChange groupsRoundSpec)

/-- ITS FALSE NEIGHBOUR: 'it returns false'. Refute it at one input. -/
def groupsRoundWrong : ChangeSpec := { name := "groupsRound", fn := fun _ => fun
  | [d] => { results := [.lit (.bool false)], args := [d] }
  | _ => none }
def GroupsRoundWrongFalsely : Prop := groupsRoundRow.holds Try.pinned (OpenSpec.ofChange groupsRoundWrong)

/-- 'burrowlaw06.GroupsShare': WHATEVER THE INPUT: true; the input reads as it did. -/
def groupsShareSpec : ChangeSpec := { name := "groupsShare", fn := fun _ => fun
  | [d] => { results := [.lit (.bool true)], args := [d] }
  | _ => none }
def groupsShareRow : OpenClaim := { program := "ytaggegknnnembaa", sum := "e7692e7ce1da7d76e7c24ac72f6ebfc4bd40771db4f062ee2cb5a6c74a196602", func := "burrow/burrowlaw06.GroupsShare", spec := "groupsShare", inPlace := ["math/bits.Add64", "math/bits.Sub64"], unfollowed := true, recurses := true, named := ["math/bits.divideError", "math/bits.overflowError"], apart := false }
def GroupsShareSaid : Prop := groupsShareRow.holds Try.pinned (OpenSpec.ofChange groupsShareSpec)

/-- ITS FALSE NEIGHBOUR: 'it returns false'. Refute it at one input. -/
def groupsShareWrong : ChangeSpec := { name := "groupsShare", fn := fun _ => fun
  | [d] => { results := [.lit (.bool false)], args := [d] }
  | _ => none }
def GroupsShareWrongFalsely : Prop := groupsShareRow.holds Try.pinned (OpenSpec.ofChange groupsShareWrong)

/-- 'burrowlaw06.GroupsWhole': WHATEVER THE INPUT: true; the input reads as it did. -/
def groupsWholeSpec : ChangeSpec := { name := "groupsWhole", fn := fun _ => fun
  | [d1, d2, d3] => { results := [.lit (.bool true)], args := [d1, d2, d3] }
  | _ => none }
def groupsWholeRow : OpenClaim := { program := "ytaggegknnnembaa", sum := "e7692e7ce1da7d76e7c24ac72f6ebfc4bd40771db4f062ee2cb5a6c74a196602", func := "burrow/burrowlaw06.GroupsWhole", spec := "groupsWhole", inPlace := ["math/bits.Add64", "math/bits.Sub64"], unfollowed := true, recurses := true, named := ["math/bits.divideError", "math/bits.overflowError"], apart := false }
def GroupsWholeSaid : Prop := groupsWholeRow.holds Try.pinned (OpenSpec.ofChange groupsWholeSpec)

/-- ITS FALSE NEIGHBOUR: 'it returns false'. Refute it at one input. -/
def groupsWholeWrong : ChangeSpec := { name := "groupsWhole", fn := fun _ => fun
  | [d1, d2, d3] => { results := [.lit (.bool false)], args := [d1, d2, d3] }
  | _ => none }
def GroupsWholeWrongFalsely : Prop := groupsWholeRow.holds Try.pinned (OpenSpec.ofChange groupsWholeWrong)

/-- 'burrowlaw04.ModsReckoned': WHATEVER THE INPUT: true; the input reads as it did. -/
def modsReckonedSpec : ChangeSpec := { name := "modsReckoned", fn := fun _ => fun
  | [d1, d2, d3] => { results := [.lit (.bool true)], args := [d1, d2, d3] }
  | _ => none }
def modsReckonedRow : OpenClaim := { program := "ytaggegknnnembaa", sum := "e7692e7ce1da7d76e7c24ac72f6ebfc4bd40771db4f062ee2cb5a6c74a196602", func := "burrow/burrowlaw04.ModsReckoned", spec := "modsReckoned", inPlace := ["math/bits.Add64", "math/bits.Sub64"], unfollowed := true, recurses := true, named := ["math/bits.divideError", "math/bits.overflowError"], apart := false }
def ModsReckonedSaid : Prop := modsReckonedRow.holds Try.pinned (OpenSpec.ofChange modsReckonedSpec)

/-- ITS FALSE NEIGHBOUR: 'it returns false'. Refute it at one input. -/
def modsReckonedWrong : ChangeSpec := { name := "modsReckoned", fn := fun _ => fun
  | [d1, d2, d3] => { results := [.lit (.bool false)], args := [d1, d2, d3] }
  | _ => none }
def ModsReckonedWrongFalsely : Prop := modsReckonedRow.holds Try.pinned (OpenSpec.ofChange modsReckonedWrong)

/- THE SECOND FORM. 'bulk': how many values and letters a reading holds, each counted each time it is reached (what is shared counts as often as it is met; a slice's spare places count too). A statement '..UptoSaid' is the law's where the arguments, and the package variables that the reading takes, are together of bulk at most 1048576: NARROWER than '..Said'. Prove '..Said' where nothing that the law and all that it calls make is longer than what came in: it says more and counts as full. Else prove '..UptoSaid'. A law counts once. -/
mutual
def uptoBulk {H : Type} : DataW H → Nat
  | .lit (.string bytes) => bytes.length + 1
  | .lit _ => 1
  | .nil => 1
  | .ptr d => uptoBulk d + 1
  | .slice elems spare => uptoBulkAll elems + uptoBulkAll spare + 1
  | .agg parts => uptoBulkAll parts + 1
  | .iface _ d => uptoBulk d + 1
  | .map entries => uptoBulkEntries entries + 1
  | .held _ => 1
def uptoBulkAll {H : Type} : List (DataW H) → Nat
  | [] => 0
  | d :: r => uptoBulk d + uptoBulkAll r
def uptoBulkEntries {H : Type} : List (Lit × DataW H) → Nat
  | [] => 0
  | x :: r => uptoBulkEntry x + uptoBulkEntries r
def uptoBulkEntry {H : Type} : Lit × DataW H → Nat
  | (.string bytes, d) => bytes.length + uptoBulk d + 1
  | (_, d) => uptoBulk d + 1
 end
def uptoSmall : (H : Type) → List (DataW H) → Bool := fun _ ds => decide (uptoBulkAll ds ≤ 1048576)
def OpenSpec.upto (s : _root_.Go.ChangeSpec) : _root_.Go.OpenSpec := { _root_.Go.OpenSpec.ofChange s with cond := some uptoSmall }

/-- 'burrowlaw06.GroupsOf', WHERE WHAT IT READS IS OF BULK AT MOST 1048576: true; the input reads as it did. -/
def groupsOfUptoRow : OpenClaim := { program := "ytaggegknnnembaa", sum := "e7692e7ce1da7d76e7c24ac72f6ebfc4bd40771db4f062ee2cb5a6c74a196602", func := "burrow/burrowlaw06.GroupsOf", spec := "groupsOf", inPlace := ["math/bits.Add64", "math/bits.Sub64"], unfollowed := true, recurses := true, named := ["math/bits.divideError", "math/bits.overflowError"], apart := false, narrowed := true }
def GroupsOfUptoSaid : Prop := groupsOfUptoRow.holds Try.pinned (OpenSpec.upto groupsOfSpec)

/-- 'burrowlaw06.GroupsClosed', WHERE WHAT IT READS IS OF BULK AT MOST 1048576: true; the input reads as it did. -/
def groupsClosedUptoRow : OpenClaim := { program := "ytaggegknnnembaa", sum := "e7692e7ce1da7d76e7c24ac72f6ebfc4bd40771db4f062ee2cb5a6c74a196602", func := "burrow/burrowlaw06.GroupsClosed", spec := "groupsClosed", inPlace := ["math/bits.Add64", "math/bits.Sub64"], unfollowed := true, recurses := true, named := ["math/bits.divideError", "math/bits.overflowError"], apart := false, narrowed := true }
def GroupsClosedUptoSaid : Prop := groupsClosedUptoRow.holds Try.pinned (OpenSpec.upto groupsClosedSpec)

/-- 'burrowlaw06.GroupsRound', WHERE WHAT IT READS IS OF BULK AT MOST 1048576: true; the input reads as it did. -/
def groupsRoundUptoRow : OpenClaim := { program := "ytaggegknnnembaa", sum := "e7692e7ce1da7d76e7c24ac72f6ebfc4bd40771db4f062ee2cb5a6c74a196602", func := "burrow/burrowlaw06.GroupsRound", spec := "groupsRound", inPlace := ["math/bits.Add64", "math/bits.Sub64"], unfollowed := true, recurses := true, named := ["math/bits.divideError", "math/bits.overflowError"], apart := false, narrowed := true }
def GroupsRoundUptoSaid : Prop := groupsRoundUptoRow.holds Try.pinned (OpenSpec.upto groupsRoundSpec)

/-- 'burrowlaw06.GroupsShare', WHERE WHAT IT READS IS OF BULK AT MOST 1048576: true; the input reads as it did. -/
def groupsShareUptoRow : OpenClaim := { program := "ytaggegknnnembaa", sum := "e7692e7ce1da7d76e7c24ac72f6ebfc4bd40771db4f062ee2cb5a6c74a196602", func := "burrow/burrowlaw06.GroupsShare", spec := "groupsShare", inPlace := ["math/bits.Add64", "math/bits.Sub64"], unfollowed := true, recurses := true, named := ["math/bits.divideError", "math/bits.overflowError"], apart := false, narrowed := true }
def GroupsShareUptoSaid : Prop := groupsShareUptoRow.holds Try.pinned (OpenSpec.upto groupsShareSpec)

/-- 'burrowlaw06.GroupsWhole', WHERE WHAT IT READS IS OF BULK AT MOST 1048576: true; the input reads as it did. -/
def groupsWholeUptoRow : OpenClaim := { program := "ytaggegknnnembaa", sum := "e7692e7ce1da7d76e7c24ac72f6ebfc4bd40771db4f062ee2cb5a6c74a196602", func := "burrow/burrowlaw06.GroupsWhole", spec := "groupsWhole", inPlace := ["math/bits.Add64", "math/bits.Sub64"], unfollowed := true, recurses := true, named := ["math/bits.divideError", "math/bits.overflowError"], apart := false, narrowed := true }
def GroupsWholeUptoSaid : Prop := groupsWholeUptoRow.holds Try.pinned (OpenSpec.upto groupsWholeSpec)

/-- 'burrowlaw04.ModsReckoned', WHERE WHAT IT READS IS OF BULK AT MOST 1048576: true; the input reads as it did. -/
def modsReckonedUptoRow : OpenClaim := { program := "ytaggegknnnembaa", sum := "e7692e7ce1da7d76e7c24ac72f6ebfc4bd40771db4f062ee2cb5a6c74a196602", func := "burrow/burrowlaw04.ModsReckoned", spec := "modsReckoned", inPlace := ["math/bits.Add64", "math/bits.Sub64"], unfollowed := true, recurses := true, named := ["math/bits.divideError", "math/bits.overflowError"], apart := false, narrowed := true }
def ModsReckonedUptoSaid : Prop := modsReckonedUptoRow.holds Try.pinned (OpenSpec.upto modsReckonedSpec)

end Rows
end Go.Proofs.Ytaggegknnnembaa

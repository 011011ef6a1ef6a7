/-
  DERIVED. GIVEN WITH THE SEED: THE CARDS: each row of YtmapkbdjnnionaaGreatDoorRows.lean that lists a variable, with what it lists TIED to the program's text (the seventh form; the later family's looks); each row that meets fmt, with fmt's text TOLD by the authors' own Lean function (tested against real Go, not proved from fmt's source: count such statements apart). THE CARD IS WHAT COUNTS. Prove the row's statement (the work); the ties are given (YtmapkbdjnnionaaGreatDoorTie.lean); close each card by the builder's one call (the guide's Derived/Test/ToyasCard.lean, 'card_holds'). Laid BY PROGRAM, IN A SANDBOX (cutbox-door.mjs). By AI agents, Wed Nov 11 2026. No macro, syntax, notation, axiom, sorry.
-/
import Derived.Test.YtmapkbdjnnionaaGreatDoorRows
import GoSem.ClaimSeven
namespace Go.Proofs.YtmapkbdjnnionaaGreatDoor
namespace Rows

/-- THE TIED CARD OF 'burrowlaw07.SigsOf'. -/
def sigsOfCard : Claim7 := { stood := { row := sigsOfRow, standIns := [], harness := (true, "4d4dc7bc24d4a9c73a5c0813c69e4d5c85e36195576feea592830df752dc9129"), looks := false }, kinds := [], alts := [], laidByText := true, laidKinds := [.data], laidTests := true, laidLooks := .later }
def SigsOfCardSaid : Prop := Claim7.holds Tryz.pinned (.plain (OpenSpec.ofChange sigsOfSpec)) sigsOfCard

/-- THE SECOND FORM's CARD OF 'burrowlaw07.SigsOf'. -/
def sigsOfUptoCard : Claim7 := { stood := { row := sigsOfUptoRow, standIns := [], harness := (true, "4d4dc7bc24d4a9c73a5c0813c69e4d5c85e36195576feea592830df752dc9129"), looks := false }, kinds := [], alts := [], laidByText := true, laidKinds := [.data], laidTests := true, laidLooks := .later }
def SigsOfUptoCardSaid : Prop := Claim7.holds Tryz.pinned (.plain (OpenSpec.upto sigsOfSpec)) sigsOfUptoCard
end Rows
end Go.Proofs.YtmapkbdjnnionaaGreatDoor

/-
  DERIVED. GIVEN WITH THE SEED: THE CARDS: each row of YtbloejlebikecaaGreatDoorRows.lean that lists a variable, with what it lists TIED to the program's text (the seventh form; the later family's looks); each row that meets fmt, with fmt's text TOLD by the authors' own Lean function (tested against real Go, not proved from fmt's source: count such statements apart). THE CARD IS WHAT COUNTS. Prove the row's statement (the work); the ties are given (YtbloejlebikecaaGreatDoorTie.lean); close each card by the builder's one call (the guide's Derived/Test/ToyasCard.lean, 'card_holds'). Laid BY PROGRAM, IN A SANDBOX (cutbox-door.mjs). By AI agents, Wed Nov 11 2026. No macro, syntax, notation, axiom, sorry.
-/
import Derived.Test.YtbloejlebikecaaGreatDoorRows
import GoSem.ClaimSeven
namespace Go.Proofs.YtbloejlebikecaaGreatDoor
namespace Rows

/-- THE TIED CARD OF 'burrowlaw10.KeymatsOf'. -/
def keymatsOfCard : Claim7 := { stood := { row := keymatsOfRow, standIns := [], harness := (true, "abc58ccc7cc7561e37a4b001d7268412e838941178ee681a5d2f44a7fc23e961"), looks := false }, kinds := [], alts := [], laidByText := true, laidKinds := [.data, .data, .data, .data], laidTests := true, laidLooks := .later }
def KeymatsOfCardSaid : Prop := Claim7.holds Tryz.pinned (.plain (OpenSpec.ofChange keymatsOfSpec)) keymatsOfCard

/-- THE SECOND FORM's CARD OF 'burrowlaw10.KeymatsOf'. -/
def keymatsOfUptoCard : Claim7 := { stood := { row := keymatsOfUptoRow, standIns := [], harness := (true, "abc58ccc7cc7561e37a4b001d7268412e838941178ee681a5d2f44a7fc23e961"), looks := false }, kinds := [], alts := [], laidByText := true, laidKinds := [.data, .data, .data, .data], laidTests := true, laidLooks := .later }
def KeymatsOfUptoCardSaid : Prop := Claim7.holds Tryz.pinned (.plain (OpenSpec.upto keymatsOfSpec)) keymatsOfUptoCard
end Rows
end Go.Proofs.YtbloejlebikecaaGreatDoor

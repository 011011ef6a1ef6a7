/-
  DERIVED. GIVEN WITH THE SEED: THE CARDS: each row of YtbccnkjfjlmflaaGreatDoorRows.lean that lists a variable, with what it lists TIED to the program's text (the seventh form; the later family's looks); each row that meets fmt, with fmt's text TOLD by the authors' own Lean function (tested against real Go, not proved from fmt's source: count such statements apart). THE CARD IS WHAT COUNTS. Prove the row's statement (the work); the ties are given (YtbccnkjfjlmflaaGreatDoorTie.lean); close each card by the builder's one call (the guide's Derived/Test/ToyasCard.lean, 'card_holds'). Laid BY PROGRAM, IN A SANDBOX (cutbox-door.mjs). By AI agents, Wed Nov 11 2026. No macro, syntax, notation, axiom, sorry.
-/
import Derived.Test.YtbccnkjfjlmflaaGreatDoorRows
import GoSem.ClaimSeven
namespace Go.Proofs.YtbccnkjfjlmflaaGreatDoor
namespace Rows

/-- THE TIED CARD OF 'burrowlaw09.CiphersStream'. -/
def ciphersStreamCard : Claim7 := { stood := { row := ciphersStreamRow, standIns := [], harness := (true, "2841d2241639f1480b940ed16a08e05aeb681f79c40b861adc1728c180b8c7ca"), looks := false }, kinds := [], alts := [], laidByText := true, laidKinds := [.data, .data, .data], laidTests := true, laidLooks := .later }
def CiphersStreamCardSaid : Prop := Claim7.holds Tryz.pinned (.plain (OpenSpec.ofChange ciphersStreamSpec)) ciphersStreamCard

/-- THE SECOND FORM's CARD OF 'burrowlaw09.CiphersStream'. -/
def ciphersStreamUptoCard : Claim7 := { stood := { row := ciphersStreamUptoRow, standIns := [], harness := (true, "2841d2241639f1480b940ed16a08e05aeb681f79c40b861adc1728c180b8c7ca"), looks := false }, kinds := [], alts := [], laidByText := true, laidKinds := [.data, .data, .data], laidTests := true, laidLooks := .later }
def CiphersStreamUptoCardSaid : Prop := Claim7.holds Tryz.pinned (.plain (OpenSpec.upto ciphersStreamSpec)) ciphersStreamUptoCard
end Rows
end Go.Proofs.YtbccnkjfjlmflaaGreatDoor

/-
  DERIVED. GIVEN WITH THE SEED: THE CARDS: each row of YtaejcifpipegnaaDoorRows.lean that lists a variable, with what it lists TIED to the program's text (the seventh form; the later family's looks); each row that meets fmt, with fmt's text TOLD by the authors' own Lean function (tested against real Go, not proved from fmt's source: count such statements apart). THE CARD IS WHAT COUNTS. Prove the row's statement (the work); the ties are given (YtaejcifpipegnaaDoorTie.lean); close each card by the builder's one call (the guide's Derived/Test/ToyasCard.lean, 'card_holds'). Laid BY PROGRAM, IN A SANDBOX (cutbox-door.mjs). By AI agents, Wed Nov 11 2026. No macro, syntax, notation, axiom, sorry.
-/
import Derived.Test.YtaejcifpipegnaaDoorRows
import GoSem.ClaimSeven
namespace Go.Proofs.YtaejcifpipegnaaDoor
namespace Rows

/-- THE TIED CARD OF 'burrowlaw08.MacsOf'. -/
def macsOfCard : Claim7 := { stood := { row := macsOfRow, standIns := [], harness := (true, "8afa87663e1275295151a1d8693688f97847894865e69bf75996d0eac0ffe382"), looks := false }, kinds := [], alts := [], laidByText := true, laidKinds := [.data], laidTests := true, laidLooks := .later }
def MacsOfCardSaid : Prop := Claim7.holds Tryd.pinned (.plain (OpenSpec.ofChange macsOfSpec)) macsOfCard

/-- THE TIED CARD OF 'burrowlaw08.MacsParts'. -/
def macsPartsCard : Claim7 := { stood := { row := macsPartsRow, standIns := [], harness := (true, "8afa87663e1275295151a1d8693688f97847894865e69bf75996d0eac0ffe382"), looks := false }, kinds := [], alts := [], laidByText := true, laidKinds := [.data], laidTests := true, laidLooks := .later }
def MacsPartsCardSaid : Prop := Claim7.holds Tryd.pinned (.plain (OpenSpec.ofChange macsPartsSpec)) macsPartsCard

/-- THE TIED CARD OF 'burrowlaw08.MacsKey'. -/
def macsKeyCard : Claim7 := { stood := { row := macsKeyRow, standIns := [], harness := (true, "8afa87663e1275295151a1d8693688f97847894865e69bf75996d0eac0ffe382"), looks := false }, kinds := [], alts := [], laidByText := true, laidKinds := [.data], laidTests := true, laidLooks := .later }
def MacsKeyCardSaid : Prop := Claim7.holds Tryd.pinned (.plain (OpenSpec.ofChange macsKeySpec)) macsKeyCard

/-- THE TIED CARD OF 'burrowlaw08.MacsSame'. -/
def macsSameCard : Claim7 := { stood := { row := macsSameRow, standIns := [], harness := (true, "8afa87663e1275295151a1d8693688f97847894865e69bf75996d0eac0ffe382"), looks := false }, kinds := [], alts := [], laidByText := true, laidKinds := [.data], laidTests := true, laidLooks := .later }
def MacsSameCardSaid : Prop := Claim7.holds Tryd.pinned (.plain (OpenSpec.ofChange macsSameSpec)) macsSameCard

/-- THE SECOND FORM's CARD OF 'burrowlaw08.MacsOf'. -/
def macsOfUptoCard : Claim7 := { stood := { row := macsOfUptoRow, standIns := [], harness := (true, "8afa87663e1275295151a1d8693688f97847894865e69bf75996d0eac0ffe382"), looks := false }, kinds := [], alts := [], laidByText := true, laidKinds := [.data], laidTests := true, laidLooks := .later }
def MacsOfUptoCardSaid : Prop := Claim7.holds Tryd.pinned (.plain (OpenSpec.upto macsOfSpec)) macsOfUptoCard

/-- THE SECOND FORM's CARD OF 'burrowlaw08.MacsParts'. -/
def macsPartsUptoCard : Claim7 := { stood := { row := macsPartsUptoRow, standIns := [], harness := (true, "8afa87663e1275295151a1d8693688f97847894865e69bf75996d0eac0ffe382"), looks := false }, kinds := [], alts := [], laidByText := true, laidKinds := [.data], laidTests := true, laidLooks := .later }
def MacsPartsUptoCardSaid : Prop := Claim7.holds Tryd.pinned (.plain (OpenSpec.upto macsPartsSpec)) macsPartsUptoCard

/-- THE SECOND FORM's CARD OF 'burrowlaw08.MacsKey'. -/
def macsKeyUptoCard : Claim7 := { stood := { row := macsKeyUptoRow, standIns := [], harness := (true, "8afa87663e1275295151a1d8693688f97847894865e69bf75996d0eac0ffe382"), looks := false }, kinds := [], alts := [], laidByText := true, laidKinds := [.data], laidTests := true, laidLooks := .later }
def MacsKeyUptoCardSaid : Prop := Claim7.holds Tryd.pinned (.plain (OpenSpec.upto macsKeySpec)) macsKeyUptoCard

/-- THE SECOND FORM's CARD OF 'burrowlaw08.MacsSame'. -/
def macsSameUptoCard : Claim7 := { stood := { row := macsSameUptoRow, standIns := [], harness := (true, "8afa87663e1275295151a1d8693688f97847894865e69bf75996d0eac0ffe382"), looks := false }, kinds := [], alts := [], laidByText := true, laidKinds := [.data], laidTests := true, laidLooks := .later }
def MacsSameUptoCardSaid : Prop := Claim7.holds Tryd.pinned (.plain (OpenSpec.upto macsSameSpec)) macsSameUptoCard
end Rows
end Go.Proofs.YtaejcifpipegnaaDoor

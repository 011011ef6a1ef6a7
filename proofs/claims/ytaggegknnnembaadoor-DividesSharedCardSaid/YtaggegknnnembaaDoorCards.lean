/-
  DERIVED. GIVEN WITH THE SEED: THE CARDS: each row of YtaggegknnnembaaDoorRows.lean that lists a variable, with what it lists TIED to the program's text (the seventh form; the later family's looks); each row that meets fmt, with fmt's text TOLD by the authors' own Lean function (tested against real Go, not proved from fmt's source: count such statements apart). THE CARD IS WHAT COUNTS. Prove the row's statement (the work); the ties are given (YtaggegknnnembaaDoorTie.lean); close each card by the builder's one call (the guide's Derived/Test/ToyasCard.lean, 'card_holds'). Laid BY PROGRAM, IN A SANDBOX (cutbox-door.mjs). By AI agents, Wed Nov 11 2026. No macro, syntax, notation, axiom, sorry.
-/
import Derived.Test.YtaggegknnnembaaDoorRows
import GoSem.ClaimSeven
namespace Go.Proofs.YtaggegknnnembaaDoor
namespace Rows

/-- THE TIED CARD OF 'burrowlaw04.ModsOver'. -/
def modsOverCard : Claim7 := { stood := { row := modsOverRow, standIns := [], harness := (true, "ec95455147dfb2b3e8721df5f0a5719d62e55af6af5d7a1105059ea178025c73"), looks := false }, kinds := [], alts := [], laidByText := true, laidKinds := [.data], laidTests := true, laidLooks := .later }
def ModsOverCardSaid : Prop := Claim7.holds Tryd.pinned (.plain (OpenSpec.ofChange modsOverSpec)) modsOverCard

/-- THE TIED CARD OF 'burrowlaw03.DividesReckoned'. -/
def dividesReckonedCard : Claim7 := { stood := { row := dividesReckonedRow, standIns := [], harness := (true, "ec95455147dfb2b3e8721df5f0a5719d62e55af6af5d7a1105059ea178025c73"), looks := false }, kinds := [], alts := [], laidByText := true, laidKinds := [.data], laidTests := true, laidLooks := .later }
def DividesReckonedCardSaid : Prop := Claim7.holds Tryd.pinned (.plain (OpenSpec.ofChange dividesReckonedSpec)) dividesReckonedCard

/-- THE TIED CARD OF 'burrowlaw03.DividesShared'. -/
def dividesSharedCard : Claim7 := { stood := { row := dividesSharedRow, standIns := [], harness := (true, "ec95455147dfb2b3e8721df5f0a5719d62e55af6af5d7a1105059ea178025c73"), looks := false }, kinds := [], alts := [], laidByText := true, laidKinds := [.data], laidTests := true, laidLooks := .later }
def DividesSharedCardSaid : Prop := Claim7.holds Tryd.pinned (.plain (OpenSpec.ofChange dividesSharedSpec)) dividesSharedCard

/-- THE SECOND FORM's CARD OF 'burrowlaw04.ModsOver'. -/
def modsOverUptoCard : Claim7 := { stood := { row := modsOverUptoRow, standIns := [], harness := (true, "ec95455147dfb2b3e8721df5f0a5719d62e55af6af5d7a1105059ea178025c73"), looks := false }, kinds := [], alts := [], laidByText := true, laidKinds := [.data], laidTests := true, laidLooks := .later }
def ModsOverUptoCardSaid : Prop := Claim7.holds Tryd.pinned (.plain (OpenSpec.upto modsOverSpec)) modsOverUptoCard

/-- THE SECOND FORM's CARD OF 'burrowlaw03.DividesReckoned'. -/
def dividesReckonedUptoCard : Claim7 := { stood := { row := dividesReckonedUptoRow, standIns := [], harness := (true, "ec95455147dfb2b3e8721df5f0a5719d62e55af6af5d7a1105059ea178025c73"), looks := false }, kinds := [], alts := [], laidByText := true, laidKinds := [.data], laidTests := true, laidLooks := .later }
def DividesReckonedUptoCardSaid : Prop := Claim7.holds Tryd.pinned (.plain (OpenSpec.upto dividesReckonedSpec)) dividesReckonedUptoCard

/-- THE SECOND FORM's CARD OF 'burrowlaw03.DividesShared'. -/
def dividesSharedUptoCard : Claim7 := { stood := { row := dividesSharedUptoRow, standIns := [], harness := (true, "ec95455147dfb2b3e8721df5f0a5719d62e55af6af5d7a1105059ea178025c73"), looks := false }, kinds := [], alts := [], laidByText := true, laidKinds := [.data], laidTests := true, laidLooks := .later }
def DividesSharedUptoCardSaid : Prop := Claim7.holds Tryd.pinned (.plain (OpenSpec.upto dividesSharedSpec)) dividesSharedUptoCard
end Rows
end Go.Proofs.YtaggegknnnembaaDoor

/-
  DERIVED. GIVEN WITH THE SEED: THE CARDS: each row of YtdjabenccjeooaaDoorRows.lean that lists a variable, with what it lists TIED to the program's text (the seventh form; the later family's looks); each row that meets fmt, with fmt's text TOLD by the authors' own Lean function (tested against real Go, not proved from fmt's source: count such statements apart). THE CARD IS WHAT COUNTS. Prove the row's statement (the work); the ties are given (YtdjabenccjeooaaDoorTie.lean); close each card by the builder's one call (the guide's Derived/Test/ToyasCard.lean, 'card_holds'). Laid BY PROGRAM, IN A SANDBOX (cutbox-door.mjs). By AI agents, Wed Nov 11 2026. No macro, syntax, notation, axiom, sorry.
-/
import Derived.Test.YtdjabenccjeooaaDoorRows
import GoSem.ClaimSeven
namespace Go.Proofs.YtdjabenccjeooaaDoor
namespace Rows

/-- THE TIED CARD OF 'burrowlaw03.DividesReckoned'. -/
def dividesReckonedCard : Claim7 := { stood := { row := dividesReckonedRow, standIns := [], harness := (true, "e68a0de87b76e48aee03f5a6e41b2bf2636625afb58c1c88dc2356978b83dfc6"), looks := false }, kinds := [], alts := [], laidByText := true, laidKinds := [.data], laidTests := true, laidLooks := .later }
def DividesReckonedCardSaid : Prop := Claim7.holds Tryd.pinned (.plain (OpenSpec.ofChange dividesReckonedSpec)) dividesReckonedCard

/-- THE TIED CARD OF 'burrowlaw03.DividesBetween'. -/
def dividesBetweenCard : Claim7 := { stood := { row := dividesBetweenRow, standIns := [], harness := (true, "e68a0de87b76e48aee03f5a6e41b2bf2636625afb58c1c88dc2356978b83dfc6"), looks := false }, kinds := [], alts := [], laidByText := true, laidKinds := [.data], laidTests := true, laidLooks := .later }
def DividesBetweenCardSaid : Prop := Claim7.holds Tryd.pinned (.plain (OpenSpec.ofChange dividesBetweenSpec)) dividesBetweenCard

/-- THE TIED CARD OF 'burrowlaw03.DividesNext'. -/
def dividesNextCard : Claim7 := { stood := { row := dividesNextRow, standIns := [], harness := (true, "e68a0de87b76e48aee03f5a6e41b2bf2636625afb58c1c88dc2356978b83dfc6"), looks := false }, kinds := [], alts := [], laidByText := true, laidKinds := [.data], laidTests := true, laidLooks := .later }
def DividesNextCardSaid : Prop := Claim7.holds Tryd.pinned (.plain (OpenSpec.ofChange dividesNextSpec)) dividesNextCard

/-- THE TIED CARD OF 'burrowlaw03.DividesHalved'. -/
def dividesHalvedCard : Claim7 := { stood := { row := dividesHalvedRow, standIns := [], harness := (true, "e68a0de87b76e48aee03f5a6e41b2bf2636625afb58c1c88dc2356978b83dfc6"), looks := false }, kinds := [], alts := [], laidByText := true, laidKinds := [.data], laidTests := true, laidLooks := .later }
def DividesHalvedCardSaid : Prop := Claim7.holds Tryd.pinned (.plain (OpenSpec.ofChange dividesHalvedSpec)) dividesHalvedCard

/-- THE TIED CARD OF 'burrowlaw03.DividesWhole'. -/
def dividesWholeCard : Claim7 := { stood := { row := dividesWholeRow, standIns := [], harness := (true, "e68a0de87b76e48aee03f5a6e41b2bf2636625afb58c1c88dc2356978b83dfc6"), looks := false }, kinds := [], alts := [], laidByText := true, laidKinds := [.data], laidTests := true, laidLooks := .later }
def DividesWholeCardSaid : Prop := Claim7.holds Tryd.pinned (.plain (OpenSpec.ofChange dividesWholeSpec)) dividesWholeCard

/-- THE TIED CARD OF 'burrowlaw03.DividesCuts'. -/
def dividesCutsCard : Claim7 := { stood := { row := dividesCutsRow, standIns := [], harness := (true, "e68a0de87b76e48aee03f5a6e41b2bf2636625afb58c1c88dc2356978b83dfc6"), looks := false }, kinds := [], alts := [], laidByText := true, laidKinds := [.data], laidTests := true, laidLooks := .later }
def DividesCutsCardSaid : Prop := Claim7.holds Tryd.pinned (.plain (OpenSpec.ofChange dividesCutsSpec)) dividesCutsCard

/-- THE TIED CARD OF 'burrowlaw03.DividesShared'. -/
def dividesSharedCard : Claim7 := { stood := { row := dividesSharedRow, standIns := [], harness := (true, "e68a0de87b76e48aee03f5a6e41b2bf2636625afb58c1c88dc2356978b83dfc6"), looks := false }, kinds := [], alts := [], laidByText := true, laidKinds := [.data], laidTests := true, laidLooks := .later }
def DividesSharedCardSaid : Prop := Claim7.holds Tryd.pinned (.plain (OpenSpec.ofChange dividesSharedSpec)) dividesSharedCard

/-- THE SECOND FORM's CARD OF 'burrowlaw03.DividesReckoned'. -/
def dividesReckonedUptoCard : Claim7 := { stood := { row := dividesReckonedUptoRow, standIns := [], harness := (true, "e68a0de87b76e48aee03f5a6e41b2bf2636625afb58c1c88dc2356978b83dfc6"), looks := false }, kinds := [], alts := [], laidByText := true, laidKinds := [.data], laidTests := true, laidLooks := .later }
def DividesReckonedUptoCardSaid : Prop := Claim7.holds Tryd.pinned (.plain (OpenSpec.upto dividesReckonedSpec)) dividesReckonedUptoCard

/-- THE SECOND FORM's CARD OF 'burrowlaw03.DividesBetween'. -/
def dividesBetweenUptoCard : Claim7 := { stood := { row := dividesBetweenUptoRow, standIns := [], harness := (true, "e68a0de87b76e48aee03f5a6e41b2bf2636625afb58c1c88dc2356978b83dfc6"), looks := false }, kinds := [], alts := [], laidByText := true, laidKinds := [.data], laidTests := true, laidLooks := .later }
def DividesBetweenUptoCardSaid : Prop := Claim7.holds Tryd.pinned (.plain (OpenSpec.upto dividesBetweenSpec)) dividesBetweenUptoCard

/-- THE SECOND FORM's CARD OF 'burrowlaw03.DividesNext'. -/
def dividesNextUptoCard : Claim7 := { stood := { row := dividesNextUptoRow, standIns := [], harness := (true, "e68a0de87b76e48aee03f5a6e41b2bf2636625afb58c1c88dc2356978b83dfc6"), looks := false }, kinds := [], alts := [], laidByText := true, laidKinds := [.data], laidTests := true, laidLooks := .later }
def DividesNextUptoCardSaid : Prop := Claim7.holds Tryd.pinned (.plain (OpenSpec.upto dividesNextSpec)) dividesNextUptoCard

/-- THE SECOND FORM's CARD OF 'burrowlaw03.DividesHalved'. -/
def dividesHalvedUptoCard : Claim7 := { stood := { row := dividesHalvedUptoRow, standIns := [], harness := (true, "e68a0de87b76e48aee03f5a6e41b2bf2636625afb58c1c88dc2356978b83dfc6"), looks := false }, kinds := [], alts := [], laidByText := true, laidKinds := [.data], laidTests := true, laidLooks := .later }
def DividesHalvedUptoCardSaid : Prop := Claim7.holds Tryd.pinned (.plain (OpenSpec.upto dividesHalvedSpec)) dividesHalvedUptoCard

/-- THE SECOND FORM's CARD OF 'burrowlaw03.DividesWhole'. -/
def dividesWholeUptoCard : Claim7 := { stood := { row := dividesWholeUptoRow, standIns := [], harness := (true, "e68a0de87b76e48aee03f5a6e41b2bf2636625afb58c1c88dc2356978b83dfc6"), looks := false }, kinds := [], alts := [], laidByText := true, laidKinds := [.data], laidTests := true, laidLooks := .later }
def DividesWholeUptoCardSaid : Prop := Claim7.holds Tryd.pinned (.plain (OpenSpec.upto dividesWholeSpec)) dividesWholeUptoCard

/-- THE SECOND FORM's CARD OF 'burrowlaw03.DividesCuts'. -/
def dividesCutsUptoCard : Claim7 := { stood := { row := dividesCutsUptoRow, standIns := [], harness := (true, "e68a0de87b76e48aee03f5a6e41b2bf2636625afb58c1c88dc2356978b83dfc6"), looks := false }, kinds := [], alts := [], laidByText := true, laidKinds := [.data], laidTests := true, laidLooks := .later }
def DividesCutsUptoCardSaid : Prop := Claim7.holds Tryd.pinned (.plain (OpenSpec.upto dividesCutsSpec)) dividesCutsUptoCard

/-- THE SECOND FORM's CARD OF 'burrowlaw03.DividesShared'. -/
def dividesSharedUptoCard : Claim7 := { stood := { row := dividesSharedUptoRow, standIns := [], harness := (true, "e68a0de87b76e48aee03f5a6e41b2bf2636625afb58c1c88dc2356978b83dfc6"), looks := false }, kinds := [], alts := [], laidByText := true, laidKinds := [.data], laidTests := true, laidLooks := .later }
def DividesSharedUptoCardSaid : Prop := Claim7.holds Tryd.pinned (.plain (OpenSpec.upto dividesSharedSpec)) dividesSharedUptoCard
end Rows
end Go.Proofs.YtdjabenccjeooaaDoor

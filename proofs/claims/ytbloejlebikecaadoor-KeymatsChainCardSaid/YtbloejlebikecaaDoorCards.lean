/-
  DERIVED. GIVEN WITH THE SEED: THE CARDS: each row of YtbloejlebikecaaDoorRows.lean that lists a variable, with what it lists TIED to the program's text (the seventh form; the later family's looks); each row that meets fmt, with fmt's text TOLD by the authors' own Lean function (tested against real Go, not proved from fmt's source: count such statements apart). THE CARD IS WHAT COUNTS. Prove the row's statement (the work); the ties are given (YtbloejlebikecaaDoorTie.lean); close each card by the builder's one call (the guide's Derived/Test/ToyasCard.lean, 'card_holds'). Laid BY PROGRAM, IN A SANDBOX (cutbox-door.mjs). By AI agents, Wed Nov 11 2026. No macro, syntax, notation, axiom, sorry.
-/
import Derived.Test.YtbloejlebikecaaDoorRows
import GoSem.ClaimSeven
namespace Go.Proofs.YtbloejlebikecaaDoor
namespace Rows

/-- THE TIED CARD OF 'burrowlaw10.KeymatsBegin'. -/
def keymatsBeginCard : Claim7 := { stood := { row := keymatsBeginRow, standIns := [], harness := (true, "413d2d9165d6a861e827f31d5fd2a830c6e764559ed4b40e6be2c68f15ad8539"), looks := false }, kinds := [], alts := [], laidByText := true, laidKinds := [.data], laidTests := true, laidLooks := .later }
def KeymatsBeginCardSaid : Prop := Claim7.holds Tryd.pinned (.plain (OpenSpec.ofChange keymatsBeginSpec)) keymatsBeginCard

/-- THE TIED CARD OF 'burrowlaw10.KeymatsChain'. -/
def keymatsChainCard : Claim7 := { stood := { row := keymatsChainRow, standIns := [], harness := (true, "413d2d9165d6a861e827f31d5fd2a830c6e764559ed4b40e6be2c68f15ad8539"), looks := false }, kinds := [], alts := [], laidByText := true, laidKinds := [.data], laidTests := true, laidLooks := .later }
def KeymatsChainCardSaid : Prop := Claim7.holds Tryd.pinned (.plain (OpenSpec.ofChange keymatsChainSpec)) keymatsChainCard

/-- THE TIED CARD OF 'burrowlaw10.KeymatsCut'. -/
def keymatsCutCard : Claim7 := { stood := { row := keymatsCutRow, standIns := [], harness := (true, "413d2d9165d6a861e827f31d5fd2a830c6e764559ed4b40e6be2c68f15ad8539"), looks := false }, kinds := [], alts := [], laidByText := true, laidKinds := [.data], laidTests := true, laidLooks := .later }
def KeymatsCutCardSaid : Prop := Claim7.holds Tryd.pinned (.plain (OpenSpec.ofChange keymatsCutSpec)) keymatsCutCard

/-- THE SECOND FORM's CARD OF 'burrowlaw10.KeymatsBegin'. -/
def keymatsBeginUptoCard : Claim7 := { stood := { row := keymatsBeginUptoRow, standIns := [], harness := (true, "413d2d9165d6a861e827f31d5fd2a830c6e764559ed4b40e6be2c68f15ad8539"), looks := false }, kinds := [], alts := [], laidByText := true, laidKinds := [.data], laidTests := true, laidLooks := .later }
def KeymatsBeginUptoCardSaid : Prop := Claim7.holds Tryd.pinned (.plain (OpenSpec.upto keymatsBeginSpec)) keymatsBeginUptoCard

/-- THE SECOND FORM's CARD OF 'burrowlaw10.KeymatsChain'. -/
def keymatsChainUptoCard : Claim7 := { stood := { row := keymatsChainUptoRow, standIns := [], harness := (true, "413d2d9165d6a861e827f31d5fd2a830c6e764559ed4b40e6be2c68f15ad8539"), looks := false }, kinds := [], alts := [], laidByText := true, laidKinds := [.data], laidTests := true, laidLooks := .later }
def KeymatsChainUptoCardSaid : Prop := Claim7.holds Tryd.pinned (.plain (OpenSpec.upto keymatsChainSpec)) keymatsChainUptoCard

/-- THE SECOND FORM's CARD OF 'burrowlaw10.KeymatsCut'. -/
def keymatsCutUptoCard : Claim7 := { stood := { row := keymatsCutUptoRow, standIns := [], harness := (true, "413d2d9165d6a861e827f31d5fd2a830c6e764559ed4b40e6be2c68f15ad8539"), looks := false }, kinds := [], alts := [], laidByText := true, laidKinds := [.data], laidTests := true, laidLooks := .later }
def KeymatsCutUptoCardSaid : Prop := Claim7.holds Tryd.pinned (.plain (OpenSpec.upto keymatsCutSpec)) keymatsCutUptoCard
end Rows
end Go.Proofs.YtbloejlebikecaaDoor

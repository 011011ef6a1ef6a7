/-
  DERIVED. GIVEN WITH THE SEED: THE CARDS: each row of YtioebjbjpjbodaaDoorRows.lean that lists a variable, with what it lists TIED to the program's text (the seventh form; the later family's looks); each row that meets fmt, with fmt's text TOLD by the authors' own Lean function (tested against real Go, not proved from fmt's source: count such statements apart). THE CARD IS WHAT COUNTS. Prove the row's statement (the work); the ties are given (YtioebjbjpjbodaaDoorTie.lean); close each card by the builder's one call (the guide's Derived/Test/ToyasCard.lean, 'card_holds'). Laid BY PROGRAM, IN A SANDBOX (cutbox-door.mjs). By AI agents, Wed Nov 11 2026. No macro, syntax, notation, axiom, sorry.
-/
import Derived.Test.YtioebjbjpjbodaaDoorRows
import GoSem.ClaimSeven
namespace Go.Proofs.YtioebjbjpjbodaaDoor
namespace Rows

/-- THE TIED CARD OF 'burrowlaw07.SigsBack'. -/
def sigsBackCard : Claim7 := { stood := { row := sigsBackRow, standIns := [], harness := (true, "0bd4c7dcd402eb55caa7f6fde567f9aca03e94c6cfdfc01814a6267b4821eb91"), looks := false }, kinds := [], alts := [], laidByText := true, laidKinds := [.data], laidTests := true, laidLooks := .later }
def SigsBackCardSaid : Prop := Claim7.holds Tryd.pinned (.plain (OpenSpec.ofChange sigsBackSpec)) sigsBackCard

/-- THE TIED CARD OF 'burrowlaw07.SigsBounds'. -/
def sigsBoundsCard : Claim7 := { stood := { row := sigsBoundsRow, standIns := [], harness := (true, "0bd4c7dcd402eb55caa7f6fde567f9aca03e94c6cfdfc01814a6267b4821eb91"), looks := false }, kinds := [], alts := [], laidByText := true, laidKinds := [.data], laidTests := true, laidLooks := .later }
def SigsBoundsCardSaid : Prop := Claim7.holds Tryd.pinned (.plain (OpenSpec.ofChange sigsBoundsSpec)) sigsBoundsCard

/-- THE SECOND FORM's CARD OF 'burrowlaw07.SigsBack'. -/
def sigsBackUptoCard : Claim7 := { stood := { row := sigsBackUptoRow, standIns := [], harness := (true, "0bd4c7dcd402eb55caa7f6fde567f9aca03e94c6cfdfc01814a6267b4821eb91"), looks := false }, kinds := [], alts := [], laidByText := true, laidKinds := [.data], laidTests := true, laidLooks := .later }
def SigsBackUptoCardSaid : Prop := Claim7.holds Tryd.pinned (.plain (OpenSpec.upto sigsBackSpec)) sigsBackUptoCard

/-- THE SECOND FORM's CARD OF 'burrowlaw07.SigsBounds'. -/
def sigsBoundsUptoCard : Claim7 := { stood := { row := sigsBoundsUptoRow, standIns := [], harness := (true, "0bd4c7dcd402eb55caa7f6fde567f9aca03e94c6cfdfc01814a6267b4821eb91"), looks := false }, kinds := [], alts := [], laidByText := true, laidKinds := [.data], laidTests := true, laidLooks := .later }
def SigsBoundsUptoCardSaid : Prop := Claim7.holds Tryd.pinned (.plain (OpenSpec.upto sigsBoundsSpec)) sigsBoundsUptoCard
end Rows
end Go.Proofs.YtioebjbjpjbodaaDoor

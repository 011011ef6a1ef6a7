/-
  DERIVED. GIVEN WITH THE SEED: THE CARDS: each row of YtikmhnlhaolbfaaDoorRows.lean that lists a variable, with what it lists TIED to the program's text (the seventh form; the later family's looks); each row that meets fmt, with fmt's text TOLD by the authors' own Lean function (tested against real Go, not proved from fmt's source: count such statements apart). THE CARD IS WHAT COUNTS. Prove the row's statement (the work); the ties are given (YtikmhnlhaolbfaaDoorTie.lean); close each card by the builder's one call (the guide's Derived/Test/ToyasCard.lean, 'card_holds'). Laid BY PROGRAM, IN A SANDBOX (cutbox-door.mjs). By AI agents, Wed Nov 11 2026. No macro, syntax, notation, axiom, sorry.
-/
import Derived.Test.YtikmhnlhaolbfaaDoorRows
import GoSem.ClaimSeven
namespace Go.Proofs.YtikmhnlhaolbfaaDoor
namespace Rows

/-- THE TIED CARD OF 'burrowlaw03.DividesReckoned'. -/
def dividesReckonedCard : Claim7 := { stood := { row := dividesReckonedRow, standIns := [], harness := (true, "99f18790e3d7c2d377c7721c57b5af0f7fdebfbc4b1e1ec35119f8103e48389c"), looks := false }, kinds := [], alts := [], laidByText := true, laidKinds := [.data], laidTests := true, laidLooks := .later }
def DividesReckonedCardSaid : Prop := Claim7.holds Tryd.pinned (.plain (OpenSpec.ofChange dividesReckonedSpec)) dividesReckonedCard

/-- THE TIED CARD OF 'burrowlaw03.DividesShared'. -/
def dividesSharedCard : Claim7 := { stood := { row := dividesSharedRow, standIns := [], harness := (true, "99f18790e3d7c2d377c7721c57b5af0f7fdebfbc4b1e1ec35119f8103e48389c"), looks := false }, kinds := [], alts := [], laidByText := true, laidKinds := [.data], laidTests := true, laidLooks := .later }
def DividesSharedCardSaid : Prop := Claim7.holds Tryd.pinned (.plain (OpenSpec.ofChange dividesSharedSpec)) dividesSharedCard

/-- THE TIED CARD OF 'burrowlaw04.ModsOver'. -/
def modsOverCard : Claim7 := { stood := { row := modsOverRow, standIns := [], harness := (true, "99f18790e3d7c2d377c7721c57b5af0f7fdebfbc4b1e1ec35119f8103e48389c"), looks := false }, kinds := [], alts := [], laidByText := true, laidKinds := [.data], laidTests := true, laidLooks := .later }
def ModsOverCardSaid : Prop := Claim7.holds Tryd.pinned (.plain (OpenSpec.ofChange modsOverSpec)) modsOverCard

/-- THE TIED CARD OF 'burrowlaw05.ShasOf'. -/
def shasOfCard : Claim7 := { stood := { row := shasOfRow, standIns := [], harness := (true, "99f18790e3d7c2d377c7721c57b5af0f7fdebfbc4b1e1ec35119f8103e48389c"), looks := false }, kinds := [], alts := [], laidByText := true, laidKinds := [.data], laidTests := true, laidLooks := .later }
def ShasOfCardSaid : Prop := Claim7.holds Tryd.pinned (.plain (OpenSpec.ofChange shasOfSpec)) shasOfCard

/-- THE TIED CARD OF 'burrowlaw05.ShasParts'. -/
def shasPartsCard : Claim7 := { stood := { row := shasPartsRow, standIns := [], harness := (true, "99f18790e3d7c2d377c7721c57b5af0f7fdebfbc4b1e1ec35119f8103e48389c"), looks := false }, kinds := [], alts := [], laidByText := true, laidKinds := [.data], laidTests := true, laidLooks := .later }
def ShasPartsCardSaid : Prop := Claim7.holds Tryd.pinned (.plain (OpenSpec.ofChange shasPartsSpec)) shasPartsCard

/-- THE TIED CARD OF 'burrowlaw05.ShasNone'. -/
def shasNoneCard : Claim7 := { stood := { row := shasNoneRow, standIns := [], harness := (true, "99f18790e3d7c2d377c7721c57b5af0f7fdebfbc4b1e1ec35119f8103e48389c"), looks := false }, kinds := [], alts := [], laidByText := true, laidKinds := [.data], laidTests := true, laidLooks := .later }
def ShasNoneCardSaid : Prop := Claim7.holds Tryd.pinned (.plain (OpenSpec.ofChange shasNoneSpec)) shasNoneCard

/-- THE TIED CARD OF 'burrowlaw05.ShasAs'. -/
def shasAsCard : Claim7 := { stood := { row := shasAsRow, standIns := [], harness := (true, "99f18790e3d7c2d377c7721c57b5af0f7fdebfbc4b1e1ec35119f8103e48389c"), looks := false }, kinds := [], alts := [], laidByText := true, laidKinds := [.data], laidTests := true, laidLooks := .later }
def ShasAsCardSaid : Prop := Claim7.holds Tryd.pinned (.plain (OpenSpec.ofChange shasAsSpec)) shasAsCard

/-- THE TIED CARD OF 'burrowlaw05.ShasCut'. -/
def shasCutCard : Claim7 := { stood := { row := shasCutRow, standIns := [], harness := (true, "99f18790e3d7c2d377c7721c57b5af0f7fdebfbc4b1e1ec35119f8103e48389c"), looks := false }, kinds := [], alts := [], laidByText := true, laidKinds := [.data], laidTests := true, laidLooks := .later }
def ShasCutCardSaid : Prop := Claim7.holds Tryd.pinned (.plain (OpenSpec.ofChange shasCutSpec)) shasCutCard

/-- THE TIED CARD OF 'burrowlaw05.ShasTwo'. -/
def shasTwoCard : Claim7 := { stood := { row := shasTwoRow, standIns := [], harness := (true, "99f18790e3d7c2d377c7721c57b5af0f7fdebfbc4b1e1ec35119f8103e48389c"), looks := false }, kinds := [], alts := [], laidByText := true, laidKinds := [.data], laidTests := true, laidLooks := .later }
def ShasTwoCardSaid : Prop := Claim7.holds Tryd.pinned (.plain (OpenSpec.ofChange shasTwoSpec)) shasTwoCard

/-- THE TIED CARD OF 'burrowlaw05.ShasBytes'. -/
def shasBytesCard : Claim7 := { stood := { row := shasBytesRow, standIns := [], harness := (true, "99f18790e3d7c2d377c7721c57b5af0f7fdebfbc4b1e1ec35119f8103e48389c"), looks := false }, kinds := [], alts := [], laidByText := true, laidKinds := [.data], laidTests := true, laidLooks := .later }
def ShasBytesCardSaid : Prop := Claim7.holds Tryd.pinned (.plain (OpenSpec.ofChange shasBytesSpec)) shasBytesCard

/-- THE TIED CARD OF 'burrowlaw05.ShasNumber'. -/
def shasNumberCard : Claim7 := { stood := { row := shasNumberRow, standIns := [], harness := (true, "99f18790e3d7c2d377c7721c57b5af0f7fdebfbc4b1e1ec35119f8103e48389c"), looks := false }, kinds := [], alts := [], laidByText := true, laidKinds := [.data], laidTests := true, laidLooks := .later }
def ShasNumberCardSaid : Prop := Claim7.holds Tryd.pinned (.plain (OpenSpec.ofChange shasNumberSpec)) shasNumberCard

/-- THE TIED CARD OF 'burrowlaw05.ShasHalves'. -/
def shasHalvesCard : Claim7 := { stood := { row := shasHalvesRow, standIns := [], harness := (true, "99f18790e3d7c2d377c7721c57b5af0f7fdebfbc4b1e1ec35119f8103e48389c"), looks := false }, kinds := [], alts := [], laidByText := true, laidKinds := [.data], laidTests := true, laidLooks := .later }
def ShasHalvesCardSaid : Prop := Claim7.holds Tryd.pinned (.plain (OpenSpec.ofChange shasHalvesSpec)) shasHalvesCard

/-- THE SECOND FORM's CARD OF 'burrowlaw03.DividesReckoned'. -/
def dividesReckonedUptoCard : Claim7 := { stood := { row := dividesReckonedUptoRow, standIns := [], harness := (true, "99f18790e3d7c2d377c7721c57b5af0f7fdebfbc4b1e1ec35119f8103e48389c"), looks := false }, kinds := [], alts := [], laidByText := true, laidKinds := [.data], laidTests := true, laidLooks := .later }
def DividesReckonedUptoCardSaid : Prop := Claim7.holds Tryd.pinned (.plain (OpenSpec.upto dividesReckonedSpec)) dividesReckonedUptoCard

/-- THE SECOND FORM's CARD OF 'burrowlaw03.DividesShared'. -/
def dividesSharedUptoCard : Claim7 := { stood := { row := dividesSharedUptoRow, standIns := [], harness := (true, "99f18790e3d7c2d377c7721c57b5af0f7fdebfbc4b1e1ec35119f8103e48389c"), looks := false }, kinds := [], alts := [], laidByText := true, laidKinds := [.data], laidTests := true, laidLooks := .later }
def DividesSharedUptoCardSaid : Prop := Claim7.holds Tryd.pinned (.plain (OpenSpec.upto dividesSharedSpec)) dividesSharedUptoCard

/-- THE SECOND FORM's CARD OF 'burrowlaw04.ModsOver'. -/
def modsOverUptoCard : Claim7 := { stood := { row := modsOverUptoRow, standIns := [], harness := (true, "99f18790e3d7c2d377c7721c57b5af0f7fdebfbc4b1e1ec35119f8103e48389c"), looks := false }, kinds := [], alts := [], laidByText := true, laidKinds := [.data], laidTests := true, laidLooks := .later }
def ModsOverUptoCardSaid : Prop := Claim7.holds Tryd.pinned (.plain (OpenSpec.upto modsOverSpec)) modsOverUptoCard

/-- THE SECOND FORM's CARD OF 'burrowlaw05.ShasOf'. -/
def shasOfUptoCard : Claim7 := { stood := { row := shasOfUptoRow, standIns := [], harness := (true, "99f18790e3d7c2d377c7721c57b5af0f7fdebfbc4b1e1ec35119f8103e48389c"), looks := false }, kinds := [], alts := [], laidByText := true, laidKinds := [.data], laidTests := true, laidLooks := .later }
def ShasOfUptoCardSaid : Prop := Claim7.holds Tryd.pinned (.plain (OpenSpec.upto shasOfSpec)) shasOfUptoCard

/-- THE SECOND FORM's CARD OF 'burrowlaw05.ShasParts'. -/
def shasPartsUptoCard : Claim7 := { stood := { row := shasPartsUptoRow, standIns := [], harness := (true, "99f18790e3d7c2d377c7721c57b5af0f7fdebfbc4b1e1ec35119f8103e48389c"), looks := false }, kinds := [], alts := [], laidByText := true, laidKinds := [.data], laidTests := true, laidLooks := .later }
def ShasPartsUptoCardSaid : Prop := Claim7.holds Tryd.pinned (.plain (OpenSpec.upto shasPartsSpec)) shasPartsUptoCard

/-- THE SECOND FORM's CARD OF 'burrowlaw05.ShasNone'. -/
def shasNoneUptoCard : Claim7 := { stood := { row := shasNoneUptoRow, standIns := [], harness := (true, "99f18790e3d7c2d377c7721c57b5af0f7fdebfbc4b1e1ec35119f8103e48389c"), looks := false }, kinds := [], alts := [], laidByText := true, laidKinds := [.data], laidTests := true, laidLooks := .later }
def ShasNoneUptoCardSaid : Prop := Claim7.holds Tryd.pinned (.plain (OpenSpec.upto shasNoneSpec)) shasNoneUptoCard

/-- THE SECOND FORM's CARD OF 'burrowlaw05.ShasAs'. -/
def shasAsUptoCard : Claim7 := { stood := { row := shasAsUptoRow, standIns := [], harness := (true, "99f18790e3d7c2d377c7721c57b5af0f7fdebfbc4b1e1ec35119f8103e48389c"), looks := false }, kinds := [], alts := [], laidByText := true, laidKinds := [.data], laidTests := true, laidLooks := .later }
def ShasAsUptoCardSaid : Prop := Claim7.holds Tryd.pinned (.plain (OpenSpec.upto shasAsSpec)) shasAsUptoCard

/-- THE SECOND FORM's CARD OF 'burrowlaw05.ShasCut'. -/
def shasCutUptoCard : Claim7 := { stood := { row := shasCutUptoRow, standIns := [], harness := (true, "99f18790e3d7c2d377c7721c57b5af0f7fdebfbc4b1e1ec35119f8103e48389c"), looks := false }, kinds := [], alts := [], laidByText := true, laidKinds := [.data], laidTests := true, laidLooks := .later }
def ShasCutUptoCardSaid : Prop := Claim7.holds Tryd.pinned (.plain (OpenSpec.upto shasCutSpec)) shasCutUptoCard

/-- THE SECOND FORM's CARD OF 'burrowlaw05.ShasTwo'. -/
def shasTwoUptoCard : Claim7 := { stood := { row := shasTwoUptoRow, standIns := [], harness := (true, "99f18790e3d7c2d377c7721c57b5af0f7fdebfbc4b1e1ec35119f8103e48389c"), looks := false }, kinds := [], alts := [], laidByText := true, laidKinds := [.data], laidTests := true, laidLooks := .later }
def ShasTwoUptoCardSaid : Prop := Claim7.holds Tryd.pinned (.plain (OpenSpec.upto shasTwoSpec)) shasTwoUptoCard

/-- THE SECOND FORM's CARD OF 'burrowlaw05.ShasBytes'. -/
def shasBytesUptoCard : Claim7 := { stood := { row := shasBytesUptoRow, standIns := [], harness := (true, "99f18790e3d7c2d377c7721c57b5af0f7fdebfbc4b1e1ec35119f8103e48389c"), looks := false }, kinds := [], alts := [], laidByText := true, laidKinds := [.data], laidTests := true, laidLooks := .later }
def ShasBytesUptoCardSaid : Prop := Claim7.holds Tryd.pinned (.plain (OpenSpec.upto shasBytesSpec)) shasBytesUptoCard

/-- THE SECOND FORM's CARD OF 'burrowlaw05.ShasNumber'. -/
def shasNumberUptoCard : Claim7 := { stood := { row := shasNumberUptoRow, standIns := [], harness := (true, "99f18790e3d7c2d377c7721c57b5af0f7fdebfbc4b1e1ec35119f8103e48389c"), looks := false }, kinds := [], alts := [], laidByText := true, laidKinds := [.data], laidTests := true, laidLooks := .later }
def ShasNumberUptoCardSaid : Prop := Claim7.holds Tryd.pinned (.plain (OpenSpec.upto shasNumberSpec)) shasNumberUptoCard

/-- THE SECOND FORM's CARD OF 'burrowlaw05.ShasHalves'. -/
def shasHalvesUptoCard : Claim7 := { stood := { row := shasHalvesUptoRow, standIns := [], harness := (true, "99f18790e3d7c2d377c7721c57b5af0f7fdebfbc4b1e1ec35119f8103e48389c"), looks := false }, kinds := [], alts := [], laidByText := true, laidKinds := [.data], laidTests := true, laidLooks := .later }
def ShasHalvesUptoCardSaid : Prop := Claim7.holds Tryd.pinned (.plain (OpenSpec.upto shasHalvesSpec)) shasHalvesUptoCard
end Rows
end Go.Proofs.YtikmhnlhaolbfaaDoor

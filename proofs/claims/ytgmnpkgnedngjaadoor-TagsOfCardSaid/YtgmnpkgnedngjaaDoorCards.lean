/-
  DERIVED. GIVEN WITH THE SEED: THE CARDS: each row of YtgmnpkgnedngjaaDoorRows.lean that lists a variable, with what it lists TIED to the program's text (the seventh form; the later family's looks); each row that meets fmt, with fmt's text TOLD by the authors' own Lean function (tested against real Go, not proved from fmt's source: count such statements apart). THE CARD IS WHAT COUNTS. Prove the row's statement (the work); the ties are given (YtgmnpkgnedngjaaDoorTie.lean); close each card by the builder's one call (the guide's Derived/Test/ToyasCard.lean, 'card_holds'). Laid BY PROGRAM, IN A SANDBOX (cutbox-door.mjs). By AI agents, Wed Nov 11 2026. No macro, syntax, notation, axiom, sorry.
-/
import Derived.Test.YtgmnpkgnedngjaaDoorRows
import GoSem.ClaimSeven
namespace Go.Proofs.YtgmnpkgnedngjaaDoor
namespace Rows

/-- THE TIED CARD OF 'burrowlaw12.TagsOf'. -/
def tagsOfCard : Claim7 := { stood := { row := tagsOfRow, standIns := [], harness := (true, "28b72ce3156eda57068485d403131d30f6e906f185df06c48fa69efb0ee85727"), looks := false }, kinds := [], alts := [], laidByText := true, laidKinds := [.data, .data], laidTests := true, laidLooks := .later }
def TagsOfCardSaid : Prop := Claim7.holds Tryd.pinned (.plain (OpenSpec.ofChange tagsOfSpec)) tagsOfCard

/-- THE TIED CARD OF 'burrowlaw12.TagsBack'. -/
def tagsBackCard : Claim7 := { stood := { row := tagsBackRow, standIns := [], harness := (true, "28b72ce3156eda57068485d403131d30f6e906f185df06c48fa69efb0ee85727"), looks := false }, kinds := [], alts := [], laidByText := true, laidKinds := [.data], laidTests := true, laidLooks := .later }
def TagsBackCardSaid : Prop := Claim7.holds Tryd.pinned (.plain (OpenSpec.ofChange tagsBackSpec)) tagsBackCard

/-- THE TIED CARD OF 'burrowlaw12.TagsParse'. -/
def tagsParseCard : Claim7 := { stood := { row := tagsParseRow, standIns := [], harness := (true, "28b72ce3156eda57068485d403131d30f6e906f185df06c48fa69efb0ee85727"), looks := false }, kinds := [], alts := [], laidByText := true, laidKinds := [.data], laidTests := true, laidLooks := .later }
def TagsParseCardSaid : Prop := Claim7.holds Tryd.pinned (.plain (OpenSpec.ofChange tagsParseSpec)) tagsParseCard

/-- THE TIED CARD OF 'burrowlaw12.TagsSum'. -/
def tagsSumCard : Claim7 := { stood := { row := tagsSumRow, standIns := [], harness := (true, "28b72ce3156eda57068485d403131d30f6e906f185df06c48fa69efb0ee85727"), looks := false }, kinds := [], alts := [], laidByText := true, laidKinds := [.data, .data], laidTests := true, laidLooks := .later }
def TagsSumCardSaid : Prop := Claim7.holds Tryd.pinned (.plain (OpenSpec.ofChange tagsSumSpec)) tagsSumCard

/-- THE SECOND FORM's CARD OF 'burrowlaw12.TagsOf'. -/
def tagsOfUptoCard : Claim7 := { stood := { row := tagsOfUptoRow, standIns := [], harness := (true, "28b72ce3156eda57068485d403131d30f6e906f185df06c48fa69efb0ee85727"), looks := false }, kinds := [], alts := [], laidByText := true, laidKinds := [.data, .data], laidTests := true, laidLooks := .later }
def TagsOfUptoCardSaid : Prop := Claim7.holds Tryd.pinned (.plain (OpenSpec.upto tagsOfSpec)) tagsOfUptoCard

/-- THE SECOND FORM's CARD OF 'burrowlaw12.TagsBack'. -/
def tagsBackUptoCard : Claim7 := { stood := { row := tagsBackUptoRow, standIns := [], harness := (true, "28b72ce3156eda57068485d403131d30f6e906f185df06c48fa69efb0ee85727"), looks := false }, kinds := [], alts := [], laidByText := true, laidKinds := [.data], laidTests := true, laidLooks := .later }
def TagsBackUptoCardSaid : Prop := Claim7.holds Tryd.pinned (.plain (OpenSpec.upto tagsBackSpec)) tagsBackUptoCard

/-- THE SECOND FORM's CARD OF 'burrowlaw12.TagsParse'. -/
def tagsParseUptoCard : Claim7 := { stood := { row := tagsParseUptoRow, standIns := [], harness := (true, "28b72ce3156eda57068485d403131d30f6e906f185df06c48fa69efb0ee85727"), looks := false }, kinds := [], alts := [], laidByText := true, laidKinds := [.data], laidTests := true, laidLooks := .later }
def TagsParseUptoCardSaid : Prop := Claim7.holds Tryd.pinned (.plain (OpenSpec.upto tagsParseSpec)) tagsParseUptoCard

/-- THE SECOND FORM's CARD OF 'burrowlaw12.TagsSum'. -/
def tagsSumUptoCard : Claim7 := { stood := { row := tagsSumUptoRow, standIns := [], harness := (true, "28b72ce3156eda57068485d403131d30f6e906f185df06c48fa69efb0ee85727"), looks := false }, kinds := [], alts := [], laidByText := true, laidKinds := [.data, .data], laidTests := true, laidLooks := .later }
def TagsSumUptoCardSaid : Prop := Claim7.holds Tryd.pinned (.plain (OpenSpec.upto tagsSumSpec)) tagsSumUptoCard
end Rows
end Go.Proofs.YtgmnpkgnedngjaaDoor

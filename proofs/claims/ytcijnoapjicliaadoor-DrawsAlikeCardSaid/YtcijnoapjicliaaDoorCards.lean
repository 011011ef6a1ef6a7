/-
  DERIVED. GIVEN WITH THE SEED: THE CARDS: each row of YtcijnoapjicliaaDoorRows.lean that lists a variable, with what it lists TIED to the program's text (the seventh form; the later family's looks); each row that meets fmt, with fmt's text TOLD by the authors' own Lean function (tested against real Go, not proved from fmt's source: count such statements apart). THE CARD IS WHAT COUNTS. Prove the row's statement (the work); the ties are given (YtcijnoapjicliaaDoorTie.lean); close each card by the builder's one call (the guide's Derived/Test/ToyasCard.lean, 'card_holds'). Laid BY PROGRAM, IN A SANDBOX (cutbox-door.mjs). By AI agents, Wed Nov 11 2026. No macro, syntax, notation, axiom, sorry.
-/
import Derived.Test.YtcijnoapjicliaaDoorRows
import GoSem.ClaimSeven
namespace Go.Proofs.YtcijnoapjicliaaDoor
namespace Rows

/-- THE TIED CARD OF 'burrowlaw11.DrawsPlay'. -/
def drawsPlayCard : Claim7 := { stood := { row := drawsPlayRow, standIns := [], harness := (true, "826dfdb436720374df021ceeca0420d7e5e6172e053a1621a1946d6f1a119324"), looks := false }, kinds := [], alts := [], laidByText := true, laidKinds := [.data], laidTests := true, laidLooks := .later }
def DrawsPlayCardSaid : Prop := Claim7.holds Tryd.pinned (.plain (OpenSpec.ofChange drawsPlaySpec)) drawsPlayCard

/-- THE TIED CARD OF 'burrowlaw11.DrawsNone'. -/
def drawsNoneCard : Claim7 := { stood := { row := drawsNoneRow, standIns := [], harness := (true, "826dfdb436720374df021ceeca0420d7e5e6172e053a1621a1946d6f1a119324"), looks := false }, kinds := [], alts := [], laidByText := true, laidKinds := [.data], laidTests := true, laidLooks := .later }
def DrawsNoneCardSaid : Prop := Claim7.holds Tryd.pinned (.plain (OpenSpec.ofChange drawsNoneSpec)) drawsNoneCard

/-- THE TIED CARD OF 'burrowlaw11.DrawsAlike'. -/
def drawsAlikeCard : Claim7 := { stood := { row := drawsAlikeRow, standIns := [], harness := (true, "826dfdb436720374df021ceeca0420d7e5e6172e053a1621a1946d6f1a119324"), looks := false }, kinds := [], alts := [], laidByText := true, laidKinds := [.data], laidTests := true, laidLooks := .later }
def DrawsAlikeCardSaid : Prop := Claim7.holds Tryd.pinned (.plain (OpenSpec.ofChange drawsAlikeSpec)) drawsAlikeCard

/-- THE TIED CARD OF 'burrowlaw11.DrawsWithin'. -/
def drawsWithinCard : Claim7 := { stood := { row := drawsWithinRow, standIns := [], harness := (true, "826dfdb436720374df021ceeca0420d7e5e6172e053a1621a1946d6f1a119324"), looks := false }, kinds := [], alts := [], laidByText := true, laidKinds := [.data], laidTests := true, laidLooks := .later }
def DrawsWithinCardSaid : Prop := Claim7.holds Tryd.pinned (.plain (OpenSpec.ofChange drawsWithinSpec)) drawsWithinCard

/-- THE TIED CARD OF 'burrowlaw11.DrawsTurns'. -/
def drawsTurnsCard : Claim7 := { stood := { row := drawsTurnsRow, standIns := [], harness := (true, "826dfdb436720374df021ceeca0420d7e5e6172e053a1621a1946d6f1a119324"), looks := false }, kinds := [], alts := [], laidByText := true, laidKinds := [.data], laidTests := true, laidLooks := .later }
def DrawsTurnsCardSaid : Prop := Claim7.holds Tryd.pinned (.plain (OpenSpec.ofChange drawsTurnsSpec)) drawsTurnsCard

/-- THE SECOND FORM's CARD OF 'burrowlaw11.DrawsPlay'. -/
def drawsPlayUptoCard : Claim7 := { stood := { row := drawsPlayUptoRow, standIns := [], harness := (true, "826dfdb436720374df021ceeca0420d7e5e6172e053a1621a1946d6f1a119324"), looks := false }, kinds := [], alts := [], laidByText := true, laidKinds := [.data], laidTests := true, laidLooks := .later }
def DrawsPlayUptoCardSaid : Prop := Claim7.holds Tryd.pinned (.plain (OpenSpec.upto drawsPlaySpec)) drawsPlayUptoCard

/-- THE SECOND FORM's CARD OF 'burrowlaw11.DrawsNone'. -/
def drawsNoneUptoCard : Claim7 := { stood := { row := drawsNoneUptoRow, standIns := [], harness := (true, "826dfdb436720374df021ceeca0420d7e5e6172e053a1621a1946d6f1a119324"), looks := false }, kinds := [], alts := [], laidByText := true, laidKinds := [.data], laidTests := true, laidLooks := .later }
def DrawsNoneUptoCardSaid : Prop := Claim7.holds Tryd.pinned (.plain (OpenSpec.upto drawsNoneSpec)) drawsNoneUptoCard

/-- THE SECOND FORM's CARD OF 'burrowlaw11.DrawsAlike'. -/
def drawsAlikeUptoCard : Claim7 := { stood := { row := drawsAlikeUptoRow, standIns := [], harness := (true, "826dfdb436720374df021ceeca0420d7e5e6172e053a1621a1946d6f1a119324"), looks := false }, kinds := [], alts := [], laidByText := true, laidKinds := [.data], laidTests := true, laidLooks := .later }
def DrawsAlikeUptoCardSaid : Prop := Claim7.holds Tryd.pinned (.plain (OpenSpec.upto drawsAlikeSpec)) drawsAlikeUptoCard

/-- THE SECOND FORM's CARD OF 'burrowlaw11.DrawsWithin'. -/
def drawsWithinUptoCard : Claim7 := { stood := { row := drawsWithinUptoRow, standIns := [], harness := (true, "826dfdb436720374df021ceeca0420d7e5e6172e053a1621a1946d6f1a119324"), looks := false }, kinds := [], alts := [], laidByText := true, laidKinds := [.data], laidTests := true, laidLooks := .later }
def DrawsWithinUptoCardSaid : Prop := Claim7.holds Tryd.pinned (.plain (OpenSpec.upto drawsWithinSpec)) drawsWithinUptoCard

/-- THE SECOND FORM's CARD OF 'burrowlaw11.DrawsTurns'. -/
def drawsTurnsUptoCard : Claim7 := { stood := { row := drawsTurnsUptoRow, standIns := [], harness := (true, "826dfdb436720374df021ceeca0420d7e5e6172e053a1621a1946d6f1a119324"), looks := false }, kinds := [], alts := [], laidByText := true, laidKinds := [.data], laidTests := true, laidLooks := .later }
def DrawsTurnsUptoCardSaid : Prop := Claim7.holds Tryd.pinned (.plain (OpenSpec.upto drawsTurnsSpec)) drawsTurnsUptoCard
end Rows
end Go.Proofs.YtcijnoapjicliaaDoor

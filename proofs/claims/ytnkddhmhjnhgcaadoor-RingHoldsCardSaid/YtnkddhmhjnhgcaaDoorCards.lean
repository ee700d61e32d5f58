/-
  DERIVED. GIVEN WITH THE SEED: THE CARDS: each row of YtnkddhmhjnhgcaaDoorRows.lean that lists a variable, with what it lists TIED to the program's text (the seventh form; the later family's looks); each row that meets fmt, with fmt's text TOLD by the authors' own Lean function (tested against real Go, not proved from fmt's source: count such statements apart). THE CARD IS WHAT COUNTS. Prove the row's statement (the work); the ties are given (YtnkddhmhjnhgcaaDoorTie.lean); close each card by the builder's one call (the guide's Derived/Test/ToyasCard.lean, 'card_holds'). Laid BY PROGRAM, IN A SANDBOX (cutbox-door.mjs). By AI agents, Wed Nov 11 2026. No macro, syntax, notation, axiom, sorry.
-/
import Derived.Test.YtnkddhmhjnhgcaaDoorRows
import GoSem.ClaimSeven
namespace Go.Proofs.YtnkddhmhjnhgcaaDoor
namespace Rows

/-- THE TIED CARD OF 'scrollbacklaw08.RingLongs'. -/
def ringLongsCard : Claim7 := { stood := { row := ringLongsRow, standIns := [], harness := (true, "b5154a784b784d9d2800565160e22321bd80490c7e3716002d37ad21f05fe2db"), looks := true }, kinds := [], alts := [], laidByText := true, laidKinds := [.data, .data], laidTests := true, laidLooks := .later }
def RingLongsCardSaid : Prop := Claim7.holds Tryd.pinned (.plain (OpenSpec.ofChange ringLongsSpec)) ringLongsCard

/-- THE TIED CARD OF 'scrollbacklaw08.RingHolds'. -/
def ringHoldsCard : Claim7 := { stood := { row := ringHoldsRow, standIns := [], harness := (true, "b5154a784b784d9d2800565160e22321bd80490c7e3716002d37ad21f05fe2db"), looks := true }, kinds := [], alts := [], laidByText := true, laidKinds := [.data, .data], laidTests := true, laidLooks := .later }
def RingHoldsCardSaid : Prop := Claim7.holds Tryd.pinned (.plain (OpenSpec.ofChange ringHoldsSpec)) ringHoldsCard

/-- THE TIED CARD OF 'scrollbacklaw09.PlaceCompares'. -/
def placeComparesCard : Claim7 := { stood := { row := placeComparesRow, standIns := [], harness := (true, "b5154a784b784d9d2800565160e22321bd80490c7e3716002d37ad21f05fe2db"), looks := true }, kinds := [], alts := [], laidByText := true, laidKinds := [.data, .data, .data, .sentinel, .sentinel], laidTests := true, laidLooks := .later }
def PlaceComparesCardSaid : Prop := Claim7.holds Tryd.pinned (.plain (OpenSpec.ofChange placeComparesSpec)) placeComparesCard

/-- THE TIED CARD OF 'scrollbacklaw09.PlaceClamps'. -/
def placeClampsCard : Claim7 := { stood := { row := placeClampsRow, standIns := [], harness := (true, "b5154a784b784d9d2800565160e22321bd80490c7e3716002d37ad21f05fe2db"), looks := true }, kinds := [], alts := [], laidByText := true, laidKinds := [.data, .data, .data, .sentinel, .sentinel], laidTests := true, laidLooks := .later }
def PlaceClampsCardSaid : Prop := Claim7.holds Tryd.pinned (.plain (OpenSpec.ofChange placeClampsSpec)) placeClampsCard

/-- THE TIED CARD OF 'scrollbacklaw09.PlaceSteps'. -/
def placeStepsCard : Claim7 := { stood := { row := placeStepsRow, standIns := [], harness := (true, "b5154a784b784d9d2800565160e22321bd80490c7e3716002d37ad21f05fe2db"), looks := true }, kinds := [], alts := [], laidByText := true, laidKinds := [.data, .data, .data, .sentinel, .sentinel], laidTests := true, laidLooks := .later }
def PlaceStepsCardSaid : Prop := Claim7.holds Tryd.pinned (.plain (OpenSpec.ofChange placeStepsSpec)) placeStepsCard

/-- THE SECOND FORM's CARD OF 'scrollbacklaw08.RingLongs'. -/
def ringLongsUptoCard : Claim7 := { stood := { row := ringLongsUptoRow, standIns := [], harness := (true, "b5154a784b784d9d2800565160e22321bd80490c7e3716002d37ad21f05fe2db"), looks := true }, kinds := [], alts := [], laidByText := true, laidKinds := [.data, .data], laidTests := true, laidLooks := .later }
def RingLongsUptoCardSaid : Prop := Claim7.holds Tryd.pinned (.plain (OpenSpec.upto ringLongsSpec)) ringLongsUptoCard

/-- THE SECOND FORM's CARD OF 'scrollbacklaw08.RingHolds'. -/
def ringHoldsUptoCard : Claim7 := { stood := { row := ringHoldsUptoRow, standIns := [], harness := (true, "b5154a784b784d9d2800565160e22321bd80490c7e3716002d37ad21f05fe2db"), looks := true }, kinds := [], alts := [], laidByText := true, laidKinds := [.data, .data], laidTests := true, laidLooks := .later }
def RingHoldsUptoCardSaid : Prop := Claim7.holds Tryd.pinned (.plain (OpenSpec.upto ringHoldsSpec)) ringHoldsUptoCard

/-- THE SECOND FORM's CARD OF 'scrollbacklaw09.PlaceCompares'. -/
def placeComparesUptoCard : Claim7 := { stood := { row := placeComparesUptoRow, standIns := [], harness := (true, "b5154a784b784d9d2800565160e22321bd80490c7e3716002d37ad21f05fe2db"), looks := true }, kinds := [], alts := [], laidByText := true, laidKinds := [.data, .data, .data, .sentinel, .sentinel], laidTests := true, laidLooks := .later }
def PlaceComparesUptoCardSaid : Prop := Claim7.holds Tryd.pinned (.plain (OpenSpec.upto placeComparesSpec)) placeComparesUptoCard

/-- THE SECOND FORM's CARD OF 'scrollbacklaw09.PlaceClamps'. -/
def placeClampsUptoCard : Claim7 := { stood := { row := placeClampsUptoRow, standIns := [], harness := (true, "b5154a784b784d9d2800565160e22321bd80490c7e3716002d37ad21f05fe2db"), looks := true }, kinds := [], alts := [], laidByText := true, laidKinds := [.data, .data, .data, .sentinel, .sentinel], laidTests := true, laidLooks := .later }
def PlaceClampsUptoCardSaid : Prop := Claim7.holds Tryd.pinned (.plain (OpenSpec.upto placeClampsSpec)) placeClampsUptoCard

/-- THE SECOND FORM's CARD OF 'scrollbacklaw09.PlaceSteps'. -/
def placeStepsUptoCard : Claim7 := { stood := { row := placeStepsUptoRow, standIns := [], harness := (true, "b5154a784b784d9d2800565160e22321bd80490c7e3716002d37ad21f05fe2db"), looks := true }, kinds := [], alts := [], laidByText := true, laidKinds := [.data, .data, .data, .sentinel, .sentinel], laidTests := true, laidLooks := .later }
def PlaceStepsUptoCardSaid : Prop := Claim7.holds Tryd.pinned (.plain (OpenSpec.upto placeStepsSpec)) placeStepsUptoCard
end Rows
end Go.Proofs.YtnkddhmhjnhgcaaDoor

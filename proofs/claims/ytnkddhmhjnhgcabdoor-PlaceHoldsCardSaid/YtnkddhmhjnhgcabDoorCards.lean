/-
  DERIVED. GIVEN WITH THE SEED: THE CARDS: each row of YtnkddhmhjnhgcabDoorRows.lean that lists a variable, with what it lists TIED to the program's text (the seventh form; the later family's looks); each row that meets fmt, with fmt's text TOLD by the authors' own Lean function (tested against real Go, not proved from fmt's source: count such statements apart). THE CARD IS WHAT COUNTS. Prove the row's statement (the work); the ties are given (YtnkddhmhjnhgcabDoorTie.lean); close each card by the builder's one call (the guide's Derived/Test/ToyasCard.lean, 'card_holds'). Laid BY PROGRAM, IN A SANDBOX (cutbox-door.mjs). By AI agents, Wed Nov 11 2026. No macro, syntax, notation, axiom, sorry.
-/
import Derived.Test.YtnkddhmhjnhgcabDoorRows
import GoSem.ClaimSeven
namespace Go.Proofs.YtnkddhmhjnhgcabDoor
namespace Rows

/-- THE TIED CARD OF 'scrollbacklaw09.PlaceTexts'. -/
def placeTextsCard : Claim7 := { stood := { row := placeTextsRow, standIns := [], harness := (true, "36b8732c7c13b14b9f6dd7db8ad2d0955f56c1d6d8a22d2ce9584bacd64189ae"), looks := true }, kinds := [], alts := [], laidByText := true, laidKinds := [.data, .data, .data, .sentinel, .sentinel], laidTests := true, laidLooks := .later }
def PlaceTextsCardSaid : Prop := Claim7.holds Tryd.pinned (.plain (OpenSpec.ofChange placeTextsSpec)) placeTextsCard

/-- THE TIED CARD OF 'scrollbacklaw09.PlaceHolds'. -/
def placeHoldsCard : Claim7 := { stood := { row := placeHoldsRow, standIns := [], harness := (true, "36b8732c7c13b14b9f6dd7db8ad2d0955f56c1d6d8a22d2ce9584bacd64189ae"), looks := true }, kinds := [], alts := [], laidByText := true, laidKinds := [.data, .data, .data, .sentinel, .sentinel], laidTests := true, laidLooks := .later }
def PlaceHoldsCardSaid : Prop := Claim7.holds Tryd.pinned (.plain (OpenSpec.ofChange placeHoldsSpec)) placeHoldsCard

/-- THE SECOND FORM's CARD OF 'scrollbacklaw09.PlaceTexts'. -/
def placeTextsUptoCard : Claim7 := { stood := { row := placeTextsUptoRow, standIns := [], harness := (true, "36b8732c7c13b14b9f6dd7db8ad2d0955f56c1d6d8a22d2ce9584bacd64189ae"), looks := true }, kinds := [], alts := [], laidByText := true, laidKinds := [.data, .data, .data, .sentinel, .sentinel], laidTests := true, laidLooks := .later }
def PlaceTextsUptoCardSaid : Prop := Claim7.holds Tryd.pinned (.plain (OpenSpec.upto placeTextsSpec)) placeTextsUptoCard

/-- THE SECOND FORM's CARD OF 'scrollbacklaw09.PlaceHolds'. -/
def placeHoldsUptoCard : Claim7 := { stood := { row := placeHoldsUptoRow, standIns := [], harness := (true, "36b8732c7c13b14b9f6dd7db8ad2d0955f56c1d6d8a22d2ce9584bacd64189ae"), looks := true }, kinds := [], alts := [], laidByText := true, laidKinds := [.data, .data, .data, .sentinel, .sentinel], laidTests := true, laidLooks := .later }
def PlaceHoldsUptoCardSaid : Prop := Claim7.holds Tryd.pinned (.plain (OpenSpec.upto placeHoldsSpec)) placeHoldsUptoCard
end Rows
end Go.Proofs.YtnkddhmhjnhgcabDoor

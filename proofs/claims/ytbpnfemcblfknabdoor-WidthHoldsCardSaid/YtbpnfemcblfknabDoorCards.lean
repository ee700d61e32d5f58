/-
  DERIVED. GIVEN WITH THE SEED: THE CARDS: each row of YtbpnfemcblfknabDoorRows.lean that lists a variable, with what it lists TIED to the program's text (the seventh form; the later family's looks); each row that meets fmt, with fmt's text TOLD by the authors' own Lean function (tested against real Go, not proved from fmt's source: count such statements apart). THE CARD IS WHAT COUNTS. Prove the row's statement (the work); the ties are given (YtbpnfemcblfknabDoorTie.lean); close each card by the builder's one call (the guide's Derived/Test/ToyasCard.lean, 'card_holds'). Laid BY PROGRAM, IN A SANDBOX (cutbox-door.mjs). By AI agents, Wed Nov 11 2026. No macro, syntax, notation, axiom, sorry.
-/
import Derived.Test.YtbpnfemcblfknabDoorRows
import GoSem.ClaimSeven
namespace Go.Proofs.YtbpnfemcblfknabDoor
namespace Rows

/-- THE TIED CARD OF 'scrollbacklaw02.WidthOf'. -/
def widthOfCard : Claim7 := { stood := { row := widthOfRow, standIns := [], harness := (true, "b15e8f8ea964a1383abbc2f1e5bac88c596706203cfb3d8a95da1ba34ea3b833"), looks := false }, kinds := [], alts := [], laidByText := true, laidKinds := [.data, .data], laidTests := true, laidLooks := .later }
def WidthOfCardSaid : Prop := Claim7.holds Tryd.pinned (.plain (OpenSpec.ofChange widthOfSpec)) widthOfCard

/-- THE TIED CARD OF 'scrollbacklaw02.WidthRows'. -/
def widthRowsCard : Claim7 := { stood := { row := widthRowsRow, standIns := [], harness := (true, "b15e8f8ea964a1383abbc2f1e5bac88c596706203cfb3d8a95da1ba34ea3b833"), looks := false }, kinds := [], alts := [], laidByText := true, laidKinds := [.data, .data], laidTests := true, laidLooks := .later }
def WidthRowsCardSaid : Prop := Claim7.holds Tryd.pinned (.plain (OpenSpec.ofChange widthRowsSpec)) widthRowsCard

/-- THE TIED CARD OF 'scrollbacklaw02.WidthTables'. -/
def widthTablesCard : Claim7 := { stood := { row := widthTablesRow, standIns := [], harness := (true, "b15e8f8ea964a1383abbc2f1e5bac88c596706203cfb3d8a95da1ba34ea3b833"), looks := false }, kinds := [], alts := [], laidByText := true, laidKinds := [.data, .data], laidTests := true, laidLooks := .later }
def WidthTablesCardSaid : Prop := Claim7.holds Tryd.pinned (.plain (OpenSpec.ofChange widthTablesSpec)) widthTablesCard

/-- THE TIED CARD OF 'scrollbacklaw02.WidthHolds'. -/
def widthHoldsCard : Claim7 := { stood := { row := widthHoldsRow, standIns := [], harness := (true, "b15e8f8ea964a1383abbc2f1e5bac88c596706203cfb3d8a95da1ba34ea3b833"), looks := false }, kinds := [], alts := [], laidByText := true, laidKinds := [.data, .data], laidTests := true, laidLooks := .later }
def WidthHoldsCardSaid : Prop := Claim7.holds Tryd.pinned (.plain (OpenSpec.ofChange widthHoldsSpec)) widthHoldsCard

/-- THE SECOND FORM's CARD OF 'scrollbacklaw02.WidthOf'. -/
def widthOfUptoCard : Claim7 := { stood := { row := widthOfUptoRow, standIns := [], harness := (true, "b15e8f8ea964a1383abbc2f1e5bac88c596706203cfb3d8a95da1ba34ea3b833"), looks := false }, kinds := [], alts := [], laidByText := true, laidKinds := [.data, .data], laidTests := true, laidLooks := .later }
def WidthOfUptoCardSaid : Prop := Claim7.holds Tryd.pinned (.plain (OpenSpec.upto widthOfSpec)) widthOfUptoCard

/-- THE SECOND FORM's CARD OF 'scrollbacklaw02.WidthRows'. -/
def widthRowsUptoCard : Claim7 := { stood := { row := widthRowsUptoRow, standIns := [], harness := (true, "b15e8f8ea964a1383abbc2f1e5bac88c596706203cfb3d8a95da1ba34ea3b833"), looks := false }, kinds := [], alts := [], laidByText := true, laidKinds := [.data, .data], laidTests := true, laidLooks := .later }
def WidthRowsUptoCardSaid : Prop := Claim7.holds Tryd.pinned (.plain (OpenSpec.upto widthRowsSpec)) widthRowsUptoCard

/-- THE SECOND FORM's CARD OF 'scrollbacklaw02.WidthTables'. -/
def widthTablesUptoCard : Claim7 := { stood := { row := widthTablesUptoRow, standIns := [], harness := (true, "b15e8f8ea964a1383abbc2f1e5bac88c596706203cfb3d8a95da1ba34ea3b833"), looks := false }, kinds := [], alts := [], laidByText := true, laidKinds := [.data, .data], laidTests := true, laidLooks := .later }
def WidthTablesUptoCardSaid : Prop := Claim7.holds Tryd.pinned (.plain (OpenSpec.upto widthTablesSpec)) widthTablesUptoCard

/-- THE SECOND FORM's CARD OF 'scrollbacklaw02.WidthHolds'. -/
def widthHoldsUptoCard : Claim7 := { stood := { row := widthHoldsUptoRow, standIns := [], harness := (true, "b15e8f8ea964a1383abbc2f1e5bac88c596706203cfb3d8a95da1ba34ea3b833"), looks := false }, kinds := [], alts := [], laidByText := true, laidKinds := [.data, .data], laidTests := true, laidLooks := .later }
def WidthHoldsUptoCardSaid : Prop := Claim7.holds Tryd.pinned (.plain (OpenSpec.upto widthHoldsSpec)) widthHoldsUptoCard
end Rows
end Go.Proofs.YtbpnfemcblfknabDoor

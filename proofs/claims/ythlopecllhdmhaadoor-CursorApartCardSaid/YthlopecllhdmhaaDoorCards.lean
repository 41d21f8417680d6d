/-
  DERIVED. GIVEN WITH THE SEED: THE CARDS: each row of YthlopecllhdmhaaDoorRows.lean that lists a variable, with what it lists TIED to the program's text (the seventh form; the later family's looks); each row that meets fmt, with fmt's text TOLD by the authors' own Lean function (tested against real Go, not proved from fmt's source: count such statements apart). THE CARD IS WHAT COUNTS. Prove the row's statement (the work); the ties are given (YthlopecllhdmhaaDoorTie.lean); close each card by the builder's one call (the guide's Derived/Test/ToyasCard.lean, 'card_holds'). Laid BY PROGRAM, IN A SANDBOX (cutbox-door.mjs). By AI agents, Wed Nov 11 2026. No macro, syntax, notation, axiom, sorry.
-/
import Derived.Test.YthlopecllhdmhaaDoorRows
import GoSem.ClaimSeven
namespace Go.Proofs.YthlopecllhdmhaaDoor
namespace Rows

/-- THE TIED CARD OF 'minsterlaw10.CursorBytes'. -/
def cursorBytesCard : Claim7 := { stood := { row := cursorBytesRow, standIns := [], harness := (true, "4717c6c27700001ffdf2f1cb499ba6055f2d1b90d4c9fc31335fe9f6f57e0dff"), looks := false }, kinds := [], alts := [], laidByText := true, laidKinds := [.data, .data], laidTests := true, laidLooks := .later }
def CursorBytesCardSaid : Prop := Claim7.holds Tryd.pinned (.plain (OpenSpec.ofChange cursorBytesSpec)) cursorBytesCard

/-- THE TIED CARD OF 'minsterlaw10.CursorJoins'. -/
def cursorJoinsCard : Claim7 := { stood := { row := cursorJoinsRow, standIns := [], harness := (true, "4717c6c27700001ffdf2f1cb499ba6055f2d1b90d4c9fc31335fe9f6f57e0dff"), looks := false }, kinds := [], alts := [], laidByText := true, laidKinds := [.data, .data], laidTests := true, laidLooks := .later }
def CursorJoinsCardSaid : Prop := Claim7.holds Tryd.pinned (.plain (OpenSpec.ofChange cursorJoinsSpec)) cursorJoinsCard

/-- THE TIED CARD OF 'minsterlaw10.CursorApart'. -/
def cursorApartCard : Claim7 := { stood := { row := cursorApartRow, standIns := [], harness := (true, "4717c6c27700001ffdf2f1cb499ba6055f2d1b90d4c9fc31335fe9f6f57e0dff"), looks := false }, kinds := [], alts := [], laidByText := true, laidKinds := [.data, .data], laidTests := true, laidLooks := .later }
def CursorApartCardSaid : Prop := Claim7.holds Tryd.pinned (.plain (OpenSpec.ofChange cursorApartSpec)) cursorApartCard

/-- THE SECOND FORM's CARD OF 'minsterlaw10.CursorBytes'. -/
def cursorBytesUptoCard : Claim7 := { stood := { row := cursorBytesUptoRow, standIns := [], harness := (true, "4717c6c27700001ffdf2f1cb499ba6055f2d1b90d4c9fc31335fe9f6f57e0dff"), looks := false }, kinds := [], alts := [], laidByText := true, laidKinds := [.data, .data], laidTests := true, laidLooks := .later }
def CursorBytesUptoCardSaid : Prop := Claim7.holds Tryd.pinned (.plain (OpenSpec.upto cursorBytesSpec)) cursorBytesUptoCard

/-- THE SECOND FORM's CARD OF 'minsterlaw10.CursorJoins'. -/
def cursorJoinsUptoCard : Claim7 := { stood := { row := cursorJoinsUptoRow, standIns := [], harness := (true, "4717c6c27700001ffdf2f1cb499ba6055f2d1b90d4c9fc31335fe9f6f57e0dff"), looks := false }, kinds := [], alts := [], laidByText := true, laidKinds := [.data, .data], laidTests := true, laidLooks := .later }
def CursorJoinsUptoCardSaid : Prop := Claim7.holds Tryd.pinned (.plain (OpenSpec.upto cursorJoinsSpec)) cursorJoinsUptoCard

/-- THE SECOND FORM's CARD OF 'minsterlaw10.CursorApart'. -/
def cursorApartUptoCard : Claim7 := { stood := { row := cursorApartUptoRow, standIns := [], harness := (true, "4717c6c27700001ffdf2f1cb499ba6055f2d1b90d4c9fc31335fe9f6f57e0dff"), looks := false }, kinds := [], alts := [], laidByText := true, laidKinds := [.data, .data], laidTests := true, laidLooks := .later }
def CursorApartUptoCardSaid : Prop := Claim7.holds Tryd.pinned (.plain (OpenSpec.upto cursorApartSpec)) cursorApartUptoCard
end Rows
end Go.Proofs.YthlopecllhdmhaaDoor

/-
  DERIVED. GIVEN WITH THE SEED: THE CARDS: each row of YtibifnknkphanaaGreatDoorRows.lean that lists a variable, with what it lists TIED to the program's text (the seventh form; the later family's looks); each row that meets fmt, with fmt's text TOLD by the authors' own Lean function (tested against real Go, not proved from fmt's source: count such statements apart). THE CARD IS WHAT COUNTS. Prove the row's statement (the work); the ties are given (YtibifnknkphanaaGreatDoorTie.lean); close each card by the builder's one call (the guide's Derived/Test/ToyasCard.lean, 'card_holds'). Laid BY PROGRAM, IN A SANDBOX (cutbox-door.mjs). By AI agents, Wed Nov 11 2026. No macro, syntax, notation, axiom, sorry.
-/
import Derived.Test.YtibifnknkphanaaGreatDoorRows
import GoSem.ClaimSeven
namespace Go.Proofs.YtibifnknkphanaaGreatDoor
namespace Rows

/-- THE TIED CARD OF 'minsterlaw06.WalBytes'. -/
def walBytesCard : Claim7 := { stood := { row := walBytesRow, standIns := [], harness := (true, "d1d9399a42262aac7ecd9ab132d63d4a484d6bfde5ee42b0d897b2084ad19fad"), looks := true }, kinds := [], alts := [], laidByText := true, laidKinds := [.data, .data, .data, .sentinel, .sentinel], laidTests := true, laidLooks := .later }
def WalBytesCardSaid : Prop := Claim7.holds Tryz.pinned (.plain (OpenSpec.ofChange walBytesSpec)) walBytesCard

/-- THE TIED CARD OF 'minsterlaw06.WalBack'. -/
def walBackCard : Claim7 := { stood := { row := walBackRow, standIns := [], harness := (true, "d1d9399a42262aac7ecd9ab132d63d4a484d6bfde5ee42b0d897b2084ad19fad"), looks := true }, kinds := [], alts := [], laidByText := true, laidKinds := [.data, .data, .data, .sentinel, .sentinel], laidTests := true, laidLooks := .later }
def WalBackCardSaid : Prop := Claim7.holds Tryz.pinned (.plain (OpenSpec.ofChange walBackSpec)) walBackCard

/-- THE TIED CARD OF 'minsterlaw06.WalNil'. -/
def walNilCard : Claim7 := { stood := { row := walNilRow, standIns := [], harness := (true, "d1d9399a42262aac7ecd9ab132d63d4a484d6bfde5ee42b0d897b2084ad19fad"), looks := true }, kinds := [], alts := [], laidByText := true, laidKinds := [.data, .data, .data, .sentinel, .sentinel], laidTests := true, laidLooks := .later }
def WalNilCardSaid : Prop := Claim7.holds Tryz.pinned (.plain (OpenSpec.ofChange walNilSpec)) walNilCard

/-- THE TIED CARD OF 'minsterlaw06.WalAlone'. -/
def walAloneCard : Claim7 := { stood := { row := walAloneRow, standIns := [], harness := (true, "d1d9399a42262aac7ecd9ab132d63d4a484d6bfde5ee42b0d897b2084ad19fad"), looks := true }, kinds := [], alts := [], laidByText := true, laidKinds := [.data, .data, .data, .sentinel, .sentinel], laidTests := true, laidLooks := .later }
def WalAloneCardSaid : Prop := Claim7.holds Tryz.pinned (.plain (OpenSpec.ofChange walAloneSpec)) walAloneCard

/-- THE TIED CARD OF 'minsterlaw06.WalTurned'. -/
def walTurnedCard : Claim7 := { stood := { row := walTurnedRow, standIns := [], harness := (true, "d1d9399a42262aac7ecd9ab132d63d4a484d6bfde5ee42b0d897b2084ad19fad"), looks := true }, kinds := [], alts := [], laidByText := true, laidKinds := [.data, .data, .data, .sentinel, .sentinel], laidTests := true, laidLooks := .later }
def WalTurnedCardSaid : Prop := Claim7.holds Tryz.pinned (.plain (OpenSpec.ofChange walTurnedSpec)) walTurnedCard

/-- THE SECOND FORM's CARD OF 'minsterlaw06.WalBytes'. -/
def walBytesUptoCard : Claim7 := { stood := { row := walBytesUptoRow, standIns := [], harness := (true, "d1d9399a42262aac7ecd9ab132d63d4a484d6bfde5ee42b0d897b2084ad19fad"), looks := true }, kinds := [], alts := [], laidByText := true, laidKinds := [.data, .data, .data, .sentinel, .sentinel], laidTests := true, laidLooks := .later }
def WalBytesUptoCardSaid : Prop := Claim7.holds Tryz.pinned (.plain (OpenSpec.upto walBytesSpec)) walBytesUptoCard

/-- THE SECOND FORM's CARD OF 'minsterlaw06.WalBack'. -/
def walBackUptoCard : Claim7 := { stood := { row := walBackUptoRow, standIns := [], harness := (true, "d1d9399a42262aac7ecd9ab132d63d4a484d6bfde5ee42b0d897b2084ad19fad"), looks := true }, kinds := [], alts := [], laidByText := true, laidKinds := [.data, .data, .data, .sentinel, .sentinel], laidTests := true, laidLooks := .later }
def WalBackUptoCardSaid : Prop := Claim7.holds Tryz.pinned (.plain (OpenSpec.upto walBackSpec)) walBackUptoCard

/-- THE SECOND FORM's CARD OF 'minsterlaw06.WalNil'. -/
def walNilUptoCard : Claim7 := { stood := { row := walNilUptoRow, standIns := [], harness := (true, "d1d9399a42262aac7ecd9ab132d63d4a484d6bfde5ee42b0d897b2084ad19fad"), looks := true }, kinds := [], alts := [], laidByText := true, laidKinds := [.data, .data, .data, .sentinel, .sentinel], laidTests := true, laidLooks := .later }
def WalNilUptoCardSaid : Prop := Claim7.holds Tryz.pinned (.plain (OpenSpec.upto walNilSpec)) walNilUptoCard

/-- THE SECOND FORM's CARD OF 'minsterlaw06.WalAlone'. -/
def walAloneUptoCard : Claim7 := { stood := { row := walAloneUptoRow, standIns := [], harness := (true, "d1d9399a42262aac7ecd9ab132d63d4a484d6bfde5ee42b0d897b2084ad19fad"), looks := true }, kinds := [], alts := [], laidByText := true, laidKinds := [.data, .data, .data, .sentinel, .sentinel], laidTests := true, laidLooks := .later }
def WalAloneUptoCardSaid : Prop := Claim7.holds Tryz.pinned (.plain (OpenSpec.upto walAloneSpec)) walAloneUptoCard

/-- THE SECOND FORM's CARD OF 'minsterlaw06.WalTurned'. -/
def walTurnedUptoCard : Claim7 := { stood := { row := walTurnedUptoRow, standIns := [], harness := (true, "d1d9399a42262aac7ecd9ab132d63d4a484d6bfde5ee42b0d897b2084ad19fad"), looks := true }, kinds := [], alts := [], laidByText := true, laidKinds := [.data, .data, .data, .sentinel, .sentinel], laidTests := true, laidLooks := .later }
def WalTurnedUptoCardSaid : Prop := Claim7.holds Tryz.pinned (.plain (OpenSpec.upto walTurnedSpec)) walTurnedUptoCard
end Rows
end Go.Proofs.YtibifnknkphanaaGreatDoor

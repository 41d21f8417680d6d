/-
  DERIVED. GIVEN WITH THE SEED: THE CARDS: each row of YtdbhffkfkklehaaDoorRows.lean that lists a variable, with what it lists TIED to the program's text (the seventh form; the later family's looks); each row that meets fmt, with fmt's text TOLD by the authors' own Lean function (tested against real Go, not proved from fmt's source: count such statements apart). THE CARD IS WHAT COUNTS. Prove the row's statement (the work); the ties are given (YtdbhffkfkklehaaDoorTie.lean); close each card by the builder's one call (the guide's Derived/Test/ToyasCard.lean, 'card_holds'). Laid BY PROGRAM, IN A SANDBOX (cutbox-door.mjs). By AI agents, Wed Nov 11 2026. No macro, syntax, notation, axiom, sorry.
-/
import Derived.Test.YtdbhffkfkklehaaDoorRows
import GoSem.ClaimSeven
namespace Go.Proofs.YtdbhffkfkklehaaDoor
namespace Rows

/-- THE TIED CARD OF 'minsterlaw08.MerklePlays'. -/
def merklePlaysCard : Claim7 := { stood := { row := merklePlaysRow, standIns := [], harness := (true, "ff2867f9ebee1fafbbe7b742f17bb61ed6bc8e0cb16cede1e20ff4efbb606337"), looks := false }, kinds := [], alts := [], laidByText := true, laidKinds := [.data, .data], laidTests := true, laidLooks := .later }
def MerklePlaysCardSaid : Prop := Claim7.holds Tryd.pinned (.plain (OpenSpec.ofChange merklePlaysSpec)) merklePlaysCard

/-- THE TIED CARD OF 'minsterlaw08.MerkleOf'. -/
def merkleOfCard : Claim7 := { stood := { row := merkleOfRow, standIns := [], harness := (true, "ff2867f9ebee1fafbbe7b742f17bb61ed6bc8e0cb16cede1e20ff4efbb606337"), looks := false }, kinds := [], alts := [], laidByText := true, laidKinds := [.data, .data], laidTests := true, laidLooks := .later }
def MerkleOfCardSaid : Prop := Claim7.holds Tryd.pinned (.plain (OpenSpec.ofChange merkleOfSpec)) merkleOfCard

/-- THE TIED CARD OF 'minsterlaw08.MerkleNil'. -/
def merkleNilCard : Claim7 := { stood := { row := merkleNilRow, standIns := [], harness := (true, "ff2867f9ebee1fafbbe7b742f17bb61ed6bc8e0cb16cede1e20ff4efbb606337"), looks := false }, kinds := [], alts := [], laidByText := true, laidKinds := [.data, .data], laidTests := true, laidLooks := .later }
def MerkleNilCardSaid : Prop := Claim7.holds Tryd.pinned (.plain (OpenSpec.ofChange merkleNilSpec)) merkleNilCard

/-- THE TIED CARD OF 'minsterlaw08.MerklePaths'. -/
def merklePathsCard : Claim7 := { stood := { row := merklePathsRow, standIns := [], harness := (true, "ff2867f9ebee1fafbbe7b742f17bb61ed6bc8e0cb16cede1e20ff4efbb606337"), looks := false }, kinds := [], alts := [], laidByText := true, laidKinds := [.data, .data], laidTests := true, laidLooks := .later }
def MerklePathsCardSaid : Prop := Claim7.holds Tryd.pinned (.plain (OpenSpec.ofChange merklePathsSpec)) merklePathsCard

/-- THE SECOND FORM's CARD OF 'minsterlaw08.MerklePlays'. -/
def merklePlaysUptoCard : Claim7 := { stood := { row := merklePlaysUptoRow, standIns := [], harness := (true, "ff2867f9ebee1fafbbe7b742f17bb61ed6bc8e0cb16cede1e20ff4efbb606337"), looks := false }, kinds := [], alts := [], laidByText := true, laidKinds := [.data, .data], laidTests := true, laidLooks := .later }
def MerklePlaysUptoCardSaid : Prop := Claim7.holds Tryd.pinned (.plain (OpenSpec.upto merklePlaysSpec)) merklePlaysUptoCard

/-- THE SECOND FORM's CARD OF 'minsterlaw08.MerkleOf'. -/
def merkleOfUptoCard : Claim7 := { stood := { row := merkleOfUptoRow, standIns := [], harness := (true, "ff2867f9ebee1fafbbe7b742f17bb61ed6bc8e0cb16cede1e20ff4efbb606337"), looks := false }, kinds := [], alts := [], laidByText := true, laidKinds := [.data, .data], laidTests := true, laidLooks := .later }
def MerkleOfUptoCardSaid : Prop := Claim7.holds Tryd.pinned (.plain (OpenSpec.upto merkleOfSpec)) merkleOfUptoCard

/-- THE SECOND FORM's CARD OF 'minsterlaw08.MerkleNil'. -/
def merkleNilUptoCard : Claim7 := { stood := { row := merkleNilUptoRow, standIns := [], harness := (true, "ff2867f9ebee1fafbbe7b742f17bb61ed6bc8e0cb16cede1e20ff4efbb606337"), looks := false }, kinds := [], alts := [], laidByText := true, laidKinds := [.data, .data], laidTests := true, laidLooks := .later }
def MerkleNilUptoCardSaid : Prop := Claim7.holds Tryd.pinned (.plain (OpenSpec.upto merkleNilSpec)) merkleNilUptoCard

/-- THE SECOND FORM's CARD OF 'minsterlaw08.MerklePaths'. -/
def merklePathsUptoCard : Claim7 := { stood := { row := merklePathsUptoRow, standIns := [], harness := (true, "ff2867f9ebee1fafbbe7b742f17bb61ed6bc8e0cb16cede1e20ff4efbb606337"), looks := false }, kinds := [], alts := [], laidByText := true, laidKinds := [.data, .data], laidTests := true, laidLooks := .later }
def MerklePathsUptoCardSaid : Prop := Claim7.holds Tryd.pinned (.plain (OpenSpec.upto merklePathsSpec)) merklePathsUptoCard
end Rows
end Go.Proofs.YtdbhffkfkklehaaDoor

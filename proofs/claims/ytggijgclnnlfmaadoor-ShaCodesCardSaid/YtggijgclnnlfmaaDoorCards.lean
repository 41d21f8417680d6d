/-
  DERIVED. GIVEN WITH THE SEED: THE CARDS: each row of YtggijgclnnlfmaaDoorRows.lean that lists a variable, with what it lists TIED to the program's text (the seventh form; the later family's looks); each row that meets fmt, with fmt's text TOLD by the authors' own Lean function (tested against real Go, not proved from fmt's source: count such statements apart). THE CARD IS WHAT COUNTS. Prove the row's statement (the work); the ties are given (YtggijgclnnlfmaaDoorTie.lean); close each card by the builder's one call (the guide's Derived/Test/ToyasCard.lean, 'card_holds'). Laid BY PROGRAM, IN A SANDBOX (cutbox-door.mjs). By AI agents, Wed Nov 11 2026. No macro, syntax, notation, axiom, sorry.
-/
import Derived.Test.YtggijgclnnlfmaaDoorRows
import GoSem.ClaimSeven
namespace Go.Proofs.YtggijgclnnlfmaaDoor
namespace Rows

/-- THE TIED CARD OF 'minsterlaw03.ShaSums'. -/
def shaSumsCard : Claim7 := { stood := { row := shaSumsRow, standIns := [], harness := (true, "ccef4229522fed4aad762be9ca09601a55a4ed20b7f6afa6843ad01dbf565185"), looks := false }, kinds := [], alts := [], laidByText := true, laidKinds := [.data, .data], laidTests := true, laidLooks := .later }
def ShaSumsCardSaid : Prop := Claim7.holds Tryd.pinned (.plain (OpenSpec.ofChange shaSumsSpec)) shaSumsCard

/-- THE TIED CARD OF 'minsterlaw03.ShaCodes'. -/
def shaCodesCard : Claim7 := { stood := { row := shaCodesRow, standIns := [], harness := (true, "ccef4229522fed4aad762be9ca09601a55a4ed20b7f6afa6843ad01dbf565185"), looks := false }, kinds := [], alts := [], laidByText := true, laidKinds := [.data, .data], laidTests := true, laidLooks := .later }
def ShaCodesCardSaid : Prop := Claim7.holds Tryd.pinned (.plain (OpenSpec.ofChange shaCodesSpec)) shaCodesCard

/-- THE TIED CARD OF 'minsterlaw03.ShaTexts'. -/
def shaTextsCard : Claim7 := { stood := { row := shaTextsRow, standIns := [], harness := (true, "ccef4229522fed4aad762be9ca09601a55a4ed20b7f6afa6843ad01dbf565185"), looks := false }, kinds := [], alts := [], laidByText := true, laidKinds := [.data, .data], laidTests := true, laidLooks := .later }
def ShaTextsCardSaid : Prop := Claim7.holds Tryd.pinned (.plain (OpenSpec.ofChange shaTextsSpec)) shaTextsCard

/-- THE TIED CARD OF 'minsterlaw03.ShaBack'. -/
def shaBackCard : Claim7 := { stood := { row := shaBackRow, standIns := [], harness := (true, "ccef4229522fed4aad762be9ca09601a55a4ed20b7f6afa6843ad01dbf565185"), looks := false }, kinds := [], alts := [], laidByText := true, laidKinds := [.data, .data], laidTests := true, laidLooks := .later }
def ShaBackCardSaid : Prop := Claim7.holds Tryd.pinned (.plain (OpenSpec.ofChange shaBackSpec)) shaBackCard

/-- THE TIED CARD OF 'minsterlaw03.ShaVectors'. -/
def shaVectorsCard : Claim7 := { stood := { row := shaVectorsRow, standIns := [], harness := (true, "ccef4229522fed4aad762be9ca09601a55a4ed20b7f6afa6843ad01dbf565185"), looks := false }, kinds := [], alts := [], laidByText := true, laidKinds := [.data, .data], laidTests := true, laidLooks := .later }
def ShaVectorsCardSaid : Prop := Claim7.holds Tryd.pinned (.plain (OpenSpec.ofChange shaVectorsSpec)) shaVectorsCard

/-- THE SECOND FORM's CARD OF 'minsterlaw03.ShaSums'. -/
def shaSumsUptoCard : Claim7 := { stood := { row := shaSumsUptoRow, standIns := [], harness := (true, "ccef4229522fed4aad762be9ca09601a55a4ed20b7f6afa6843ad01dbf565185"), looks := false }, kinds := [], alts := [], laidByText := true, laidKinds := [.data, .data], laidTests := true, laidLooks := .later }
def ShaSumsUptoCardSaid : Prop := Claim7.holds Tryd.pinned (.plain (OpenSpec.upto shaSumsSpec)) shaSumsUptoCard

/-- THE SECOND FORM's CARD OF 'minsterlaw03.ShaCodes'. -/
def shaCodesUptoCard : Claim7 := { stood := { row := shaCodesUptoRow, standIns := [], harness := (true, "ccef4229522fed4aad762be9ca09601a55a4ed20b7f6afa6843ad01dbf565185"), looks := false }, kinds := [], alts := [], laidByText := true, laidKinds := [.data, .data], laidTests := true, laidLooks := .later }
def ShaCodesUptoCardSaid : Prop := Claim7.holds Tryd.pinned (.plain (OpenSpec.upto shaCodesSpec)) shaCodesUptoCard

/-- THE SECOND FORM's CARD OF 'minsterlaw03.ShaTexts'. -/
def shaTextsUptoCard : Claim7 := { stood := { row := shaTextsUptoRow, standIns := [], harness := (true, "ccef4229522fed4aad762be9ca09601a55a4ed20b7f6afa6843ad01dbf565185"), looks := false }, kinds := [], alts := [], laidByText := true, laidKinds := [.data, .data], laidTests := true, laidLooks := .later }
def ShaTextsUptoCardSaid : Prop := Claim7.holds Tryd.pinned (.plain (OpenSpec.upto shaTextsSpec)) shaTextsUptoCard

/-- THE SECOND FORM's CARD OF 'minsterlaw03.ShaBack'. -/
def shaBackUptoCard : Claim7 := { stood := { row := shaBackUptoRow, standIns := [], harness := (true, "ccef4229522fed4aad762be9ca09601a55a4ed20b7f6afa6843ad01dbf565185"), looks := false }, kinds := [], alts := [], laidByText := true, laidKinds := [.data, .data], laidTests := true, laidLooks := .later }
def ShaBackUptoCardSaid : Prop := Claim7.holds Tryd.pinned (.plain (OpenSpec.upto shaBackSpec)) shaBackUptoCard

/-- THE SECOND FORM's CARD OF 'minsterlaw03.ShaVectors'. -/
def shaVectorsUptoCard : Claim7 := { stood := { row := shaVectorsUptoRow, standIns := [], harness := (true, "ccef4229522fed4aad762be9ca09601a55a4ed20b7f6afa6843ad01dbf565185"), looks := false }, kinds := [], alts := [], laidByText := true, laidKinds := [.data, .data], laidTests := true, laidLooks := .later }
def ShaVectorsUptoCardSaid : Prop := Claim7.holds Tryd.pinned (.plain (OpenSpec.upto shaVectorsSpec)) shaVectorsUptoCard
end Rows
end Go.Proofs.YtggijgclnnlfmaaDoor

/-
  No cell of these rows narrows 'for every input' (looked for: loops, veiled, ifaces, maps, wideKeys, modest, calm, conditions, laid).
  DERIVED. THE GIVEN ROWS OF THIS SEAT. 5 by the template 'for every input the law returns true; each argument reads behind the call as it read before'; 0 by the template 'total and deterministic' (their statements: YtbglghjmcjdmeaaTotals.lean).
  GIVEN WITH THE SEED: the statements are not yours to turn. If you find one false, say at which input.
  Laid BY PROGRAM, IN A SANDBOX (cutbox-rows.mjs): the forced cells as the released guide's own fill.sh prints them over the translation 338994465426ee95… (all of the seat's roots in one cut). By AI agents, Wed Nov 11 2026. No macro, syntax, notation, axiom, sorry.
-/
import Derived.Test.YtbglghjmcjdmeaaChecked
import GoSem.Claim
import GoSem.ClaimJoined
import GoSem.ClaimMapViews
import Derived.JoinedTies
import Derived.KernelRfl
namespace Go.Proofs.Ytbglghjmcjdmeaa
/- THE CELL 'sum', in the pinned program and in every row, IS THE sha256 OF THE DUMP (.gsa) THAT YtbglghjmcjdmeaaProg.lean LOADS. Nothing in Lean hashes anything: it is a label: what it is worth is what the hold of that sum in a sandbox is worth. -/
noncomputable def Try.pinned : Pinned := { name := "ytbglghjmcjdmeaa", sum := "338994465426ee955acd2eb00ffe34f73b33cff1aecb469d001aa83f52bad7a7", checked := Try.checked }
namespace Rows
def none {H : Type} : Left H := { results := [], args := [] }

/-- 'minsterlaw02.FramesSum': WHATEVER THE INPUT: true; the input reads as it did. -/
def framesSumSpec : ChangeSpec := { name := "framesSum", fn := fun _ => fun
  | [d] => { results := [.lit (.bool true)], args := [d] }
  | _ => none }
def framesSumRow : OpenClaim := { program := "ytbglghjmcjdmeaa", sum := "338994465426ee955acd2eb00ffe34f73b33cff1aecb469d001aa83f52bad7a7", func := "minster/minsterlaw02.FramesSum", spec := "framesSum", apart := false }
def FramesSumSaid : Prop := framesSumRow.holds Try.pinned (OpenSpec.ofChange framesSumSpec)

/-- ITS FALSE NEIGHBOUR: 'it returns false'. Refute it at one input. -/
def framesSumWrong : ChangeSpec := { name := "framesSum", fn := fun _ => fun
  | [d] => { results := [.lit (.bool false)], args := [d] }
  | _ => none }
def FramesSumWrongFalsely : Prop := framesSumRow.holds Try.pinned (OpenSpec.ofChange framesSumWrong)

/-- 'minsterlaw02.FramesOpen': WHATEVER THE INPUT: true; the input reads as it did. -/
def framesOpenSpec : ChangeSpec := { name := "framesOpen", fn := fun _ => fun
  | [d] => { results := [.lit (.bool true)], args := [d] }
  | _ => none }
def framesOpenRow : OpenClaim := { program := "ytbglghjmcjdmeaa", sum := "338994465426ee955acd2eb00ffe34f73b33cff1aecb469d001aa83f52bad7a7", func := "minster/minsterlaw02.FramesOpen", spec := "framesOpen", apart := false }
def FramesOpenSaid : Prop := framesOpenRow.holds Try.pinned (OpenSpec.ofChange framesOpenSpec)

/-- ITS FALSE NEIGHBOUR: 'it returns false'. Refute it at one input. -/
def framesOpenWrong : ChangeSpec := { name := "framesOpen", fn := fun _ => fun
  | [d] => { results := [.lit (.bool false)], args := [d] }
  | _ => none }
def FramesOpenWrongFalsely : Prop := framesOpenRow.holds Try.pinned (OpenSpec.ofChange framesOpenWrong)

/-- 'minsterlaw02.FramesBack': WHATEVER THE INPUT: true; the input reads as it did. -/
def framesBackSpec : ChangeSpec := { name := "framesBack", fn := fun _ => fun
  | [d1, d2] => { results := [.lit (.bool true)], args := [d1, d2] }
  | _ => none }
def framesBackRow : OpenClaim := { program := "ytbglghjmcjdmeaa", sum := "338994465426ee955acd2eb00ffe34f73b33cff1aecb469d001aa83f52bad7a7", func := "minster/minsterlaw02.FramesBack", spec := "framesBack", apart := false }
def FramesBackSaid : Prop := framesBackRow.holds Try.pinned (OpenSpec.ofChange framesBackSpec)

/-- ITS FALSE NEIGHBOUR: 'it returns false'. Refute it at one input. -/
def framesBackWrong : ChangeSpec := { name := "framesBack", fn := fun _ => fun
  | [d1, d2] => { results := [.lit (.bool false)], args := [d1, d2] }
  | _ => none }
def FramesBackWrongFalsely : Prop := framesBackRow.holds Try.pinned (OpenSpec.ofChange framesBackWrong)

/-- 'minsterlaw02.FramesChanged': WHATEVER THE INPUT: true; the input reads as it did. -/
def framesChangedSpec : ChangeSpec := { name := "framesChanged", fn := fun _ => fun
  | [d1, d2, d3] => { results := [.lit (.bool true)], args := [d1, d2, d3] }
  | _ => none }
def framesChangedRow : OpenClaim := { program := "ytbglghjmcjdmeaa", sum := "338994465426ee955acd2eb00ffe34f73b33cff1aecb469d001aa83f52bad7a7", func := "minster/minsterlaw02.FramesChanged", spec := "framesChanged", apart := false }
def FramesChangedSaid : Prop := framesChangedRow.holds Try.pinned (OpenSpec.ofChange framesChangedSpec)

/-- ITS FALSE NEIGHBOUR: 'it returns false'. Refute it at one input. -/
def framesChangedWrong : ChangeSpec := { name := "framesChanged", fn := fun _ => fun
  | [d1, d2, d3] => { results := [.lit (.bool false)], args := [d1, d2, d3] }
  | _ => none }
def FramesChangedWrongFalsely : Prop := framesChangedRow.holds Try.pinned (OpenSpec.ofChange framesChangedWrong)

/-- 'minsterlaw02.FramesShort': WHATEVER THE INPUT: true; the input reads as it did. -/
def framesShortSpec : ChangeSpec := { name := "framesShort", fn := fun _ => fun
  | [d1, d2] => { results := [.lit (.bool true)], args := [d1, d2] }
  | _ => none }
def framesShortRow : OpenClaim := { program := "ytbglghjmcjdmeaa", sum := "338994465426ee955acd2eb00ffe34f73b33cff1aecb469d001aa83f52bad7a7", func := "minster/minsterlaw02.FramesShort", spec := "framesShort", apart := false }
def FramesShortSaid : Prop := framesShortRow.holds Try.pinned (OpenSpec.ofChange framesShortSpec)

/-- ITS FALSE NEIGHBOUR: 'it returns false'. Refute it at one input. -/
def framesShortWrong : ChangeSpec := { name := "framesShort", fn := fun _ => fun
  | [d1, d2] => { results := [.lit (.bool false)], args := [d1, d2] }
  | _ => none }
def FramesShortWrongFalsely : Prop := framesShortRow.holds Try.pinned (OpenSpec.ofChange framesShortWrong)

/- THE SECOND FORM. 'bulk': how many values and letters a reading holds, each counted each time it is reached (what is shared counts as often as it is met; a slice's spare places count too). A statement '..UptoSaid' is the law's where the arguments, and the package variables that the reading takes, are together of bulk at most 1048576: NARROWER than '..Said'. Prove '..Said' where nothing that the law and all that it calls make is longer than what came in: it says more and counts as full. Else prove '..UptoSaid'. A law counts once. -/
mutual
def uptoBulk {H : Type} : DataW H → Nat
  | .lit (.string bytes) => bytes.length + 1
  | .lit _ => 1
  | .nil => 1
  | .ptr d => uptoBulk d + 1
  | .slice elems spare => uptoBulkAll elems + uptoBulkAll spare + 1
  | .agg parts => uptoBulkAll parts + 1
  | .iface _ d => uptoBulk d + 1
  | .map entries => uptoBulkEntries entries + 1
  | .held _ => 1
def uptoBulkAll {H : Type} : List (DataW H) → Nat
  | [] => 0
  | d :: r => uptoBulk d + uptoBulkAll r
def uptoBulkEntries {H : Type} : List (Lit × DataW H) → Nat
  | [] => 0
  | x :: r => uptoBulkEntry x + uptoBulkEntries r
def uptoBulkEntry {H : Type} : Lit × DataW H → Nat
  | (.string bytes, d) => bytes.length + uptoBulk d + 1
  | (_, d) => uptoBulk d + 1
 end
def uptoSmall : (H : Type) → List (DataW H) → Bool := fun _ ds => decide (uptoBulkAll ds ≤ 1048576)
def OpenSpec.upto (s : _root_.Go.ChangeSpec) : _root_.Go.OpenSpec := { _root_.Go.OpenSpec.ofChange s with cond := some uptoSmall }

/-- 'minsterlaw02.FramesSum', WHERE WHAT IT READS IS OF BULK AT MOST 1048576: true; the input reads as it did. -/
def framesSumUptoRow : OpenClaim := { program := "ytbglghjmcjdmeaa", sum := "338994465426ee955acd2eb00ffe34f73b33cff1aecb469d001aa83f52bad7a7", func := "minster/minsterlaw02.FramesSum", spec := "framesSum", apart := false, narrowed := true }
def FramesSumUptoSaid : Prop := framesSumUptoRow.holds Try.pinned (OpenSpec.upto framesSumSpec)

/-- 'minsterlaw02.FramesOpen', WHERE WHAT IT READS IS OF BULK AT MOST 1048576: true; the input reads as it did. -/
def framesOpenUptoRow : OpenClaim := { program := "ytbglghjmcjdmeaa", sum := "338994465426ee955acd2eb00ffe34f73b33cff1aecb469d001aa83f52bad7a7", func := "minster/minsterlaw02.FramesOpen", spec := "framesOpen", apart := false, narrowed := true }
def FramesOpenUptoSaid : Prop := framesOpenUptoRow.holds Try.pinned (OpenSpec.upto framesOpenSpec)

/-- 'minsterlaw02.FramesBack', WHERE WHAT IT READS IS OF BULK AT MOST 1048576: true; the input reads as it did. -/
def framesBackUptoRow : OpenClaim := { program := "ytbglghjmcjdmeaa", sum := "338994465426ee955acd2eb00ffe34f73b33cff1aecb469d001aa83f52bad7a7", func := "minster/minsterlaw02.FramesBack", spec := "framesBack", apart := false, narrowed := true }
def FramesBackUptoSaid : Prop := framesBackUptoRow.holds Try.pinned (OpenSpec.upto framesBackSpec)

/-- 'minsterlaw02.FramesChanged', WHERE WHAT IT READS IS OF BULK AT MOST 1048576: true; the input reads as it did. -/
def framesChangedUptoRow : OpenClaim := { program := "ytbglghjmcjdmeaa", sum := "338994465426ee955acd2eb00ffe34f73b33cff1aecb469d001aa83f52bad7a7", func := "minster/minsterlaw02.FramesChanged", spec := "framesChanged", apart := false, narrowed := true }
def FramesChangedUptoSaid : Prop := framesChangedUptoRow.holds Try.pinned (OpenSpec.upto framesChangedSpec)

/-- 'minsterlaw02.FramesShort', WHERE WHAT IT READS IS OF BULK AT MOST 1048576: true; the input reads as it did. -/
def framesShortUptoRow : OpenClaim := { program := "ytbglghjmcjdmeaa", sum := "338994465426ee955acd2eb00ffe34f73b33cff1aecb469d001aa83f52bad7a7", func := "minster/minsterlaw02.FramesShort", spec := "framesShort", apart := false, narrowed := true }
def FramesShortUptoSaid : Prop := framesShortUptoRow.holds Try.pinned (OpenSpec.upto framesShortSpec)

end Rows
end Go.Proofs.Ytbglghjmcjdmeaa

/-
  No cell of these rows narrows 'for every input' (looked for: loops, veiled, ifaces, maps, wideKeys, modest, calm, conditions, laid).
  DERIVED. THE GIVEN ROWS OF THIS SEAT. 6 by the template 'for every input the law returns true; each argument reads behind the call as it read before'; 0 by the template 'total and deterministic' (their statements: YtoglhpcboonpeaaTotals.lean).
  GIVEN WITH THE SEED: the statements are not yours to turn. If you find one false, say at which input.
  Laid BY PROGRAM, IN A SANDBOX (cutbox-rows.mjs): the forced cells as the released guide's own fill.sh prints them over the translation baff6c45e9d7cac0… (all of the seat's roots in one cut). By AI agents, Wed Nov 11 2026. No macro, syntax, notation, axiom, sorry.
-/
import Derived.Test.YtoglhpcboonpeaaChecked
import GoSem.Claim
import GoSem.ClaimJoined
import GoSem.ClaimMapViews
import Derived.JoinedTies
import Derived.KernelRfl
namespace Go.Proofs.Ytoglhpcboonpeaa
/- THE CELL 'sum', in the pinned program and in every row, IS THE sha256 OF THE DUMP (.gsa) THAT YtoglhpcboonpeaaProg.lean LOADS. Nothing in Lean hashes anything: it is a label: what it is worth is what the hold of that sum in a sandbox is worth. -/
noncomputable def Try.pinned : Pinned := { name := "ytoglhpcboonpeaa", sum := "baff6c45e9d7cac00bbd0fb063da65984f479e0f1aaeba745f5689fd10646d8b", checked := Try.checked }
namespace Rows
def none {H : Type} : Left H := { results := [], args := [] }

/-- 'minsterlaw04.CtxPlays': WHATEVER THE INPUT: true; the input reads as it did. -/
def ctxPlaysSpec : ChangeSpec := { name := "ctxPlays", fn := fun _ => fun
  | [d1, d2] => { results := [.lit (.bool true)], args := [d1, d2] }
  | _ => none }
def ctxPlaysRow : OpenClaim := { program := "ytoglhpcboonpeaa", sum := "baff6c45e9d7cac00bbd0fb063da65984f479e0f1aaeba745f5689fd10646d8b", func := "minster/minsterlaw04.CtxPlays", spec := "ctxPlays", inPlace := ["slices.overlaps[minster/api.Dot]"], unfollowed := true, recurses := true, apart := false }
def CtxPlaysSaid : Prop := ctxPlaysRow.holds Try.pinned (OpenSpec.ofChange ctxPlaysSpec)

/-- ITS FALSE NEIGHBOUR: 'it returns false'. Refute it at one input. -/
def ctxPlaysWrong : ChangeSpec := { name := "ctxPlays", fn := fun _ => fun
  | [d1, d2] => { results := [.lit (.bool false)], args := [d1, d2] }
  | _ => none }
def CtxPlaysWrongFalsely : Prop := ctxPlaysRow.holds Try.pinned (OpenSpec.ofChange ctxPlaysWrong)

/-- 'minsterlaw04.CtxJoins': WHATEVER THE INPUT: true; the input reads as it did. -/
def ctxJoinsSpec : ChangeSpec := { name := "ctxJoins", fn := fun _ => fun
  | [d1, d2, d3] => { results := [.lit (.bool true)], args := [d1, d2, d3] }
  | _ => none }
def ctxJoinsRow : OpenClaim := { program := "ytoglhpcboonpeaa", sum := "baff6c45e9d7cac00bbd0fb063da65984f479e0f1aaeba745f5689fd10646d8b", func := "minster/minsterlaw04.CtxJoins", spec := "ctxJoins", inPlace := ["slices.overlaps[minster/api.Dot]"], unfollowed := true, recurses := true, apart := false }
def CtxJoinsSaid : Prop := ctxJoinsRow.holds Try.pinned (OpenSpec.ofChange ctxJoinsSpec)

/-- ITS FALSE NEIGHBOUR: 'it returns false'. Refute it at one input. -/
def ctxJoinsWrong : ChangeSpec := { name := "ctxJoins", fn := fun _ => fun
  | [d1, d2, d3] => { results := [.lit (.bool false)], args := [d1, d2, d3] }
  | _ => none }
def CtxJoinsWrongFalsely : Prop := ctxJoinsRow.holds Try.pinned (OpenSpec.ofChange ctxJoinsWrong)

/-- 'minsterlaw04.CtxOf': WHATEVER THE INPUT: true; the input reads as it did. -/
def ctxOfSpec : ChangeSpec := { name := "ctxOf", fn := fun _ => fun
  | [d1, d2, d3] => { results := [.lit (.bool true)], args := [d1, d2, d3] }
  | _ => none }
def ctxOfRow : OpenClaim := { program := "ytoglhpcboonpeaa", sum := "baff6c45e9d7cac00bbd0fb063da65984f479e0f1aaeba745f5689fd10646d8b", func := "minster/minsterlaw04.CtxOf", spec := "ctxOf", inPlace := ["slices.overlaps[minster/api.Dot]"], unfollowed := true, recurses := true, apart := false }
def CtxOfSaid : Prop := ctxOfRow.holds Try.pinned (OpenSpec.ofChange ctxOfSpec)

/-- ITS FALSE NEIGHBOUR: 'it returns false'. Refute it at one input. -/
def ctxOfWrong : ChangeSpec := { name := "ctxOf", fn := fun _ => fun
  | [d1, d2, d3] => { results := [.lit (.bool false)], args := [d1, d2, d3] }
  | _ => none }
def CtxOfWrongFalsely : Prop := ctxOfRow.holds Try.pinned (OpenSpec.ofChange ctxOfWrong)

/-- 'minsterlaw04.CtxFull': WHATEVER THE INPUT: true; the input reads as it did. -/
def ctxFullSpec : ChangeSpec := { name := "ctxFull", fn := fun _ => fun
  | [d1, d2] => { results := [.lit (.bool true)], args := [d1, d2] }
  | _ => none }
def ctxFullRow : OpenClaim := { program := "ytoglhpcboonpeaa", sum := "baff6c45e9d7cac00bbd0fb063da65984f479e0f1aaeba745f5689fd10646d8b", func := "minster/minsterlaw04.CtxFull", spec := "ctxFull", inPlace := ["slices.overlaps[minster/api.Dot]"], unfollowed := true, recurses := true, apart := false }
def CtxFullSaid : Prop := ctxFullRow.holds Try.pinned (OpenSpec.ofChange ctxFullSpec)

/-- ITS FALSE NEIGHBOUR: 'it returns false'. Refute it at one input. -/
def ctxFullWrong : ChangeSpec := { name := "ctxFull", fn := fun _ => fun
  | [d1, d2] => { results := [.lit (.bool false)], args := [d1, d2] }
  | _ => none }
def CtxFullWrongFalsely : Prop := ctxFullRow.holds Try.pinned (OpenSpec.ofChange ctxFullWrong)

/-- 'minsterlaw04.CtxNil': WHATEVER THE INPUT: true; the input reads as it did. -/
def ctxNilSpec : ChangeSpec := { name := "ctxNil", fn := fun _ => fun
  | [] => { results := [.lit (.bool true)], args := [] }
  | _ => none }
def ctxNilRow : OpenClaim := { program := "ytoglhpcboonpeaa", sum := "baff6c45e9d7cac00bbd0fb063da65984f479e0f1aaeba745f5689fd10646d8b", func := "minster/minsterlaw04.CtxNil", spec := "ctxNil", inPlace := ["slices.overlaps[minster/api.Dot]"], unfollowed := true, recurses := true, apart := false }
def CtxNilSaid : Prop := ctxNilRow.holds Try.pinned (OpenSpec.ofChange ctxNilSpec)

/-- ITS FALSE NEIGHBOUR: 'it returns false'. Refute it at one input. -/
def ctxNilWrong : ChangeSpec := { name := "ctxNil", fn := fun _ => fun
  | [] => { results := [.lit (.bool false)], args := [] }
  | _ => none }
def CtxNilWrongFalsely : Prop := ctxNilRow.holds Try.pinned (OpenSpec.ofChange ctxNilWrong)

/-- 'minsterlaw04.CtxOrder': WHATEVER THE INPUT: true; the input reads as it did. -/
def ctxOrderSpec : ChangeSpec := { name := "ctxOrder", fn := fun _ => fun
  | [d1, d2, d3] => { results := [.lit (.bool true)], args := [d1, d2, d3] }
  | _ => none }
def ctxOrderRow : OpenClaim := { program := "ytoglhpcboonpeaa", sum := "baff6c45e9d7cac00bbd0fb063da65984f479e0f1aaeba745f5689fd10646d8b", func := "minster/minsterlaw04.CtxOrder", spec := "ctxOrder", inPlace := ["slices.overlaps[minster/api.Dot]"], unfollowed := true, recurses := true, apart := false }
def CtxOrderSaid : Prop := ctxOrderRow.holds Try.pinned (OpenSpec.ofChange ctxOrderSpec)

/-- ITS FALSE NEIGHBOUR: 'it returns false'. Refute it at one input. -/
def ctxOrderWrong : ChangeSpec := { name := "ctxOrder", fn := fun _ => fun
  | [d1, d2, d3] => { results := [.lit (.bool false)], args := [d1, d2, d3] }
  | _ => none }
def CtxOrderWrongFalsely : Prop := ctxOrderRow.holds Try.pinned (OpenSpec.ofChange ctxOrderWrong)

/- THE SECOND FORM. 'bulk': how many values and letters a reading holds, each counted each time it is reached (what is shared counts as often as it is met; a slice's spare places count too). A statement '..UptoSaid' is the law's where the arguments, and the package variables that the reading takes, are together of bulk at most 1048576: NARROWER than '..Said'. Prove '..Said' where nothing that the law and all that it calls make is longer than what came in: it says more and counts as full. Else prove '..UptoSaid'. A law counts once. -/
mutual
def uptoBulk {H : Type} : DataW H → Nat
  | .lit (.string bytes) => bytes.length + 1
  | .lit _ => 1
  | .nil => 1
  | .ptr d => uptoBulk d + 1
  | .slice elems spare => uptoBulkAll elems + uptoBulkAll spare + 1
  | .agg parts => uptoBulkAll parts + 1
  | .iface _ d => uptoBulk d + 1
  | .map entries => uptoBulkEntries entries + 1
  | .held _ => 1
def uptoBulkAll {H : Type} : List (DataW H) → Nat
  | [] => 0
  | d :: r => uptoBulk d + uptoBulkAll r
def uptoBulkEntries {H : Type} : List (Lit × DataW H) → Nat
  | [] => 0
  | x :: r => uptoBulkEntry x + uptoBulkEntries r
def uptoBulkEntry {H : Type} : Lit × DataW H → Nat
  | (.string bytes, d) => bytes.length + uptoBulk d + 1
  | (_, d) => uptoBulk d + 1
 end
def uptoSmall : (H : Type) → List (DataW H) → Bool := fun _ ds => decide (uptoBulkAll ds ≤ 1048576)
def OpenSpec.upto (s : _root_.Go.ChangeSpec) : _root_.Go.OpenSpec := { _root_.Go.OpenSpec.ofChange s with cond := some uptoSmall }

/-- 'minsterlaw04.CtxPlays', WHERE WHAT IT READS IS OF BULK AT MOST 1048576: true; the input reads as it did. -/
def ctxPlaysUptoRow : OpenClaim := { program := "ytoglhpcboonpeaa", sum := "baff6c45e9d7cac00bbd0fb063da65984f479e0f1aaeba745f5689fd10646d8b", func := "minster/minsterlaw04.CtxPlays", spec := "ctxPlays", inPlace := ["slices.overlaps[minster/api.Dot]"], unfollowed := true, recurses := true, apart := false, narrowed := true }
def CtxPlaysUptoSaid : Prop := ctxPlaysUptoRow.holds Try.pinned (OpenSpec.upto ctxPlaysSpec)

/-- 'minsterlaw04.CtxJoins', WHERE WHAT IT READS IS OF BULK AT MOST 1048576: true; the input reads as it did. -/
def ctxJoinsUptoRow : OpenClaim := { program := "ytoglhpcboonpeaa", sum := "baff6c45e9d7cac00bbd0fb063da65984f479e0f1aaeba745f5689fd10646d8b", func := "minster/minsterlaw04.CtxJoins", spec := "ctxJoins", inPlace := ["slices.overlaps[minster/api.Dot]"], unfollowed := true, recurses := true, apart := false, narrowed := true }
def CtxJoinsUptoSaid : Prop := ctxJoinsUptoRow.holds Try.pinned (OpenSpec.upto ctxJoinsSpec)

/-- 'minsterlaw04.CtxOf', WHERE WHAT IT READS IS OF BULK AT MOST 1048576: true; the input reads as it did. -/
def ctxOfUptoRow : OpenClaim := { program := "ytoglhpcboonpeaa", sum := "baff6c45e9d7cac00bbd0fb063da65984f479e0f1aaeba745f5689fd10646d8b", func := "minster/minsterlaw04.CtxOf", spec := "ctxOf", inPlace := ["slices.overlaps[minster/api.Dot]"], unfollowed := true, recurses := true, apart := false, narrowed := true }
def CtxOfUptoSaid : Prop := ctxOfUptoRow.holds Try.pinned (OpenSpec.upto ctxOfSpec)

/-- 'minsterlaw04.CtxFull', WHERE WHAT IT READS IS OF BULK AT MOST 1048576: true; the input reads as it did. -/
def ctxFullUptoRow : OpenClaim := { program := "ytoglhpcboonpeaa", sum := "baff6c45e9d7cac00bbd0fb063da65984f479e0f1aaeba745f5689fd10646d8b", func := "minster/minsterlaw04.CtxFull", spec := "ctxFull", inPlace := ["slices.overlaps[minster/api.Dot]"], unfollowed := true, recurses := true, apart := false, narrowed := true }
def CtxFullUptoSaid : Prop := ctxFullUptoRow.holds Try.pinned (OpenSpec.upto ctxFullSpec)

/-- 'minsterlaw04.CtxNil', WHERE WHAT IT READS IS OF BULK AT MOST 1048576: true; the input reads as it did. -/
def ctxNilUptoRow : OpenClaim := { program := "ytoglhpcboonpeaa", sum := "baff6c45e9d7cac00bbd0fb063da65984f479e0f1aaeba745f5689fd10646d8b", func := "minster/minsterlaw04.CtxNil", spec := "ctxNil", inPlace := ["slices.overlaps[minster/api.Dot]"], unfollowed := true, recurses := true, apart := false, narrowed := true }
def CtxNilUptoSaid : Prop := ctxNilUptoRow.holds Try.pinned (OpenSpec.upto ctxNilSpec)

/-- 'minsterlaw04.CtxOrder', WHERE WHAT IT READS IS OF BULK AT MOST 1048576: true; the input reads as it did. -/
def ctxOrderUptoRow : OpenClaim := { program := "ytoglhpcboonpeaa", sum := "baff6c45e9d7cac00bbd0fb063da65984f479e0f1aaeba745f5689fd10646d8b", func := "minster/minsterlaw04.CtxOrder", spec := "ctxOrder", inPlace := ["slices.overlaps[minster/api.Dot]"], unfollowed := true, recurses := true, apart := false, narrowed := true }
def CtxOrderUptoSaid : Prop := ctxOrderUptoRow.holds Try.pinned (OpenSpec.upto ctxOrderSpec)

end Rows
end Go.Proofs.Ytoglhpcboonpeaa

/-
  No cell of these rows narrows 'for every input' (looked for: loops, veiled, ifaces, maps, wideKeys, modest, calm, conditions, laid).
  DERIVED. THE GIVEN ROWS OF THIS SEAT. 4 by the template 'for every input the law returns true; each argument reads behind the call as it read before'; 0 by the template 'total and deterministic' (their statements: YtigepbklpiilpaaTotals.lean).
  GIVEN WITH THE SEED: the statements are not yours to turn. If you find one false, say at which input.
  Laid BY PROGRAM, IN A SANDBOX (cutbox-rows.mjs): the forced cells as the released guide's own fill.sh prints them over the translation 566c67659db2a4a1… (all of the seat's roots in one cut). By AI agents, Wed Nov 11 2026. No macro, syntax, notation, axiom, sorry.
-/
import Derived.Test.YtigepbklpiilpaaChecked
import GoSem.Claim
import GoSem.ClaimJoined
import GoSem.ClaimMapViews
import Derived.JoinedTies
import Derived.KernelRfl
namespace Go.Proofs.Ytigepbklpiilpaa
/- THE CELL 'sum', in the pinned program and in every row, IS THE sha256 OF THE DUMP (.gsa) THAT YtigepbklpiilpaaProg.lean LOADS. Nothing in Lean hashes anything: it is a label: what it is worth is what the hold of that sum in a sandbox is worth. -/
noncomputable def Try.pinned : Pinned := { name := "ytigepbklpiilpaa", sum := "566c67659db2a4a1670fa2e38b67b5114782fef986afe2df82b0a9858a857398", checked := Try.checked }
namespace Rows
def none {H : Type} : Left H := { results := [], args := [] }

/-- 'minsterlaw09.EventBytes': WHATEVER THE INPUT: true; the input reads as it did. -/
def eventBytesSpec : ChangeSpec := { name := "eventBytes", fn := fun _ => fun
  | [d1, d2] => { results := [.lit (.bool true)], args := [d1, d2] }
  | _ => none }
def eventBytesRow : OpenClaim := { program := "ytigepbklpiilpaa", sum := "566c67659db2a4a1670fa2e38b67b5114782fef986afe2df82b0a9858a857398", func := "minster/minsterlaw09.EventBytes", spec := "eventBytes", unfollowed := true, recurses := true, apart := false }
def EventBytesSaid : Prop := eventBytesRow.holds Try.pinned (OpenSpec.ofChange eventBytesSpec)

/-- ITS FALSE NEIGHBOUR: 'it returns false'. Refute it at one input. -/
def eventBytesWrong : ChangeSpec := { name := "eventBytes", fn := fun _ => fun
  | [d1, d2] => { results := [.lit (.bool false)], args := [d1, d2] }
  | _ => none }
def EventBytesWrongFalsely : Prop := eventBytesRow.holds Try.pinned (OpenSpec.ofChange eventBytesWrong)

/-- 'minsterlaw09.EventOrder': WHATEVER THE INPUT: true; the input reads as it did. -/
def eventOrderSpec : ChangeSpec := { name := "eventOrder", fn := fun _ => fun
  | [d1, d2, d3] => { results := [.lit (.bool true)], args := [d1, d2, d3] }
  | _ => none }
def eventOrderRow : OpenClaim := { program := "ytigepbklpiilpaa", sum := "566c67659db2a4a1670fa2e38b67b5114782fef986afe2df82b0a9858a857398", func := "minster/minsterlaw09.EventOrder", spec := "eventOrder", apart := false }
def EventOrderSaid : Prop := eventOrderRow.holds Try.pinned (OpenSpec.ofChange eventOrderSpec)

/-- ITS FALSE NEIGHBOUR: 'it returns false'. Refute it at one input. -/
def eventOrderWrong : ChangeSpec := { name := "eventOrder", fn := fun _ => fun
  | [d1, d2, d3] => { results := [.lit (.bool false)], args := [d1, d2, d3] }
  | _ => none }
def EventOrderWrongFalsely : Prop := eventOrderRow.holds Try.pinned (OpenSpec.ofChange eventOrderWrong)

/-- 'minsterlaw09.EventDots': WHATEVER THE INPUT: true; the input reads as it did. -/
def eventDotsSpec : ChangeSpec := { name := "eventDots", fn := fun _ => fun
  | [d1, d2, d3, d4, d5, d6] => { results := [.lit (.bool true)], args := [d1, d2, d3, d4, d5, d6] }
  | _ => none }
def eventDotsRow : OpenClaim := { program := "ytigepbklpiilpaa", sum := "566c67659db2a4a1670fa2e38b67b5114782fef986afe2df82b0a9858a857398", func := "minster/minsterlaw09.EventDots", spec := "eventDots", apart := false }
def EventDotsSaid : Prop := eventDotsRow.holds Try.pinned (OpenSpec.ofChange eventDotsSpec)

/-- ITS FALSE NEIGHBOUR: 'it returns false'. Refute it at one input. -/
def eventDotsWrong : ChangeSpec := { name := "eventDots", fn := fun _ => fun
  | [d1, d2, d3, d4, d5, d6] => { results := [.lit (.bool false)], args := [d1, d2, d3, d4, d5, d6] }
  | _ => none }
def EventDotsWrongFalsely : Prop := eventDotsRow.holds Try.pinned (OpenSpec.ofChange eventDotsWrong)

/-- 'minsterlaw09.EventNext': WHATEVER THE INPUT: true; the input reads as it did. -/
def eventNextSpec : ChangeSpec := { name := "eventNext", fn := fun _ => fun
  | [d1, d2, d3] => { results := [.lit (.bool true)], args := [d1, d2, d3] }
  | _ => none }
def eventNextRow : OpenClaim := { program := "ytigepbklpiilpaa", sum := "566c67659db2a4a1670fa2e38b67b5114782fef986afe2df82b0a9858a857398", func := "minster/minsterlaw09.EventNext", spec := "eventNext", apart := false }
def EventNextSaid : Prop := eventNextRow.holds Try.pinned (OpenSpec.ofChange eventNextSpec)

/-- ITS FALSE NEIGHBOUR: 'it returns false'. Refute it at one input. -/
def eventNextWrong : ChangeSpec := { name := "eventNext", fn := fun _ => fun
  | [d1, d2, d3] => { results := [.lit (.bool false)], args := [d1, d2, d3] }
  | _ => none }
def EventNextWrongFalsely : Prop := eventNextRow.holds Try.pinned (OpenSpec.ofChange eventNextWrong)

/- THE SECOND FORM. 'bulk': how many values and letters a reading holds, each counted each time it is reached (what is shared counts as often as it is met; a slice's spare places count too). A statement '..UptoSaid' is the law's where the arguments, and the package variables that the reading takes, are together of bulk at most 1048576: NARROWER than '..Said'. Prove '..Said' where nothing that the law and all that it calls make is longer than what came in: it says more and counts as full. Else prove '..UptoSaid'. A law counts once. -/
mutual
def uptoBulk {H : Type} : DataW H → Nat
  | .lit (.string bytes) => bytes.length + 1
  | .lit _ => 1
  | .nil => 1
  | .ptr d => uptoBulk d + 1
  | .slice elems spare => uptoBulkAll elems + uptoBulkAll spare + 1
  | .agg parts => uptoBulkAll parts + 1
  | .iface _ d => uptoBulk d + 1
  | .map entries => uptoBulkEntries entries + 1
  | .held _ => 1
def uptoBulkAll {H : Type} : List (DataW H) → Nat
  | [] => 0
  | d :: r => uptoBulk d + uptoBulkAll r
def uptoBulkEntries {H : Type} : List (Lit × DataW H) → Nat
  | [] => 0
  | x :: r => uptoBulkEntry x + uptoBulkEntries r
def uptoBulkEntry {H : Type} : Lit × DataW H → Nat
  | (.string bytes, d) => bytes.length + uptoBulk d + 1
  | (_, d) => uptoBulk d + 1
 end
def uptoSmall : (H : Type) → List (DataW H) → Bool := fun _ ds => decide (uptoBulkAll ds ≤ 1048576)
def OpenSpec.upto (s : _root_.Go.ChangeSpec) : _root_.Go.OpenSpec := { _root_.Go.OpenSpec.ofChange s with cond := some uptoSmall }

/-- 'minsterlaw09.EventBytes', WHERE WHAT IT READS IS OF BULK AT MOST 1048576: true; the input reads as it did. -/
def eventBytesUptoRow : OpenClaim := { program := "ytigepbklpiilpaa", sum := "566c67659db2a4a1670fa2e38b67b5114782fef986afe2df82b0a9858a857398", func := "minster/minsterlaw09.EventBytes", spec := "eventBytes", unfollowed := true, recurses := true, apart := false, narrowed := true }
def EventBytesUptoSaid : Prop := eventBytesUptoRow.holds Try.pinned (OpenSpec.upto eventBytesSpec)

/-- 'minsterlaw09.EventOrder', WHERE WHAT IT READS IS OF BULK AT MOST 1048576: true; the input reads as it did. -/
def eventOrderUptoRow : OpenClaim := { program := "ytigepbklpiilpaa", sum := "566c67659db2a4a1670fa2e38b67b5114782fef986afe2df82b0a9858a857398", func := "minster/minsterlaw09.EventOrder", spec := "eventOrder", apart := false, narrowed := true }
def EventOrderUptoSaid : Prop := eventOrderUptoRow.holds Try.pinned (OpenSpec.upto eventOrderSpec)

/-- 'minsterlaw09.EventDots', WHERE WHAT IT READS IS OF BULK AT MOST 1048576: true; the input reads as it did. -/
def eventDotsUptoRow : OpenClaim := { program := "ytigepbklpiilpaa", sum := "566c67659db2a4a1670fa2e38b67b5114782fef986afe2df82b0a9858a857398", func := "minster/minsterlaw09.EventDots", spec := "eventDots", apart := false, narrowed := true }
def EventDotsUptoSaid : Prop := eventDotsUptoRow.holds Try.pinned (OpenSpec.upto eventDotsSpec)

/-- 'minsterlaw09.EventNext', WHERE WHAT IT READS IS OF BULK AT MOST 1048576: true; the input reads as it did. -/
def eventNextUptoRow : OpenClaim := { program := "ytigepbklpiilpaa", sum := "566c67659db2a4a1670fa2e38b67b5114782fef986afe2df82b0a9858a857398", func := "minster/minsterlaw09.EventNext", spec := "eventNext", apart := false, narrowed := true }
def EventNextUptoSaid : Prop := eventNextUptoRow.holds Try.pinned (OpenSpec.upto eventNextSpec)

end Rows
end Go.Proofs.Ytigepbklpiilpaa

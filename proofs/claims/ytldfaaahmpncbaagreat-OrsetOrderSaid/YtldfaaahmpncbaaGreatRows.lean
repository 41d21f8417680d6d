/-
  No cell of these rows narrows 'for every input' (looked for: loops, veiled, ifaces, maps, wideKeys, modest, calm, conditions, laid).
  DERIVED. THE GIVEN ROWS OF THIS SEAT. 7 by the template 'for every input the law returns true; each argument reads behind the call as it read before'; 0 by the template 'total and deterministic' (their statements: YtldfaaahmpncbaaGreatTotals.lean).
  GIVEN WITH THE SEED: the statements are not yours to turn. If you find one false, say at which input.
  Laid BY PROGRAM, IN A SANDBOX (cutbox-rows.mjs): the forced cells as the released guide's own fill.sh prints them over the translation ea6cee17563be90e… (all of the seat's roots in one cut). By AI agents, Wed Nov 11 2026. No macro, syntax, notation, axiom, sorry.
-/
import Derived.Test.YtldfaaahmpncbaaGreatChecked
import GoSem.Claim
import GoSem.ClaimJoined
import GoSem.ClaimMapViews
import Derived.JoinedTies
import Derived.KernelRfl
namespace Go.Proofs.YtldfaaahmpncbaaGreat
/- THE CELL 'sum', in the pinned program and in every row, IS THE sha256 OF THE DUMP (.gsa) THAT YtldfaaahmpncbaaGreatProg.lean LOADS. Nothing in Lean hashes anything: it is a label: what it is worth is what the hold of that sum in a sandbox is worth. -/
noncomputable def Tryz.pinned : Pinned := { name := "ytldfaaahmpncbaagreat", sum := "ea6cee17563be90e27d7801de9341d65f8f70ef88e065198a826b4180490294b", checked := Tryz.checked }
namespace Rows
def none {H : Type} : Left H := { results := [], args := [] }

/-- 'minsterlaw07.OrsetPlays': WHATEVER THE INPUT: true; the input reads as it did. -/
def orsetPlaysSpec : ChangeSpec := { name := "orsetPlays", fn := fun _ => fun
  | [d] => { results := [.lit (.bool true)], args := [d] }
  | _ => none }
def orsetPlaysRow : OpenClaim := { program := "ytldfaaahmpncbaagreat", sum := "ea6cee17563be90e27d7801de9341d65f8f70ef88e065198a826b4180490294b", func := "minster/minsterlaw07.OrsetPlays", spec := "orsetPlays", inPlace := ["maps.clone", "slices.overlaps[minster/api.Dot]", "internal/bytealg.abigen_runtime_cmpstring"], unfollowed := true, recurses := true, plainKeys := false, apart := false }
def OrsetPlaysSaid : Prop := orsetPlaysRow.holds Tryz.pinned (OpenSpec.ofChange orsetPlaysSpec)

/-- ITS FALSE NEIGHBOUR: 'it returns false'. Refute it at one input. -/
def orsetPlaysWrong : ChangeSpec := { name := "orsetPlays", fn := fun _ => fun
  | [d] => { results := [.lit (.bool false)], args := [d] }
  | _ => none }
def OrsetPlaysWrongFalsely : Prop := orsetPlaysRow.holds Tryz.pinned (OpenSpec.ofChange orsetPlaysWrong)

/-- 'minsterlaw07.OrsetLooks': WHATEVER THE INPUT: true; the input reads as it did. -/
def orsetLooksSpec : ChangeSpec := { name := "orsetLooks", fn := fun _ => fun
  | [d1, d2, d3, d4] => { results := [.lit (.bool true)], args := [d1, d2, d3, d4] }
  | _ => none }
def orsetLooksRow : OpenClaim := { program := "ytldfaaahmpncbaagreat", sum := "ea6cee17563be90e27d7801de9341d65f8f70ef88e065198a826b4180490294b", func := "minster/minsterlaw07.OrsetLooks", spec := "orsetLooks", inPlace := ["maps.clone", "slices.overlaps[minster/api.Dot]"], unfollowed := true, recurses := true, plainKeys := false, apart := false }
def OrsetLooksSaid : Prop := orsetLooksRow.holds Tryz.pinned (OpenSpec.ofChange orsetLooksSpec)

/-- ITS FALSE NEIGHBOUR: 'it returns false'. Refute it at one input. -/
def orsetLooksWrong : ChangeSpec := { name := "orsetLooks", fn := fun _ => fun
  | [d1, d2, d3, d4] => { results := [.lit (.bool false)], args := [d1, d2, d3, d4] }
  | _ => none }
def OrsetLooksWrongFalsely : Prop := orsetLooksRow.holds Tryz.pinned (OpenSpec.ofChange orsetLooksWrong)

/-- 'minsterlaw07.OrsetOrder': WHATEVER THE INPUT: true; the input reads as it did. -/
def orsetOrderSpec : ChangeSpec := { name := "orsetOrder", fn := fun _ => fun
  | [d1, d2, d3] => { results := [.lit (.bool true)], args := [d1, d2, d3] }
  | _ => none }
def orsetOrderRow : OpenClaim := { program := "ytldfaaahmpncbaagreat", sum := "ea6cee17563be90e27d7801de9341d65f8f70ef88e065198a826b4180490294b", func := "minster/minsterlaw07.OrsetOrder", spec := "orsetOrder", inPlace := ["maps.clone", "slices.overlaps[minster/api.Dot]", "internal/bytealg.abigen_runtime_cmpstring"], unfollowed := true, recurses := true, plainKeys := false, apart := false }
def OrsetOrderSaid : Prop := orsetOrderRow.holds Tryz.pinned (OpenSpec.ofChange orsetOrderSpec)

/-- ITS FALSE NEIGHBOUR: 'it returns false'. Refute it at one input. -/
def orsetOrderWrong : ChangeSpec := { name := "orsetOrder", fn := fun _ => fun
  | [d1, d2, d3] => { results := [.lit (.bool false)], args := [d1, d2, d3] }
  | _ => none }
def OrsetOrderWrongFalsely : Prop := orsetOrderRow.holds Tryz.pinned (OpenSpec.ofChange orsetOrderWrong)

/-- 'minsterlaw07.OrsetOf': WHATEVER THE INPUT: true; the input reads as it did. -/
def orsetOfSpec : ChangeSpec := { name := "orsetOf", fn := fun _ => fun
  | [d1, d2, d3] => { results := [.lit (.bool true)], args := [d1, d2, d3] }
  | _ => none }
def orsetOfRow : OpenClaim := { program := "ytldfaaahmpncbaagreat", sum := "ea6cee17563be90e27d7801de9341d65f8f70ef88e065198a826b4180490294b", func := "minster/minsterlaw07.OrsetOf", spec := "orsetOf", inPlace := ["maps.clone", "slices.overlaps[minster/api.Dot]", "internal/bytealg.abigen_runtime_cmpstring"], unfollowed := true, recurses := true, plainKeys := false, apart := false }
def OrsetOfSaid : Prop := orsetOfRow.holds Tryz.pinned (OpenSpec.ofChange orsetOfSpec)

/-- ITS FALSE NEIGHBOUR: 'it returns false'. Refute it at one input. -/
def orsetOfWrong : ChangeSpec := { name := "orsetOf", fn := fun _ => fun
  | [d1, d2, d3] => { results := [.lit (.bool false)], args := [d1, d2, d3] }
  | _ => none }
def OrsetOfWrongFalsely : Prop := orsetOfRow.holds Tryz.pinned (OpenSpec.ofChange orsetOfWrong)

/-- 'minsterlaw07.OrsetNil': WHATEVER THE INPUT: true; the input reads as it did. -/
def orsetNilSpec : ChangeSpec := { name := "orsetNil", fn := fun _ => fun
  | [] => { results := [.lit (.bool true)], args := [] }
  | _ => none }
def orsetNilRow : OpenClaim := { program := "ytldfaaahmpncbaagreat", sum := "ea6cee17563be90e27d7801de9341d65f8f70ef88e065198a826b4180490294b", func := "minster/minsterlaw07.OrsetNil", spec := "orsetNil", inPlace := ["maps.clone", "slices.overlaps[minster/api.Dot]", "internal/bytealg.abigen_runtime_cmpstring"], unfollowed := true, recurses := true, plainKeys := false, apart := false }
def OrsetNilSaid : Prop := orsetNilRow.holds Tryz.pinned (OpenSpec.ofChange orsetNilSpec)

/-- ITS FALSE NEIGHBOUR: 'it returns false'. Refute it at one input. -/
def orsetNilWrong : ChangeSpec := { name := "orsetNil", fn := fun _ => fun
  | [] => { results := [.lit (.bool false)], args := [] }
  | _ => none }
def OrsetNilWrongFalsely : Prop := orsetNilRow.holds Tryz.pinned (OpenSpec.ofChange orsetNilWrong)

/-- 'minsterlaw07.OrsetBoth': WHATEVER THE INPUT: true; the input reads as it did. -/
def orsetBothSpec : ChangeSpec := { name := "orsetBoth", fn := fun _ => fun
  | [d1, d2, d3, d4] => { results := [.lit (.bool true)], args := [d1, d2, d3, d4] }
  | _ => none }
def orsetBothRow : OpenClaim := { program := "ytldfaaahmpncbaagreat", sum := "ea6cee17563be90e27d7801de9341d65f8f70ef88e065198a826b4180490294b", func := "minster/minsterlaw07.OrsetBoth", spec := "orsetBoth", inPlace := ["maps.clone", "slices.overlaps[minster/api.Dot]", "internal/bytealg.abigen_runtime_cmpstring"], unfollowed := true, recurses := true, plainKeys := false, apart := false }
def OrsetBothSaid : Prop := orsetBothRow.holds Tryz.pinned (OpenSpec.ofChange orsetBothSpec)

/-- ITS FALSE NEIGHBOUR: 'it returns false'. Refute it at one input. -/
def orsetBothWrong : ChangeSpec := { name := "orsetBoth", fn := fun _ => fun
  | [d1, d2, d3, d4] => { results := [.lit (.bool false)], args := [d1, d2, d3, d4] }
  | _ => none }
def OrsetBothWrongFalsely : Prop := orsetBothRow.holds Tryz.pinned (OpenSpec.ofChange orsetBothWrong)

/-- 'minsterlaw07.OrsetCollects': WHATEVER THE INPUT: true; the input reads as it did. -/
def orsetCollectsSpec : ChangeSpec := { name := "orsetCollects", fn := fun _ => fun
  | [d1, d2] => { results := [.lit (.bool true)], args := [d1, d2] }
  | _ => none }
def orsetCollectsRow : OpenClaim := { program := "ytldfaaahmpncbaagreat", sum := "ea6cee17563be90e27d7801de9341d65f8f70ef88e065198a826b4180490294b", func := "minster/minsterlaw07.OrsetCollects", spec := "orsetCollects", inPlace := ["maps.clone", "slices.overlaps[minster/api.Dot]", "internal/bytealg.abigen_runtime_cmpstring"], unfollowed := true, recurses := true, plainKeys := false, apart := false }
def OrsetCollectsSaid : Prop := orsetCollectsRow.holds Tryz.pinned (OpenSpec.ofChange orsetCollectsSpec)

/-- ITS FALSE NEIGHBOUR: 'it returns false'. Refute it at one input. -/
def orsetCollectsWrong : ChangeSpec := { name := "orsetCollects", fn := fun _ => fun
  | [d1, d2] => { results := [.lit (.bool false)], args := [d1, d2] }
  | _ => none }
def OrsetCollectsWrongFalsely : Prop := orsetCollectsRow.holds Tryz.pinned (OpenSpec.ofChange orsetCollectsWrong)

/- THE SECOND FORM. 'bulk': how many values and letters a reading holds, each counted each time it is reached (what is shared counts as often as it is met; a slice's spare places count too). A statement '..UptoSaid' is the law's where the arguments, and the package variables that the reading takes, are together of bulk at most 1048576: NARROWER than '..Said'. Prove '..Said' where nothing that the law and all that it calls make is longer than what came in: it says more and counts as full. Else prove '..UptoSaid'. A law counts once. -/
mutual
def uptoBulk {H : Type} : DataW H → Nat
  | .lit (.string bytes) => bytes.length + 1
  | .lit _ => 1
  | .nil => 1
  | .ptr d => uptoBulk d + 1
  | .slice elems spare => uptoBulkAll elems + uptoBulkAll spare + 1
  | .agg parts => uptoBulkAll parts + 1
  | .iface _ d => uptoBulk d + 1
  | .map entries => uptoBulkEntries entries + 1
  | .held _ => 1
def uptoBulkAll {H : Type} : List (DataW H) → Nat
  | [] => 0
  | d :: r => uptoBulk d + uptoBulkAll r
def uptoBulkEntries {H : Type} : List (Lit × DataW H) → Nat
  | [] => 0
  | x :: r => uptoBulkEntry x + uptoBulkEntries r
def uptoBulkEntry {H : Type} : Lit × DataW H → Nat
  | (.string bytes, d) => bytes.length + uptoBulk d + 1
  | (_, d) => uptoBulk d + 1
 end
def uptoSmall : (H : Type) → List (DataW H) → Bool := fun _ ds => decide (uptoBulkAll ds ≤ 1048576)
def OpenSpec.upto (s : _root_.Go.ChangeSpec) : _root_.Go.OpenSpec := { _root_.Go.OpenSpec.ofChange s with cond := some uptoSmall }

/-- 'minsterlaw07.OrsetPlays', WHERE WHAT IT READS IS OF BULK AT MOST 1048576: true; the input reads as it did. -/
def orsetPlaysUptoRow : OpenClaim := { program := "ytldfaaahmpncbaagreat", sum := "ea6cee17563be90e27d7801de9341d65f8f70ef88e065198a826b4180490294b", func := "minster/minsterlaw07.OrsetPlays", spec := "orsetPlays", inPlace := ["maps.clone", "slices.overlaps[minster/api.Dot]", "internal/bytealg.abigen_runtime_cmpstring"], unfollowed := true, recurses := true, plainKeys := false, apart := false, narrowed := true }
def OrsetPlaysUptoSaid : Prop := orsetPlaysUptoRow.holds Tryz.pinned (OpenSpec.upto orsetPlaysSpec)

/-- 'minsterlaw07.OrsetLooks', WHERE WHAT IT READS IS OF BULK AT MOST 1048576: true; the input reads as it did. -/
def orsetLooksUptoRow : OpenClaim := { program := "ytldfaaahmpncbaagreat", sum := "ea6cee17563be90e27d7801de9341d65f8f70ef88e065198a826b4180490294b", func := "minster/minsterlaw07.OrsetLooks", spec := "orsetLooks", inPlace := ["maps.clone", "slices.overlaps[minster/api.Dot]"], unfollowed := true, recurses := true, plainKeys := false, apart := false, narrowed := true }
def OrsetLooksUptoSaid : Prop := orsetLooksUptoRow.holds Tryz.pinned (OpenSpec.upto orsetLooksSpec)

/-- 'minsterlaw07.OrsetOrder', WHERE WHAT IT READS IS OF BULK AT MOST 1048576: true; the input reads as it did. -/
def orsetOrderUptoRow : OpenClaim := { program := "ytldfaaahmpncbaagreat", sum := "ea6cee17563be90e27d7801de9341d65f8f70ef88e065198a826b4180490294b", func := "minster/minsterlaw07.OrsetOrder", spec := "orsetOrder", inPlace := ["maps.clone", "slices.overlaps[minster/api.Dot]", "internal/bytealg.abigen_runtime_cmpstring"], unfollowed := true, recurses := true, plainKeys := false, apart := false, narrowed := true }
def OrsetOrderUptoSaid : Prop := orsetOrderUptoRow.holds Tryz.pinned (OpenSpec.upto orsetOrderSpec)

/-- 'minsterlaw07.OrsetOf', WHERE WHAT IT READS IS OF BULK AT MOST 1048576: true; the input reads as it did. -/
def orsetOfUptoRow : OpenClaim := { program := "ytldfaaahmpncbaagreat", sum := "ea6cee17563be90e27d7801de9341d65f8f70ef88e065198a826b4180490294b", func := "minster/minsterlaw07.OrsetOf", spec := "orsetOf", inPlace := ["maps.clone", "slices.overlaps[minster/api.Dot]", "internal/bytealg.abigen_runtime_cmpstring"], unfollowed := true, recurses := true, plainKeys := false, apart := false, narrowed := true }
def OrsetOfUptoSaid : Prop := orsetOfUptoRow.holds Tryz.pinned (OpenSpec.upto orsetOfSpec)

/-- 'minsterlaw07.OrsetNil', WHERE WHAT IT READS IS OF BULK AT MOST 1048576: true; the input reads as it did. -/
def orsetNilUptoRow : OpenClaim := { program := "ytldfaaahmpncbaagreat", sum := "ea6cee17563be90e27d7801de9341d65f8f70ef88e065198a826b4180490294b", func := "minster/minsterlaw07.OrsetNil", spec := "orsetNil", inPlace := ["maps.clone", "slices.overlaps[minster/api.Dot]", "internal/bytealg.abigen_runtime_cmpstring"], unfollowed := true, recurses := true, plainKeys := false, apart := false, narrowed := true }
def OrsetNilUptoSaid : Prop := orsetNilUptoRow.holds Tryz.pinned (OpenSpec.upto orsetNilSpec)

/-- 'minsterlaw07.OrsetBoth', WHERE WHAT IT READS IS OF BULK AT MOST 1048576: true; the input reads as it did. -/
def orsetBothUptoRow : OpenClaim := { program := "ytldfaaahmpncbaagreat", sum := "ea6cee17563be90e27d7801de9341d65f8f70ef88e065198a826b4180490294b", func := "minster/minsterlaw07.OrsetBoth", spec := "orsetBoth", inPlace := ["maps.clone", "slices.overlaps[minster/api.Dot]", "internal/bytealg.abigen_runtime_cmpstring"], unfollowed := true, recurses := true, plainKeys := false, apart := false, narrowed := true }
def OrsetBothUptoSaid : Prop := orsetBothUptoRow.holds Tryz.pinned (OpenSpec.upto orsetBothSpec)

/-- 'minsterlaw07.OrsetCollects', WHERE WHAT IT READS IS OF BULK AT MOST 1048576: true; the input reads as it did. -/
def orsetCollectsUptoRow : OpenClaim := { program := "ytldfaaahmpncbaagreat", sum := "ea6cee17563be90e27d7801de9341d65f8f70ef88e065198a826b4180490294b", func := "minster/minsterlaw07.OrsetCollects", spec := "orsetCollects", inPlace := ["maps.clone", "slices.overlaps[minster/api.Dot]", "internal/bytealg.abigen_runtime_cmpstring"], unfollowed := true, recurses := true, plainKeys := false, apart := false, narrowed := true }
def OrsetCollectsUptoSaid : Prop := orsetCollectsUptoRow.holds Tryz.pinned (OpenSpec.upto orsetCollectsSpec)

end Rows
end Go.Proofs.YtldfaaahmpncbaaGreat

/-
  The walk of ctx's greater.
-/
import Derived.Test.YtldfaaahmpncbaaGreatCtxCompact
import Derived.Test.YtldfaaahmpncbaaGreatCtxEq
namespace Go.Proofs.YtldfaaahmpncbaaGreat
open Go.RowKit
open CtxM
set_option linter.unusedVariables false
set_option linter.unusedSimpArgs false
set_option maxRecDepth 20000

/-- The greater number of each region. -/
def maxV (A B : List Nat) : List Nat := (List.range 16).map fun i => max (A.getD i 0) (B.getD i 0)
end Go.Proofs.YtldfaaahmpncbaaGreat

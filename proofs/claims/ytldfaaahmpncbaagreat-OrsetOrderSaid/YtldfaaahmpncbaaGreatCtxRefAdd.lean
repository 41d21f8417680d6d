/-
  The walk of the document's Add.
-/
import Derived.Test.YtldfaaahmpncbaaGreatCtxRefA
import Derived.Test.YtldfaaahmpncbaaGreatCtxAdd
namespace Go.Proofs.YtldfaaahmpncbaaGreat
open Go.RowKit
open CtxM
set_option linter.unusedVariables false
set_option linter.unusedSimpArgs false
set_option maxRecDepth 20000

/-- What the document's Add leaves of a set. -/
def SAdded (w w' : World) (g : Nat) (S : List Nat × List Dt) : Prop :=
  ∃ v', Sx w' g v' S.1 S.2 ∧ Keep (fun i => i = g) w w' ∧ ∀ i, v'.ownBlock = some i → w.heap.size ≤ i

end Go.Proofs.YtldfaaahmpncbaaGreat

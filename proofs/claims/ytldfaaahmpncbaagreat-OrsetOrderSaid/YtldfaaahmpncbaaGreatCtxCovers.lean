/-
  The walks of slices.IndexFunc and ContainsFunc at Covers' closure, and of Covers.
-/
import Derived.Test.YtldfaaahmpncbaaGreatCtxNew
import Derived.Test.YtldfaaahmpncbaaGreatCtxGreater
import Derived.Test.YtldfaaahmpncbaaGreatHeldA
namespace Go.Proofs.YtldfaaahmpncbaaGreat
open Go.RowKit
open CtxM
set_option linter.unusedVariables false
set_option linter.unusedSimpArgs false
set_option maxRecDepth 20000

/-- What Covers answers. -/
def covB (V : List Nat) (X : List Dt) (V' : List Nat) (X' : List Dt) : Bool := decide (maxV V V' = V) && !decide (∃ d ∈ X', ¬ In V X d)
theorem covB_of {V V' : List Nat} {X X' : List Dt} (h : maxV V V' = V) : covB V X V' X' = !decide (∃ d ∈ X', ¬ In V X d) := by rw [covB, decide_eq_true h, Bool.true_and]
theorem covB_not {V V' : List Nat} {X X' : List Dt} (h : ¬ maxV V V' = V) : covB V X V' X' = false := by rw [covB, decide_eq_false h, Bool.false_and]

end Go.Proofs.YtldfaaahmpncbaaGreat

/-
  The walks of the document's Next, all of its Add, and of the laws' same.
-/
import Derived.Test.YtldfaaahmpncbaaGreatCtxRefAdd
import Derived.Test.YtldfaaahmpncbaaGreatHeldA
namespace Go.Proofs.YtldfaaahmpncbaaGreat
open Go.RowKit
open CtxM
set_option linter.unusedVariables false
set_option linter.unusedSimpArgs false
set_option maxRecDepth 20000

theorem SAdded.same {w w' : World} {g : Nat} {v : Value} {V : List Nat} {X : List Dt} (hc : Sx w g v V X) (h : Grw w w') (hv : ∀ i, v.ownBlock = some i → w.heap.size ≤ i ∨ True) : ∃ v', Sx w' g v' V X ∧ Keep (fun i => i = g) w w' ∧ (v' = v ∨ ∀ i, v'.ownBlock = some i → w.heap.size ≤ i) :=
  ⟨v, hc.below h.below, .of_below h.below, .inl rfl⟩
end Go.Proofs.YtldfaaahmpncbaaGreat

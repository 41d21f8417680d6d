/-
  event's MayName, slices.Max at a vector, mayPast.
-/
import Derived.Test.YthlopecllhdmhaaDoorEvA
namespace Go.Proofs.YthlopecllhdmhaaDoor
open Go.RowKit
open CtxM
set_option linter.unusedVariables false
set_option linter.unusedSimpArgs false
set_option maxRecDepth 20000

/-- May this be a name? -/
def nameB (s : ByteArray) : Bool := decide (1 ≤ s.size ∧ s.size ≤ 32)
theorem name_1 {s : ByteArray} (h : (s.size : Int) < 1) : nameB s = false := decide_eq_false (by omega)
theorem name_4 {s : ByteArray} (h : 1 ≤ (s.size : Int)) : decide ((s.size : Int) ≤ 32) = nameB s := by
  unfold nameB
  exact decide_eq_decide.2 ⟨fun h2 => ⟨by omega, by omega⟩, fun h2 => by omega⟩
/-- May an event of that name have had this? -/
def PastOk (d : Dt) (V : List Nat) : Prop := May d ∧ at_ V d.1 + 1 = d.2 ∧ ∀ n ∈ V, n ≤ top
instance (d : Dt) (V : List Nat) : Decidable (PastOk d V) := by unfold PastOk; infer_instance

end Go.Proofs.YthlopecllhdmhaaDoor

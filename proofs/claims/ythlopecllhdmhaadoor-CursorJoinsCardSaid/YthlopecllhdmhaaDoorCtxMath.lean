/-
  Sets of dots as plain functions: a vector of first ones, exceptions, what is in them; that the compact form is one alone; adding, joining. No program is named here.
-/
import Derived.Test.YthlopecllhdmhaaDoorRows
namespace Go.Proofs.YthlopecllhdmhaaDoor.CtxM
set_option linter.unusedVariables false
set_option linter.unusedSimpArgs false

abbrev Dt := Int × Nat
def top : Nat := 4611686018427387904
def May (d : Dt) : Prop := 1 ≤ d.1 ∧ d.1 ≤ 16 ∧ 1 ≤ d.2 ∧ d.2 ≤ top
instance (d : Dt) : Decidable (May d) := by unfold May; infer_instance
def Lt (a b : Dt) : Prop := a.1 < b.1 ∨ (a.1 = b.1 ∧ a.2 < b.2)
instance (a b : Dt) : Decidable (Lt a b) := by unfold Lt; infer_instance
/-- The number of a region, whatever the region. -/
def at_ (V : List Nat) (r : Int) : Nat := V.getD (r - 1).toNat 0
def In (V : List Nat) (X : List Dt) (d : Dt) : Prop := May d ∧ (d ∈ X ∨ d.2 ≤ at_ V d.1)
instance (V : List Nat) (X : List Dt) (d : Dt) : Decidable (In V X d) := by unfold In; infer_instance

theorem Lt.trans {a b c : Dt} (h : Lt a b) (k : Lt b c) : Lt a c := by unfold Lt at *; omega
/-- .. of one region. -/
def fr : Nat → List Dt → Nat × List Dt
  | n, [] => (n, [])
  | n, d :: L => if d.2 = n + 1 then fr (n + 1) L else if n < d.2 then ((fr n L).1, d :: (fr n L).2) else fr n L

def zeros : List Nat := List.replicate 16 0
end Go.Proofs.YthlopecllhdmhaaDoor.CtxM

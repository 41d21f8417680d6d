/-
  A region that draws its order, move by move: two operations that may come up now. No program is named here.
-/
import Derived.Test.YtdbkhigocjmfoaaHeld
namespace Go.Proofs.Ytdbkhigocjmfoaa
open Go.RowKit
set_option linter.unusedVariables false
set_option linter.unusedSimpArgs false

section
variable {P : Program} {ops : Array Oper} {Q : Exit → Act → World → Prop} {md : Region.Mode} {S : World → Prop}
/-- One of two operations comes up. -/
theorem held_two {i j fuel : Nat} {o1 o2 : Oper} {listed : Array Bool} {a : Act} {w : World} (hr : Region.ready md ops listed = [i, j]) (h1 : ops[i]? = some o1) (h2 : ops[j]? = some o2)
    (k1 : ∀ K' : Act → World → Prop, Shut (∀ a w, S w → (S w → wpAnyH P md ops Q S fuel (listed.setIfInBounds i true) a w) → K' a w) → if Region.wanted o1 (yielded ops a.tmps) = true then Oper.wp P o1 a w K' Q else K' (a.put o1.dst undef) w)
    (k2 : ∀ K' : Act → World → Prop, Shut (∀ a w, S w → (S w → wpAnyH P md ops Q S fuel (listed.setIfInBounds j true) a w) → K' a w) → if Region.wanted o2 (yielded ops a.tmps) = true then Oper.wp P o2 a w K' Q else K' (a.put o2.dst undef) w) :
    wpAnyH P md ops Q S (fuel + 1) listed a w := wpAnyH_ready hr (by simp) (AllReadyH.cons h1 k1 (AllReadyH.cons h2 k2 AllReadyH.nil))
theorem held_wanted {o : Oper} {ys : Nat → Option Bool} {a : Act} {w : World} {K' : Act → World → Prop} {E : Prop} (hg : o.guard = none) (h : Oper.wp P o a w K' Q) : if Region.wanted o ys = true then Oper.wp P o a w K' Q else E := by
  have hw : Region.wanted o ys = true := by simp [Region.wanted, hg]
  rw [if_pos hw]; exact h
end
end Go.Proofs.Ytdbkhigocjmfoaa

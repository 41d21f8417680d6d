/-
  A region that draws its order, walked in one line: what a call has left is known in every later world, so what only reads is taken as soon as it may come up. The condition on the world is made stronger behind each call.
-/
import Derived.Test.YtdbkhigocjmfoaaMem
import Derived.Deep.RegionHeld
namespace Go.Proofs.Ytdbkhigocjmfoaa
open Go.RowKit
set_option linter.unusedVariables false

/-- Every cell of w holds in w' what it held. -/
def Keeps (w w' : World) : Prop := ∀ (p : Addr) (u : Value), w.cell? p = some u → w'.cell? p = some u
theorem Keeps.refl (w : World) : Keeps w w := fun _ _ h => h
theorem Keeps.trans {a b c : World} (h : Keeps a b) (k : Keeps b c) : Keeps a c := fun p u hu => k p u (h p u hu)
theorem Keeps.of_below {w w' : World} (h : Below w.heap.size w w') : Keeps w w' := fun p u hu => (h.cell (World.block_lt_of_cell? w p hu)).trans hu
theorem Keeps.sl {w w' : World} {v : Value} {l : List UInt8} (h : Sl w v l) (k : Keeps w w') : Sl w' v l := h.keep k
theorem Keeps.range {w w' : World} {b o : Nat} {cs : List Value} (h : w.rangeAt b o cs) (k : Keeps w w') : w'.rangeAt b o cs := fun j v hv => k _ _ (h j v hv)

section
variable {P : Program} {ops : Array Oper} {Q : Exit → Act → World → Prop} {md : Region.Mode} {S S' : World → Prop}
/-- A stronger condition serves. -/
theorem wpAnyH_more (hS : ∀ w, S' w → S w) : ∀ (fuel : Nat) (listed : Array Bool) (a : Act) (w : World), wpAnyH P md ops Q S' fuel listed a w → wpAnyH P md ops Q S fuel listed a w
  | 0, _, _, _, h => h
  | fuel + 1, _, _, _, h => ⟨h.1, fun i hi => wpOp_mono (fun a' w' h' => ⟨hS w' h'.1, wpAnyH_more hS fuel _ a' w' h'.2⟩) (h.2 i hi)⟩
theorem held_begin {id : Nat} {a : Act} {w : World} (hm : P.follows .mixedOrders = true) (h : wpAnyH P .any ops Q (Keeps w.drew) ops.size (Array.replicate ops.size false) a w.drew) : (Code.region id ops true).wp P Q a w :=
  wp_region_held_drew (S := Keeps w.drew) hm (Keeps.refl _) (fun _ => h)
theorem held_next {w w' : World} {fuel : Nat} {listed : Array Bool} {a : Act} (k : Keeps w w') (h : wpAnyH P md ops Q (Keeps w') fuel listed a w') : wpAnyH P md ops Q (Keeps w) fuel listed a w' :=
  wpAnyH_more (fun _ hh => k.trans hh) _ _ _ _ h
/-- The one operation that may come up now comes up. -/
theorem held_one {i fuel : Nat} {o : Oper} {listed : Array Bool} {a : Act} {w : World} (hr : Region.ready md ops listed = [i]) (ho : ops[i]? = some o)
    (h : ∀ K' : Act → World → Prop, Shut (∀ a w, S w → (S w → wpAnyH P md ops Q S fuel (listed.setIfInBounds i true) a w) → K' a w) → if Region.wanted o (yielded ops a.tmps) = true then Oper.wp P o a w K' Q else K' (a.put o.dst undef) w) :
    wpAnyH P md ops Q S (fuel + 1) listed a w := wpAnyH_ready hr (by simp) (AllReadyH.cons ho h AllReadyH.nil)
end
end Go.Proofs.Ytdbkhigocjmfoaa

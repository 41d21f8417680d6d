/-
  The walk of sha.Code.
-/
import Derived.Test.YtdbhffkfkklehaaDoorShaKey
namespace Go.Proofs.YtdbhffkfkklehaaDoor
open Go.RowKit
set_option linter.unusedVariables false
set_option linter.unusedSimpArgs false

/-- Values that read as lists, one by one. -/
def SlAll (w : World) (vs : List Value) (ls : List (List UInt8)) : Prop := vs.length = ls.length ∧ ∀ j (h : j < ls.length), ∃ u, vs[j]? = some u ∧ Sl w u ls[j]
theorem SlAll.below {w w' : World} {vs : List Value} {ls : List (List UInt8)} (h : SlAll w vs ls) (hb : Below w.heap.size w w') : SlAll w' vs ls :=
  ⟨h.1, fun j hj => by obtain ⟨u, hu, hs⟩ := h.2 j hj; exact ⟨u, hu, hs.below hb⟩⟩
theorem SlAll.append {w : World} {vs vs2 : List Value} {ls ls2 : List (List UInt8)} (h : SlAll w vs ls) (h2 : SlAll w vs2 ls2) : SlAll w (vs ++ vs2) (ls ++ ls2) := by
  refine ⟨by rw [List.length_append, List.length_append, h.1, h2.1], fun j hj => ?_⟩
  by_cases hlt : j < ls.length
  · obtain ⟨u, hu, hs⟩ := h.2 j hlt
    exact ⟨u, by rw [List.getElem?_append_left (by rw [h.1]; exact hlt)]; exact hu, by rw [List.getElem_append_left hlt]; exact hs⟩
  · have hj2 : j - ls.length < ls2.length := by rw [List.length_append] at hj; omega
    obtain ⟨u, hu, hs⟩ := h2.2 _ hj2
    exact ⟨u, by rw [List.getElem?_append_right (by rw [h.1]; omega), h.1]; exact hu, by rw [List.getElem_append_right (by omega)]; exact hs⟩
section
variable {P : Program} (w : World)
end
theorem Gl.size {w : World} (h : Gl w) : 1 < w.heap.size := by
  obtain ⟨_, t1, f1, h1⟩ := h
  rcases Nat.lt_or_ge 1 w.heap.size with hlt | hge
  · exact hlt
  · rw [Array.getElem?_eq_none hge] at h1; cases h1
theorem Gl.grown {w w' : World} {g : Nat} (h : Gl w) (hgr : w.grownBy w' (some g)) (hg : 1 < g) : Gl w' := by
  have hz := h.size
  obtain ⟨⟨t, f, h0⟩, ⟨t1, f1, h1⟩⟩ := h
  exact ⟨⟨t, f, (hgr.block 0 (by omega) (by intro e; injection e with e; omega)).trans h0⟩, ⟨t1, f1, (hgr.block 1 hz (by intro e; injection e with e; omega)).trans h1⟩⟩

end Go.Proofs.YtdbhffkfkklehaaDoor

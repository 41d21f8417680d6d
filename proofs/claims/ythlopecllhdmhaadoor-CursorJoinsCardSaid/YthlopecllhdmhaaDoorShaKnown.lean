/-
  The walks of sha.Start, sha.Constant, sha.Equal, and of what the laws hold against the chapter's rows.
-/
import Derived.Test.YthlopecllhdmhaaDoorShaCode
import Derived.Lib.SlBytesConst
namespace Go.Proofs.YthlopecllhdmhaaDoor
open Go.RowKit
set_option linter.unusedVariables false
set_option linter.unusedSimpArgs false

theorem Gl.alloc {w : World} (h : Gl w) (o : Obj) : Gl (w.alloc o) := h.below ((Below.refl _ _).alloc (Nat.le_refl _) _)
/-- A new row of bytes, whatever its mark, as a slice. -/
theorem Sl.of_mark (w : World) (e : TypeId) (C : Array Value) (fr : Nat × Nat) (l : List UInt8) (n c : Nat) (hn : n = l.length) (hc : n ≤ c) (hC : C.toList = l.map bv) :
    Sl (w.alloc (.cells C e fr)) (.slice (some ⟨w.heap.size, 0, none⟩) n c) l := by
  subst hn
  refine ⟨_, c, rfl, hc, fun _ => ⟨w.heap.size, 0, rfl, fun j hj => ?_⟩⟩
  rw [World.cell?_alloc_mark, Nat.zero_add, ← Array.getElem?_toList, hC]
  simp [List.getElem?_eq_getElem hj, bv]
/-- A new row of bytes, and a new list of it alone. -/
theorem Sls.mark (w : World) (e e2 : TypeId) (C : Array Value) (fr : Nat × Nat) (l : List UInt8) (n c : Nat) (hn : n = l.length) (hc : n ≤ c) (hC : C.toList = l.map bv) :
    Sls ((w.alloc (.cells C e fr)).alloc (.cells #[.slice (some ⟨w.heap.size, 0, none⟩) n c] e2)) (.slice (some ⟨w.heap.size + 1, 0, none⟩) 1 1) [l] := by
  have h := Sls.one _ e2 _ _ (Sl.of_mark w e C fr l n c hn hc hC)
  rw [show (w.alloc (.cells C e fr)).heap.size = w.heap.size + 1 from by simp] at h
  exact h
end Go.Proofs.YthlopecllhdmhaaDoor

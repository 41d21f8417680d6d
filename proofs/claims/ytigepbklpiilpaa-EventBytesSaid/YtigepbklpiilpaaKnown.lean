/-
  The walk of minsterlaw01.known: the chapter's rows come out as they stand there.
-/
import Derived.Test.YtigepbklpiilpaaReadN
import Derived.Lib.SlBytesConst
namespace Go.Proofs.Ytigepbklpiilpaa
open Go.RowKit
set_option linter.unusedVariables false

/-- A string made of a slice of bytes, in the seat's program. -/
theorem conv_any {w : World} {v : Value} {l : List UInt8} (h : Sl w v l) : (convert 25 9 v).run Try.prog w = .ok (.string ⟨l.toArray⟩) w :=
  h.conv Try.underlying25 Try.underlying5 Try.underlying9

/-- A new row of bytes, whatever its mark, as a slice. -/
theorem Sl.of_mark (w : World) (e : TypeId) (C : Array Value) (fr : Nat × Nat) (l : List UInt8) (n c : Nat) (hn : n = l.length) (hc : n ≤ c) (hC : C.toList = l.map bv) :
    Sl (w.alloc (.cells C e fr)) (.slice (some ⟨w.heap.size, 0, none⟩) n c) l := by
  subst hn
  refine ⟨_, c, rfl, hc, fun _ => ⟨w.heap.size, 0, rfl, fun j hj => ?_⟩⟩
  rw [World.cell?_alloc_mark, Nat.zero_add, ← Array.getElem?_toList, hC]
  simp [List.getElem?_eq_getElem hj, bv]

end Go.Proofs.Ytigepbklpiilpaa

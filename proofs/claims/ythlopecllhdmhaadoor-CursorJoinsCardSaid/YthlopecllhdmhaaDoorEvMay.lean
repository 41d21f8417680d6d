/-
  An event as cells; event's May.
-/
import Derived.Test.YthlopecllhdmhaaDoorEvTo
import Derived.Deep.Cut
namespace Go.Proofs.YthlopecllhdmhaaDoor
open Go.RowKit
open CtxM
set_option linter.unusedVariables false
set_option linter.unusedSimpArgs false
set_option maxRecDepth 20000

/-- An event: its parts as they read, and where they lie. -/
structure Ev where
  id : Dt
  topic : ByteArray
  pl : Value
  P : List UInt8
  V : List Nat
  to : Value
  T : List De
/-- Its parts read so in the world w. -/
structure EvOk (w : World) (x : Ev) : Prop where
  pl : Sl w x.pl x.P
  to : Se w x.to x.T
  len : x.V.length = 16
  lt : ∀ n ∈ x.V, n < 18446744073709551616
theorem EvOk.below {w w' : World} {x : Ev} (h : EvOk w x) (hb : Below w.heap.size w w') : EvOk w' x := ⟨h.pl.below hb, h.to.below hb, h.len, h.lt⟩
section
variable {w : World} {g : Nat} {t : TypeId} {x : Ev}
end

end Go.Proofs.YthlopecllhdmhaaDoor

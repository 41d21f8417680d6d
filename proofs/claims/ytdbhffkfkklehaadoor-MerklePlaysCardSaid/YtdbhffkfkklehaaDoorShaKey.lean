/-
  The walks of sha.masked and sha.keyOf.
-/
import Derived.Test.YtdbhffkfkklehaaDoorShaSumW
import Derived.Laws.CopyOwn
namespace Go.Proofs.YtdbhffkfkklehaaDoor
open Go.RowKit
set_option linter.unusedVariables false
set_option linter.unusedSimpArgs false

theorem Blk.bytes {w : World} {g : Nat} {t : TypeId} {l : List UInt8} (h : Blk w g t (rowB l)) (n c : Nat) (hn : n = l.length) (hc : n ≤ c) : Sl w (.slice (some ⟨g, 0, none⟩) n c) l := by
  subst hn
  refine ⟨_, _, rfl, hc, fun _ => ⟨_, 0, rfl, fun j hj => ?_⟩⟩
  rw [Nat.zero_add, h.cell, rowB_get _ _ hj]
/-- What a slice holds, as copy asks for it. -/
theorem Sl.cells {w : World} {A : Option Addr} {n c : Nat} {l : List UInt8} (h : Sl w (.slice A n c) l) (hp : 0 < l.length) : ∃ ad, A = some ad ∧ ∀ j v, (l.map bv)[j]? = some v → w.cell? (ad.add j) = some v := by
  obtain ⟨A2, c2, e, _, ha⟩ := h
  injection e with e1 e2 e3
  subst e1
  obtain ⟨b, o, rfl, hx⟩ := ha hp
  refine ⟨_, rfl, fun j u hu => ?_⟩
  have hj : j < l.length := by
    have := (List.getElem?_eq_some_iff.1 hu).1
    simpa using this
  rw [add_plain, hx j hj, ← hu]
  simp [List.getElem?_eq_getElem hj, bv]
end Go.Proofs.YtdbhffkfkklehaaDoor

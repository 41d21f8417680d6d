/-
  The walks of the reader's Dot and Vector.
-/
import Derived.Test.YthlopecllhdmhaaDoorReadN
import Derived.Test.YthlopecllhdmhaaDoorVec
import Derived.Test.YthlopecllhdmhaaDoorHeldA
import Derived.IntWalk
namespace Go.Proofs.YthlopecllhdmhaaDoor
open Go.RowKit
set_option linter.unusedVariables false
set_option linter.unusedSimpArgs false

/-- What turns one block of another element type alone leaves the part and the reader. -/
theorem Part.grown {w w' : World} {g cb : Nat} {t : TypeId} {cs : Array Value} {A : Option Addr} {p l : List UInt8} (h : Part w g A p l) (hb : Blk w cb t cs) (h1 : t ≠ 65) (h2 : t ≠ 5) (hgr : w.grownBy w' (some cb)) : Part w' g A p l := by
  obtain ⟨A', c, hg, hc, hp, hl⟩ := h
  refine ⟨A', c, hg.grown hgr (fun e => hg.ne_ hb (Ne.symm h1) (by injection e)), hc, fun hn => ?_, fun hn => ?_⟩
  · obtain ⟨b, o, cs', e, hB, hx⟩ := hp hn
    exact ⟨b, o, cs', e, hB.grown hgr (fun e => hB.ne_ hb (Ne.symm h2) (by injection e)), hx⟩
  · obtain ⟨b, o, cs', e, hB, hx⟩ := hl hn
    exact ⟨b, o, cs', e, hB.grown hgr (fun e => hB.ne_ hb (Ne.symm h2) (by injection e)), hx⟩
/-- From only g, then only a new block, to only g. -/
theorem grown_via {w W w' : World} {g cb : Nat} (h : w.grownBy W (some g)) (k : W.grownBy w' (some cb)) (hc : w.heap.size ≤ cb) : w.grownBy w' (some g) :=
  ⟨k.os.trans h.os, k.tape.trans h.tape, k.output.trans h.output, Nat.le_trans h.size k.size, fun i hi hne => (k.block i (Nat.lt_of_lt_of_le hi h.size) (fun e => by injection e; omega)).trans (h.block i hi hne)⟩

/-- A slice from its second byte on. -/
theorem Sl.tail {w : World} {b o n : Nat} {p : List UInt8} (h : Sl w (.slice (some ⟨b, o, none⟩) (n + 1) (n + 1)) p) : Sl w (.slice (some ⟨b, o + 1, none⟩) n n) (p.drop 1) := by
  obtain ⟨A, c, e, hc, ha⟩ := h
  injection e with e1 e2 e3
  refine ⟨some ⟨b, o + 1, none⟩, n, by rw [List.length_drop, ← e2, Nat.add_sub_cancel], by rw [List.length_drop, ← e2]; omega, fun hn => ⟨b, o + 1, rfl, fun j hj => ?_⟩⟩
  rw [List.length_drop] at hn hj
  obtain ⟨b', o', e', hx⟩ := ha (by omega)
  rw [← e1] at e'
  injection e' with e'
  injection e' with e4 e5
  subst e4 e5
  have := hx (1 + j) (by omega)
  rw [← Nat.add_assoc] at this
  rw [this, List.getElem_drop]

theorem byte_at {w : World} {b o n c : Nat} {p : List UInt8} (h : Sl w (.slice (some ⟨b, o, none⟩) n c) p) (j : Nat) (hj : j < p.length) : w.cell? ⟨b, o + j, none⟩ = some (.int .u8 (p[j].toNat : Int)) := by
  obtain ⟨A, c', e, hc, ha⟩ := h
  injection e with e1 e2 e3
  obtain ⟨b', o', e', hx⟩ := ha (by omega)
  rw [← e1] at e'
  injection e' with e'
  injection e' with e4 e5
  subst e4 e5
  exact hx j hj

theorem grown_drew {w w' : World} {r : Option Nat} (h : w.grownBy w' r) : w.grownBy w'.drew r := ⟨h.os, h.tape, h.output, h.size, h.block⟩
theorem cell_drew (w : World) (p : Addr) : w.drew.cell? p = w.cell? p := rfl
theorem far_cell {b cb : Nat} (hne : b ≠ cb) (w : World) (o i : Nat) (u : Value) : (w.setCell ⟨cb, i, none⟩ u).cell? ⟨b, o, none⟩ = w.cell? ⟨b, o, none⟩ :=
  World.cell?_setCell_other w _ _ u (fun e => hne (by injection e with e; exact e.symm))

end Go.Proofs.YthlopecllhdmhaaDoor

/-
  The walks of the reader's Number, Bytes and Blob.
-/
import Derived.Test.YthlopecllhdmhaaDoorTakeA
import Derived.Test.YthlopecllhdmhaaDoorEvMem
namespace Go.Proofs.YthlopecllhdmhaaDoor
open Go.RowKit
set_option linter.unusedVariables false

/-- A store into a block of another element type leaves the part and the reader. -/
theorem Part.far {w : World} {g cb i : Nat} {t : TypeId} {cs : Array Value} {A : Option Addr} {p l : List UInt8} (h : Part w g A p l) (hb : Blk w cb t cs) (h1 : t ≠ 65) (h2 : t ≠ 5) (u : Value) : Part (w.setCell ⟨cb, i, none⟩ u) g A p l := by
  obtain ⟨A', c, hg, hc, hp, hl⟩ := h
  refine ⟨A', c, hg.far (hg.ne_ hb (Ne.symm h1)) u, hc, fun hn => ?_, fun hn => ?_⟩
  · obtain ⟨b, o, cs', e, hB, hx⟩ := hp hn
    exact ⟨b, o, cs', e, hB.far (hB.ne_ hb (Ne.symm h2)) u, hx⟩
  · obtain ⟨b, o, cs', e, hB, hx⟩ := hl hn
    exact ⟨b, o, cs', e, hB.far (hB.ne_ hb (Ne.symm h2)) u, hx⟩
theorem Rd.part {w : World} {g : Nat} {l : List UInt8} (h : Rd w g l) : Part w g none [] l := by
  obtain ⟨A, c, hg, hc, ha⟩ := h
  refine ⟨A, c, hg, hc, fun hn => absurd hn (by simp), fun hn => ?_⟩
  obtain ⟨b, o, cs, e, hB, hx⟩ := ha hn
  exact ⟨b, o, cs, e, hB, hx, fun hn => absurd hn (by simp)⟩
theorem Rd.far {w : World} {g cb i : Nat} {t : TypeId} {cs : Array Value} {l : List UInt8} (h : Rd w g l) (hb : Blk w cb t cs) (h1 : t ≠ 65) (h2 : t ≠ 5) (u : Value) : Rd (w.setCell ⟨cb, i, none⟩ u) g l := (h.part.far hb h1 h2 u).rd
theorem Rd.alloc {w : World} {g : Nat} {l : List UInt8} (h : Rd w g l) (o : Obj) : Rd (w.alloc o) g l := h.below ((Below.refl _ _).alloc (Nat.le_refl _) o)
theorem Rd.lt {w : World} {g : Nat} {l : List UInt8} (h : Rd w g l) : g < w.heap.size := by
  obtain ⟨A, c, hg, _⟩ := h
  exact hg.lt
theorem Fd.alloc {w : World} {g : Nat} (h : Fd w g) (o : Obj) : Fd (w.alloc o) g := Blk.alloc h o
theorem Fd.lt {w : World} {g : Nat} (h : Fd w g) : g < w.heap.size := Blk.lt h

/-- From a world with one new block to the world ahead of it. -/
theorem grown_of_alloc {w w' : World} {o : Obj} {g : Nat} (h : (w.alloc o).grownBy w' (some g)) : w.grownBy w' (some g) :=
  ⟨h.os, h.tape, h.output, Nat.le_trans (by simp) h.size, fun k hk hne => (h.block k (by simp; omega) hne).trans (Below.heap_alloc _ _ _ hk)⟩
/-- A store into a block that is new. -/
theorem grown_new {w w' : World} {g cb i : Nat} {u : Value} (h : w.grownBy w' (some g)) (hc : w.heap.size ≤ cb) : w.grownBy (w'.setCell ⟨cb, i, none⟩ u) (some g) :=
  ⟨h.os, h.tape, h.output, by simpa [World.setCell] using h.size, fun k hk hne => (Below.heap_setCell _ _ _ _ (by simp; omega)).trans (h.block k hk hne)⟩
/-- What only turns the reader's own block leaves the part. -/
theorem Part.sl_grown {w w' : World} {g : Nat} {A : Option Addr} {p l : List UInt8} {n c : Nat} (h : Part w g A p l) (hgr : w.grownBy w' (some g)) (hn : n = p.length) (hc : n ≤ c) : Sl w' (.slice A n c) p := by
  subst hn
  obtain ⟨A', c', hg, _, ha, _⟩ := h
  refine ⟨A, c, rfl, hc, fun hn => ?_⟩
  obtain ⟨b, o, cs, e, hB, hx⟩ := ha hn
  have hB' := hB.grown hgr (fun e => hB.ne_ hg (by decide) (by injection e))
  exact ⟨b, o, e, fun j hj => by rw [hB'.cell]; exact hx j hj⟩
end Go.Proofs.YthlopecllhdmhaaDoor

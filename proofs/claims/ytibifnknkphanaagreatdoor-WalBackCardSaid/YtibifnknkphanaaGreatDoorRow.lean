/-
  From a walk that leaves old memory alone to a law's row: the arguments opened, the post shut.
-/
import Derived.Test.YtibifnknkphanaaGreatDoorMem
import Derived.ProofKit
import Derived.OpenShut
import Derived.JoinedCond
import Derived.Test.YtibifnknkphanaaGreatDoorRowLaw
namespace Go.Proofs.YtibifnknkphanaaGreatDoor
open Go.ChangeShapes Go.WideShapes Go.ChangeAt Go.RowKit
set_option linter.unusedVariables false
set_option maxRecDepth 20000

theorem cells_u8 : Tryz.prog.cellsOf 5 = 1 := by kernel_rfl

section
variable {H : Type} {enc : TypeId × Value → H}

/-- Cells that read as a slice of bytes. -/
theorem open_bytes_cells {W : World} {v : Value} {fuel : Nat} {x : DataW H × List MemPlace} (hf : DataW.trod enc Tryz.prog W 0 (fun _ => true) true fuel 22 [v] = some x) : ∃ l : List UInt8, Sl W v l := by
  rcases open_ints Tryz.underlying22 Tryz.underlying5 cells_u8 hf with ⟨hcs, hx⟩ | ⟨a, len, cap, zs, hcs, _, hl, hm, hz, hx, hcell, hwz⟩
  · injection hcs with hcs _
    subst hcs
    exact ⟨[], Sl.nil _ _⟩
  · injection hcs with hcs _
    subst hcs
    simp only [if_true] at hz
    have hlz : ((zs.take len).map (fun z => UInt8.ofNat z.toNat)).length = len := by simp; omega
    refine ⟨(zs.take len).map (fun z => UInt8.ofNat z.toNat), _, cap, by rw [hlz], by rw [hlz]; exact hl, fun hn => ?_⟩
    rw [hlz] at hn
    obtain ⟨b, off, spot⟩ := a
    have hspot : spot = none := by simpa [Addr.add] using World.cell?_spot (hcell 0 (by omega))
    subst hspot
    refine ⟨b, off, rfl, fun j hj => ?_⟩
    rw [hlz] at hj
    have hc := hcell j (by omega)
    rw [add_plain] at hc
    rw [hc]
    have hj' : j < zs.length := by omega
    have hw := bounds_u8 (hwz zs[j] (List.getElem_mem hj'))
    have e1 : zs.getD j 0 = zs[j] := by simp [List.getD, List.getElem?_eq_getElem hj']
    rw [e1]
    simp only [List.getElem_map, List.getElem_take]
    congr 2
    have : (UInt8.ofNat zs[j].toNat).toNat = zs[j].toNat := by
      have h2 : zs[j].toNat < 256 := by omega
      simp only [UInt8.toNat_ofNat']; exact Nat.mod_eq_of_lt h2
    rw [this]; omega
/-- An argument of bytes, opened. -/
theorem open_bytes {W : World} {base : Nat} {v : Value} {d : DataW H} {ps : List MemPlace} (hv : Value.okWide Tryz.prog W .any base 22 v) (h : DataW.Trod enc Tryz.prog W 0 (fun _ => true) true 22 v d ps) :
    ∃ l : List UInt8, Sl W v l := by
  obtain ⟨a0, len, cap, rfl⟩ := okWide_slice Tryz.underlying22 hv
  obtain ⟨fuel, hf⟩ := h
  exact open_bytes_cells hf

/-- An unsigned number, opened: a natural one. -/
theorem nat_u64 {n : Int} (h : (Lit.int .u64 n).wf = true) : ∃ k : Nat, n = (k : Int) ∧ k < 18446744073709551616 := by
  have := bounds_u64 h
  exact ⟨n.toNat, by omega, by omega⟩
end
end Go.Proofs.YtibifnknkphanaaGreatDoor

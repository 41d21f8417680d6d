/-
  What the rows' condition gives: the start and the constants lie where the program lays them.
-/
import Derived.Test.YthlopecllhdmhaaDoorShaKnown
import Derived.Lib.LaidTab
import Derived.Stop.LaidErr
import Derived.LaidMore
import Derived.LaidHandle
namespace Go.Proofs.YthlopecllhdmhaaDoor
open Go.RowKit
set_option linter.unusedVariables false

theorem gStarts : Tryd.prog.globalNamed "minster/sha.starts" = some 0 := by kernel_rfl
theorem gConsts : Tryd.prog.globalNamed "minster/sha.constants" = some 1 := by kernel_rfl
theorem tStarts : (Tryd.prog.globals[0]?).map (·.type) = some 73 := by kernel_rfl
theorem tConsts : (Tryd.prog.globals[1]?).map (·.type) = some 84 := by kernel_rfl
def laid2 : List (String × DataW Unit) := [("minster/sha.starts", Rows.laid_minster_sha_starts), ("minster/sha.constants", Rows.laid_minster_sha_constants)]
theorem laid2_tab : laid2 = [("minster/sha.starts", Lib.tabData .u32 (shaS.list.map fun n : Nat => (n : Int))), ("minster/sha.constants", Lib.tabData .u32 (shaK.map fun n : Nat => (n : Int)))] := rfl
theorem var_heap {W : World} {name : String} {g : Nat} {cs : Array Value} (hg : Tryd.prog.globalNamed name = some g) (h : W.var? Tryd.prog name = some cs) : ∃ t f, W.heap[g]? = some (.cells cs t f) := by
  simp only [World.var?, hg, Option.bind_some] at h
  split at h
  · rename_i cs' t f e
    injection h with h
    subst h
    exact ⟨t, f, e⟩
  · cases h
theorem gl_of_laid {W : World} (h : laidMetH Tryd.prog laid2 W) : Gl W := by
  rw [MakeChecks.laidMetH_plain _ _ _ (by kernel_rfl), laid2_tab] at h
  have h0 := Lib.tabIs_of_head gStarts tStarts Tryd.underlying73 Tryd.underlying72 (by kernel_rfl) (by kernel_rfl) h
  have h1 := Lib.tabIs_of_head gConsts tConsts Tryd.underlying84 Tryd.underlying72 (by kernel_rfl) (by kernel_rfl) h.tail
  obtain ⟨t, f, e0⟩ := var_heap gStarts h0
  obtain ⟨t1, f1, e1⟩ := var_heap gConsts h1
  refine ⟨⟨t, f, ?_⟩, ⟨t1, f1, ?_⟩⟩
  · rw [e0, List.map_map]; rfl
  · rw [e1, List.map_map]; rfl
theorem door_met (os : Os) (args : Array Value) : laidMetH Tryd.prog laid2 ((World.doorLaid Tryd.prog 400 os).forCall (fun _ _ => 0) ⟨#[], args, []⟩).memory :=
  laidMetH_of_parts3 (fuel := 8) (laidMet_of_run' 8 (by kernel_rfl) (by kernel_rfl)) (by kernel_rfl) (by kernel_rfl)
end Go.Proofs.YthlopecllhdmhaaDoor

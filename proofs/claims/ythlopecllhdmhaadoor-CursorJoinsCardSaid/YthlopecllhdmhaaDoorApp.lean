/-
  Bytes appended to a row of the call's own: the block that may be written is named.
-/
import Derived.Test.YthlopecllhdmhaaDoorMem
import Derived.ChangeKeysEq
import Derived.Test.YthlopecllhdmhaaDoorVec
import Derived.Test.YthlopecllhdmhaaDoorHexPlain
namespace Go.Proofs.YthlopecllhdmhaaDoor
open Go.RowKit
set_option linter.unusedVariables false

section
variable {P : Program} (w : World)
end
theorem eqItems_self (d : Nat) {C : Array Value} {vec : List Nat} (h : Vec C vec) (w : World) : ∀ is : List Nat, (∀ i ∈ is, i < 16) → (Op.eqItems (d + 1) 23 1 C C is).run Tryd.prog w = .ok true w
  | [], _ => by simp [Op.eqItems]
  | i :: is, hi => by
    have hlt : i < vec.length := by rw [h.len]; exact hi i (by simp)
    have hp : (part 23 C (i * 1)).run Tryd.prog w = .ok (.int .u64 (vec[i] : Int)) w := by
      rw [Nat.mul_one]; simp [part, h.at_ i hlt]
    simp only [Op.eqItems, Sem.run_bind, hp, Result.andThen_ok, run_equalIn_int w d 23 .u64 .u64 _ _ Tryd.underlying23, beq_self_eq_true, Bool.not_true, Bool.false_eq_true, if_false]
    exact eqItems_self d h w is (fun j hj => hi j (by simp [hj]))
theorem cells_u64' : Tryd.prog.cellsOf 23 = 1 := by kernel_rfl
/-- A vector is equal to itself. -/
theorem vec_self {C : Array Value} {vec : List Nat} (h : Vec C vec) (w : World) : (Op.equalIn 10000 25 (.agg C) (.agg C)).run Tryd.prog w = .ok true w := by
  obtain ⟨i0, hi, _⟩ := info_parts info_u64
  rw [run_equalIn_array w 9999 C C Tryd.underlying25 hi, cells_u64']
  exact eqItems_self 9998 h w _ (fun i hi => by simpa using hi)
theorem Vec.uniq {C C' : Array Value} {vec : List Nat} (h : Vec C vec) (h' : Vec C' vec) : C = C' := by
  have : C.toList = C'.toList := h.cells.trans h'.cells.symm
  rw [← Array.toArray_toList (xs := C), this, Array.toArray_toList]
end Go.Proofs.YthlopecllhdmhaaDoor

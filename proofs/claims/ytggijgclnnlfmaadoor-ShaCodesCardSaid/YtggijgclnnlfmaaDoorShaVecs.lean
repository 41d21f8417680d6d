/-
  Slices that are made and filled, and the chapter's vectors.
-/
import Derived.Test.YtggijgclnnlfmaaDoorShaKnown
namespace Go.Proofs.YtggijgclnnlfmaaDoor
open Go.RowKit
set_option linter.unusedVariables false
set_option linter.unusedSimpArgs false

theorem make_zeros (n : Nat) (w : World) (hn : n ≤ 1000000) : (Instr.makeSlice 25 (.int .i64 (n : Int)) (.int .i64 (n : Int))).run Tryd.prog w = .ok (.slice (some ⟨w.heap.size, 0, none⟩) n n) (w.alloc (.cells (rowB (List.replicate n 0)) 5)) := by
  obtain ⟨i0, hi, hz0, hz1, hz2⟩ := info_parts info_u8
  rw [run_make (P := Tryd.prog) w 25 5 i0 (.int .u8 0) Tryd.underlying25 hi hz0 .i64 .i64 n n (by omega) (by omega) (by rw [hz2]; omega) (by omega), hz1]
  have e : madeCells (Value.int .u8 0).cells (Int.toNat n * 1) = rowB (List.replicate n 0) := by
    apply Array.toList_inj.1
    rw [show (Value.int .u8 0).cells = #[.int .u8 0] from rfl, toList_madeCells_one]
    simp [rowB, bv]
  rw [e]
  simp
/-- A row of noughts. -/
def zerosR (n : Nat) : Array Value := rowB (List.replicate n 0)
theorem make_at (n : Nat) (z : Int) (w : World) (hz : z = (n : Int)) (hn : n ≤ 1000000) : (Instr.makeSlice 25 (.int .i64 z) (.int .i64 z)).run Tryd.prog w = .ok (.slice (some ⟨w.heap.size, 0, none⟩) n n) (w.alloc (.cells (zerosR n) 5)) := by
  subst hz
  exact make_zeros n w hn
/-- k places of n filled with c. -/
def fillC (c : UInt8) (n k : Nat) : List UInt8 := List.replicate k c ++ List.replicate (n - k) 0
theorem fillC_zero (c : UInt8) (n : Nat) : fillC c n 0 = List.replicate n 0 := by simp [fillC]
/-- n times c. -/
def manyC (c : UInt8) (n : Nat) : List UInt8 := List.replicate n c
theorem manyC_length (c : UInt8) (n : Nat) : (manyC c n).length = n := by simp [manyC]
theorem fillC_done (c : UInt8) (n : Nat) : fillC c n n = manyC c n := by simp [fillC, manyC]
theorem fillC_length (c : UInt8) (n k : Nat) (h : k ≤ n) : (fillC c n k).length = n := by simp [fillC]; omega
theorem fillC_set (c : UInt8) (n k : Nat) (h : k < n) : (fillC c n k).set k c = fillC c n (k + 1) := by
  unfold fillC
  rw [List.set_append_right _ _ (by simp), List.length_replicate, Nat.sub_self, show n - k = (n - (k + 1)) + 1 by omega, List.replicate_succ, List.set_cons_zero, List.replicate_succ', List.append_assoc]
  rfl

theorem vec_1 : (shaN [97, 98, 99, 100, 98, 99, 100, 101, 99, 100, 101, 102, 100, 101, 102, 103, 101, 102, 103, 104, 102, 103, 104, 105, 103, 104, 105, 106, 104, 105, 106, 107, 105, 106, 107, 108, 106, 107, 108, 109, 107, 108, 109, 110, 108, 109, 110, 111, 109, 110, 111, 112, 110, 111, 112, 113]).take 4 = [36, 141, 106, 97] := by decide +kernel
theorem vec_2 : (shaN (List.replicate 1000 97)).take 4 = [65, 237, 236, 228] := by decide +kernel
theorem vec_3 : (codeN (List.replicate 20 11) [72, 105, 32, 84, 104, 101, 114, 101]).take 4 = [176, 52, 76, 97] := by decide +kernel
theorem vec_4 : (codeN (List.replicate 131 170) [84, 101, 115, 116, 32, 85, 115, 105, 110, 103, 32, 76, 97, 114, 103, 101, 114, 32, 84, 104, 97, 110, 32, 66, 108, 111, 99, 107, 45, 83, 105, 122, 101, 32, 75, 101, 121, 32, 45, 32, 72, 97, 115, 104, 32, 75, 101, 121, 32, 70, 105, 114, 115, 116]).take 4 = [96, 228, 49, 89] := by decide +kernel

end Go.Proofs.YtggijgclnnlfmaaDoor

/-
  The walks of wire.Vector and the document's Vector.
-/
import Derived.Test.YthlopecllhdmhaaDoorJoin
import Derived.Test.YthlopecllhdmhaaDoorEvMem
namespace Go.Proofs.YthlopecllhdmhaaDoor
open Go.RowKit
set_option linter.unusedVariables false

/-- A vector as a value's cells: sixteen numbers. -/
structure Vec (cs : Array Value) (vec : List Nat) : Prop where
  cells : cs.toList = vec.map (fun (n : Nat) => Value.int .u64 (n : Int))
  len : vec.length = 16
  lt : ∀ n ∈ vec, n < 18446744073709551616
theorem Vec.size {cs : Array Value} {vec : List Nat} (h : Vec cs vec) : cs.size = 16 := by rw [← Array.length_toList, h.cells, List.length_map, h.len]
theorem Vec.at_ {cs : Array Value} {vec : List Nat} (h : Vec cs vec) (k : Nat) (hk : k < vec.length) : cs[k]? = some (.int .u64 (vec[k] : Int)) := by
  rw [← Array.getElem?_toList, h.cells, List.getElem?_map, List.getElem?_eq_getElem hk]; rfl
theorem Vec.ltAt {cs : Array Value} {vec : List Nat} (h : Vec cs vec) (k : Nat) (hk : k < vec.length) : vec[k] < 18446744073709551616 := h.lt _ (List.getElem_mem hk)

/-- A vector's bytes. -/
def vecB (vec : List Nat) : List UInt8 := (vec.map (beB 8)).flatten
theorem vecB_take (vec : List Nat) (k : Nat) (h : k < vec.length) : vecB (vec.take (k + 1)) = vecB (vec.take k) ++ beB 8 vec[k] := by
  unfold vecB
  rw [List.take_succ_eq_append_getElem h, List.map_append, List.flatten_append]; simp
theorem vecB_length (vec : List Nat) : (vecB vec).length = 8 * vec.length := by
  induction vec with
  | nil => rfl
  | cons n vec ih =>
    have : vecB (n :: vec) = beB 8 n ++ vecB vec := by simp [vecB]
    rw [this, List.length_append, beB_length, ih, List.length_cons]; omega

theorem run_index_vec {cs : Array Value} {vec : List Nat} (h : Vec cs vec) (k : Nat) (hk : k < 16) (w : World) :
    (Instr.index 25 (.agg cs) (.int .i64 (k : Int))).run Tryd.prog w = .ok (.int .u64 (vec[k]'(by rw [h.len]; exact hk) : Int)) w := by
  obtain ⟨i0, hi, hz0, hz1, hz2⟩ := info_parts info_u64
  have hat := h.at_ k (by rw [h.len]; exact hk)
  have hs := h.size
  have hsz : k < cs.size := by omega
  simp [Instr.index, asIntOf, run_underlying Tryd.underlying25, sizeOf, typeInfo, hi, hz1, hk]
  simp [part, hat]

set_option maxHeartbeats 400000 in
theorem vector_any (cs : Array Value) (vec : List Nat) (w : World) (hv : Vec cs vec) :
    Calls Tryd.prog 20 #[.agg cs] w fun e w' => ∃ v', e = .returned v' ∧ Own w' w.heap.size 5 v' (vecB vec) ∧ Below w.heap.size w w' := by
  go_enter Tryd.func20, Tryd.ntmps20
  go_wp2_with (refine wpList_load_row rfl 25 _ rfl w.heap.size rfl 25 cs (0, 0) _ (heap_alloc_new w _) Tryd.underlying25 rfl (by rw [info_vec, hv.size]) ?_)
  go_loopw [3, 7] (fun x z wr => ∃ k : Nat, k ≤ 16 ∧ z = .int .i64 (k : Int) ∧ Own wr w.heap.size 5 x (vecB (vec.take k)) ∧ Below w.heap.size w wr) (fun _ z _ => 16 - (intOf z).toNat)
  case atStart => exact ⟨0, Nat.zero_le _, rfl, by simpa [vecB] using Own.nil, (Below.refl _ _).alloc (Nat.le_refl _) _⟩
  case round =>
    obtain ⟨k, hk, rfl, ho, hb⟩ := hrel
    by_cases hlt : k < 16
    · have hidx := run_index_vec hv k hlt
      have hkl : k < vec.length := by rw [hv.len]; exact hlt
      have hlen : (vecB (vec.take k)).length ≤ 100000 := by rw [vecB_length, List.length_take]; omega
      have hsz := hb.size
      go_wp2_with fail
      refine (appendNumber_any _ (vecB (vec.take k)) vec[k] 8 w.heap.size _ ho hsz hlen (by omega) (hv.ltAt k hkl)).mono ?_
      rintro e w1 ⟨v1, rfl, ho1, hb1⟩
      have Ho := Lib.hid ho1
      clear ho1
      clear hidx
      go_wp2
      go_roundw
      case rel => exact ⟨k + 1, by omega, by go_num, by rw [vecB_take vec k hkl]; exact Ho.out, hb.trans hb1⟩
      case measure => simp [intOf]; omega
    · obtain rfl : k = 16 := by omega
      go_wp2
      go_ret
      rw [← hv.len, List.take_length] at ho
      exact ⟨_, rfl, ho, hb⟩

set_option maxHeartbeats 400000 in
theorem refVector_any (cs : Array Value) (vec : List Nat) (w : World) (hv : Vec cs vec) :
    Calls Tryd.prog 24 #[.agg cs] w fun e w' => ∃ v', e = .returned v' ∧ Own w' w.heap.size 5 v' (vecB vec) ∧ Below w.heap.size w w' := by
  obtain ⟨i0, hi, hz0, hz1, hz2⟩ := info_parts info_u8
  go_enter Tryd.func24, Tryd.ntmps24
  go_wp2
  go_loopw [3, 4] (fun x z wr => ∃ k : Nat, k ≤ 16 ∧ z = .int .i64 (k : Int) ∧ Own wr (w.heap.size + 1) 5 x (vecB (vec.take k)) ∧ Below (w.heap.size + 1) (w.alloc (.cells cs 25)) wr) (fun _ z _ => 16 - (intOf z).toNat)
  case atStart => exact ⟨0, Nat.zero_le _, rfl, by simpa [vecB] using Own.nil, Below.refl _ _⟩
  case round =>
    obtain ⟨k, hk, rfl, ho, hb⟩ := hrel
    by_cases hlt : k < 16
    · have hkl : k < vec.length := by rw [hv.len]; exact hlt
      have hcell : wr.cell? ⟨w.heap.size, k, none⟩ = some (.int .u64 (vec[k] : Int)) := by
        rw [hb.cell (by simp), (Blk.new w _ cs).cell k]; exact hv.at_ k hkl
      have Hlen := Lib.hid (show (vecB (vec.take k)).length + (beB 8 vec[k]).length ≤ 1000000000 by rw [vecB_length, List.length_take, beB_length]; omega)
      have hsz : w.heap.size + 1 ≤ wr.heap.size := by have := hb.size; simpa using this
      go_wp2_with fail
      refine (refPut_any vec[k] 8 _ (by omega) (hv.ltAt k hkl)).mono ?_
      rintro e w1 ⟨v1, rfl, ho1, hb1⟩
      have hsz1 : w.heap.size + 1 ≤ w1.heap.size := Nat.le_trans hsz hb1.size
      clear hcell
      go_wp2_with (at_builtin; refine wpList_append_bytes _ rfl _ _ 22 rfl (w.heap.size + 1) 5 i0 Tryd.underlying22 hi hz0 hz1 hz2 _ (vecB (vec.take k)) rfl (ho.below hb1 (Nat.le_refl _)) _ (beB 8 vec[k]) rfl ho1.sl Hlen.out hsz1 ?_)
      intro v2 w2 ho2 hb2
      have Ho := Lib.hid ho2
      clear ho2
      go_wp2
      go_roundw
      case rel => exact ⟨k + 1, by omega, by go_num, by rw [vecB_take vec k hkl]; exact Ho.out, (hb.trans (hb1.mono hsz)).trans hb2⟩
      case measure => simp [intOf]; omega
    · obtain rfl : k = 16 := by omega
      go_wp2
      go_ret
      rw [← hv.len, List.take_length] at ho
      exact ⟨_, rfl, ho.mono (by omega), ((Below.refl _ _).alloc (Nat.le_refl _) _).trans (hb.mono (by omega))⟩
end Go.Proofs.YthlopecllhdmhaaDoor

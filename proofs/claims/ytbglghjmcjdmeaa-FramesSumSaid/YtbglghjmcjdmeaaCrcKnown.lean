/-
  The walk of minsterlaw02.known: the chapter's rows come out as they stand there.
-/
import Derived.Test.YtbglghjmcjdmeaaCrcClose
import Derived.Lib.SlBytesConst
namespace Go.Proofs.Ytbglghjmcjdmeaa
open Go.RowKit
set_option linter.unusedVariables false

/-- A string made of a slice of bytes, in the seat's program. -/
theorem conv_known {w : World} {v : Value} {l : List UInt8} (h : Sl w v l) : (convert 23 9 v).run Try.prog w = .ok (.string ⟨l.toArray⟩) w :=
  h.conv Try.underlying23 Try.underlying5 Try.underlying9
/-- A new row of bytes, whatever its mark, as a slice. -/
theorem Sl.of_mark (w : World) (e : TypeId) (C : Array Value) (fr : Nat × Nat) (l : List UInt8) (n c : Nat) (hn : n = l.length) (hc : n ≤ c) (hC : C.toList = l.map bv) :
    Sl (w.alloc (.cells C e fr)) (.slice (some ⟨w.heap.size, 0, none⟩) n c) l := by
  subst hn
  refine ⟨_, c, rfl, hc, fun _ => ⟨w.heap.size, 0, rfl, fun j hj => ?_⟩⟩
  rw [World.cell?_alloc_mark, Nat.zero_add, ← Array.getElem?_toList, hC]
  simp [List.getElem?_eq_getElem hj, bv]

/-- A new row of bytes, and a new list of it alone. -/
theorem Sls.mark (w : World) (e e2 : TypeId) (C : Array Value) (fr : Nat × Nat) (l : List UInt8) (n c : Nat) (hn : n = l.length) (hc : n ≤ c) (hC : C.toList = l.map bv) :
    Sls ((w.alloc (.cells C e fr)).alloc (.cells #[.slice (some ⟨w.heap.size, 0, none⟩) n c] e2)) (.slice (some ⟨w.heap.size + 1, 0, none⟩) 1 1) [l] := by
  have h := Sls.one _ e2 _ _ (Sl.of_mark w e C fr l n c hn hc hC)
  rw [show (w.alloc (.cells C e fr)).heap.size = w.heap.size + 1 from by simp] at h
  exact h

theorem make4 (w : World) : (Instr.makeSlice 23 (.int .i64 4) (.int .i64 4)).run Try.prog w = .ok (.slice (some ⟨w.heap.size, 0, none⟩) 4 4) (w.alloc (.cells #[.int .u8 0, .int .u8 0, .int .u8 0, .int .u8 0] 5)) := by
  obtain ⟨i0, hi, hz0, hz1, hz2⟩ := info_parts info_u8
  rw [run_make (P := Try.prog) w 23 5 i0 (.int .u8 0) Try.underlying23 hi hz0 .i64 .i64 4 4 (by decide) (by decide) (by rw [hz2]; decide) (by decide), hz1]
  have e : madeCells (Value.int .u8 0).cells (Int.toNat 4 * 1) = #[.int .u8 0, .int .u8 0, .int .u8 0, .int .u8 0] := by kernel_rfl
  rw [e]
  rfl
theorem crc_none : crcN ([] : List (List UInt8)).flatten = 0 := by decide +kernel
theorem crc_digits : crcN [([49, 50, 51, 52, 53, 54, 55, 56, 57] : List UInt8)].flatten = 3808858755 := by decide +kernel
theorem crc_a : crcN [([97] : List UInt8)].flatten = 3251651376 := by decide +kernel
theorem crc_0000 : crcN [([0, 0, 0, 0] : List UInt8)].flatten = 1214729159 := by decide +kernel
theorem close_none : closeB ([] : List (List UInt8)).flatten = [0, 0, 0, 0] := by decide +kernel
theorem crc_yes : crcN ([0, 0, 0, 0] : List UInt8) = resN := by decide +kernel
theorem crc_no : crcN ([0, 0, 0, 1] : List UInt8) ≠ resN := by decide +kernel

set_option maxHeartbeats 1000000 in
theorem known_any (w : World) : Calls Try.prog 8 #[] w fun e w' => e = .returned (.bool true) ∧ Below w.heap.size w w' := by
  have kc := fun (w : World) (C : Array Value) (n c : Nat) => Lib.run_convert_bytes_const (P := Try.prog) w 23 5 C n c Try.underlying23 Try.underlying5
  have hmk := make4
  go_enter Try.func8, Try.ntmps8
  go_wp2_with fail
  refine (open_yes _ [0, 0, 0, 0] _ (Sl.of_mark w 5 _ _ [0, 0, 0, 0] 4 4 rfl (Nat.le_refl _) rfl) (by decide) (by decide) crc_yes).mono ?_
  rintro e w1 ⟨v1, rfl, ho1, hb1⟩
  have b1 : Below w.heap.size w w1 := ((Below.refl _ _).alloc (Nat.le_refl _) _).trans (hb1.mono (by simp))
  obtain ⟨A1, n1, c1, rfl⟩ := ho1.shape
  obtain rfl : n1 = 0 := ho1.sl.len
  clear ho1 hb1
  go_wp2_with fail
  refine (open_no _ [0, 0, 0, 1] _ (Sl.of_mark w1 5 _ _ [0, 0, 0, 1] 4 4 rfl (Nat.le_refl _) rfl) (by decide) (fun _ => crc_no)).mono ?_
  rintro e w2 ⟨rfl, hb2⟩
  have b2 : Below w.heap.size w w2 := (b1.alloc b1.size _).trans (hb2.mono (by simp; have := b1.size; omega))
  clear b1 hb2
  go_wp2_with fail
  refine (sum_any _ [] _ (Sls.nil _ none 0) (by decide) (by decide)).mono ?_
  rintro e w3 ⟨rfl, hb3⟩
  rw [crc_none]
  have b3 := b2.trans (hb3.mono b2.size)
  clear b2 hb3
  go_wp2_with fail
  refine (sum_any _ [[49, 50, 51, 52, 53, 54, 55, 56, 57]] _ (Sls.mark w3 _ _ _ _ [49, 50, 51, 52, 53, 54, 55, 56, 57] 9 9 rfl (Nat.le_refl _) rfl) (by decide) (by decide)).mono ?_
  rintro e w4 ⟨rfl, hb4⟩
  rw [crc_digits]
  have b4 : Below w.heap.size w w4 := ((b3.alloc b3.size _).alloc (by simp; have := b3.size; omega) _).trans (hb4.mono (by simp; have := b3.size; omega))
  clear b3 hb4
  go_wp2_with fail
  refine (sum_any _ [[97]] _ (Sls.mark w4 _ _ _ _ [97] 1 1 rfl (Nat.le_refl _) rfl) (by decide) (by decide)).mono ?_
  rintro e w5 ⟨rfl, hb5⟩
  rw [crc_a]
  have b5 : Below w.heap.size w w5 := ((b4.alloc b4.size _).alloc (by simp; have := b4.size; omega) _).trans (hb5.mono (by simp; have := b4.size; omega))
  clear b4 hb5
  go_wp2_with fail
  refine (sum_any _ [[0, 0, 0, 0]] _ (Sls.mark w5 _ _ _ _ [0, 0, 0, 0] 4 4 rfl (Nat.le_refl _) rfl) (by decide) (by decide)).mono ?_
  rintro e w6 ⟨rfl, hb6⟩
  rw [crc_0000]
  have b6 : Below w.heap.size w w6 := ((b5.alloc b5.size _).alloc (by simp; have := b5.size; omega) _).trans (hb6.mono (by simp; have := b5.size; omega))
  clear b5 hb6
  go_wp2_with fail
  refine (close_any _ [] _ (Sls.nil _ none 0) (by decide) (by decide)).mono ?_
  rintro e w7 ⟨v7, rfl, ho7, hb7⟩
  have b7 := b6.trans (hb7.mono b6.size)
  clear b6 hb7
  rw [close_none] at ho7
  obtain ⟨A7, n7, c7, rfl⟩ := ho7.shape
  have k7 : (convert 23 9 (.slice A7 n7 c7)).run Try.prog w7 = .ok (.string ⟨#[0, 0, 0, 0]⟩) w7 := conv_known ho7.sl
  clear ho7
  go_wp2
  go_ret
  exact ⟨rfl, b7⟩
end Go.Proofs.Ytbglghjmcjdmeaa

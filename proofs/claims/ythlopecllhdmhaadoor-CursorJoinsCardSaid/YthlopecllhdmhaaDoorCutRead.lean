/-
  Readings of bytes that are cut anywhere: a blob, a dot, a vector.
-/
import Derived.Test.YthlopecllhdmhaaDoorReadV
import Derived.Test.YthlopecllhdmhaaDoorApp
namespace Go.Proofs.YthlopecllhdmhaaDoor
open Go.RowKit
set_option linter.unusedVariables false

/-- A reader at so many bytes, or one that has failed. -/
def RS (w : World) (g : Nat) : Option (List UInt8) → Prop
  | some l => Rd w g l
  | none => Fd w g
theorem RS.below {w w' : World} {g : Nat} {o : Option (List UInt8)} (h : RS w g o) (hb : Below w.heap.size w w') : RS w' g o := by
  cases o with
  | none => exact Fd.below h hb
  | some l => exact Rd.below h hb

/-- What is cut. -/
def allB (l : List UInt8) (k n : Nat) (vec : List Nat) : List UInt8 := beB 2 l.length ++ (l ++ ((beB 1 k ++ beB 8 n) ++ vecB vec))
theorem allB_length (l : List UInt8) (k n : Nat) (vec : List Nat) (hv : vec.length = 16) : (allB l k n vec).length = l.length + 139 := by
  simp only [allB, List.length_append, beB_length, vecB_length, hv]; omega
/-- What is left behind the blob, if it is whole. -/
def rest1 (l : List UInt8) (k n : Nat) (vec : List Nat) (a : Nat) : List UInt8 := ((beB 1 k ++ beB 8 n) ++ vecB vec).take (a - (2 + l.length))
def rest2 (l : List UInt8) (vec : List Nat) (a : Nat) : List UInt8 := (vecB vec).take (a - (11 + l.length))
theorem take_all (l : List UInt8) (k n : Nat) (vec : List Nat) (a : Nat) (h : 2 + l.length ≤ a) : (allB l k n vec).take a = beB 2 l.length ++ (l ++ rest1 l k n vec a) := by
  unfold allB rest1
  have hX := beB_length 2 l.length
  rw [List.take_append, List.take_of_length_le (by omega), List.take_append, List.take_of_length_le (by omega)]
  congr 3
  omega
theorem rest1_dot (l : List UInt8) (k n : Nat) (vec : List Nat) (a : Nat) (h : 11 + l.length ≤ a) : rest1 l k n vec a = (beB 1 k ++ beB 8 n) ++ rest2 l vec a := by
  unfold rest1 rest2
  have hY : (beB 1 k ++ beB 8 n).length = 9 := by rw [List.length_append, beB_length, beB_length]
  rw [List.take_append, List.take_of_length_le (by omega), hY]
  congr 2
  omega
theorem rest1_length (l : List UInt8) (k n : Nat) (vec : List Nat) (a : Nat) (hv : vec.length = 16) : (rest1 l k n vec a).length = min (a - (2 + l.length)) 137 := by
  simp only [rest1, List.length_take, List.length_append, beB_length, vecB_length, hv]
theorem rest2_length (l : List UInt8) (vec : List Nat) (a : Nat) (hv : vec.length = 16) : (rest2 l vec a).length = min (a - (11 + l.length)) 128 := by
  simp only [rest2, List.length_take, vecB_length, hv]
theorem dot_bytes (k n : Nat) (hk : k ≤ 255) : beB 1 k ++ beB 8 n = UInt8.ofNat (k % 256) :: beB 8 n := by simp [beB]
theorem vecB_drop (vec : List Nat) (i : Nat) (h : i < vec.length) : ((vecB vec).drop (8 * i)).take 8 = beB 8 vec[i] := by
  induction vec generalizing i with
  | nil => simp at h
  | cons m vec ih =>
    have e : vecB (m :: vec) = beB 8 m ++ vecB vec := by simp [vecB]
    have hl := beB_length 8 m
    rw [e]
    cases i with
    | zero => simp only [Nat.mul_zero, List.drop_zero, List.getElem_cons_zero]; rw [List.take_append, List.take_of_length_le (by omega)]; simp [hl]
    | succ i =>
      have := ih i (by simpa using h)
      rw [List.drop_append, List.drop_eq_nil_of_le (by omega), List.nil_append, hl, show 8 * (i + 1) - 8 = 8 * i from by omega, this]
      simp
theorem vecN_vecB (cs : Array Value) (vec : List Nat) (h : Vec cs vec) : vecN (vecB vec) = vec := by
  apply List.ext_getElem
  · rw [vecN_length, h.len]
  · intro i h1 h2
    rw [vecN_get, vecB_drop vec i h2, beN_beB 8 _ (by have := h.ltAt i h2; simpa using this)]

/-- The vector. -/
theorem vec_cut (g : Nat) (l : List UInt8) (a : Nat) (cs : Array Value) (vec : List Nat) (w : World) (hl : l.length ≤ 9000) (hv : Vec cs vec) (ha : a ≤ l.length + 139) (hr : RS w g (if 11 + l.length ≤ a then some (rest2 l vec a) else none)) :
    Calls Tryd.prog 29 #[.pointer (some ⟨g, 0, none⟩)] w fun e w' =>
      e = .returned (.agg (if a = l.length + 139 then cs else zeros.toArray)) ∧ RS w' g (if a = l.length + 139 then some [] else none) ∧ w.grownBy w' (some g) := by
  have h2l := rest2_length l vec a hv.len
  have hvl := vecB_length vec
  rw [hv.len] at hvl
  by_cases h1 : 11 + l.length ≤ a
  · rw [if_pos h1] at hr
    by_cases h : a = l.length + 139
    · simp only [if_pos h]
      have e : rest2 l vec a = vecB vec := by unfold rest2; rw [List.take_of_length_le (by omega)]
      rw [e] at hr
      refine (rvec_ok g (vecB vec) w hr (by omega) (by omega)).mono ?_
      rintro e' w' ⟨C, rfl, hC, hR, hgr⟩
      rw [List.take_of_length_le (by omega), vecN_vecB cs vec hv] at hC
      rw [List.drop_eq_nil_of_le (by omega)] at hR
      exact ⟨by rw [hC.uniq hv], hR, hgr⟩
    · simp only [if_neg h]
      refine (rvec_short g _ w hr (by omega)).mono ?_
      rintro e w' ⟨rfl, hf, hgr⟩
      exact ⟨rfl, hf, hgr⟩
  · rw [if_neg h1] at hr
    simp only [if_neg (show ¬ a = l.length + 139 by omega)]
    refine (rvec_failed g w hr).mono ?_
    rintro e w' ⟨rfl, hf, hgr⟩
    exact ⟨rfl, hf, hgr⟩
end Go.Proofs.YthlopecllhdmhaaDoor

/-
  The walks of the functions that lay numbers as bytes: wire.appendNumber, wire.Put; the document's Room and Put.
-/
import Derived.Test.YteneicngmglgbaaNum
namespace Go.Proofs.Yteneicngmglgbaa
open Go.RowKit
set_option linter.unusedVariables false

/-- A number's bytes, so many, the highest first. -/
def beB : Nat → Nat → List UInt8
  | 0, _ => []
  | k + 1, n => beB k (n / 256) ++ [UInt8.ofNat (n % 256)]
theorem beB_length : ∀ (k n : Nat), (beB k n).length = k
  | 0, _ => rfl
  | k + 1, n => by simp [beB, beB_length k]
/-- Byte i of so many. -/
theorem beB_get : ∀ (k n i : Nat) (h : i < (beB k n).length), (beB k n)[i] = UInt8.ofNat (n / 256 ^ (k - 1 - i) % 256)
  | 0, n, i, h => absurd h (by simp [beB])
  | k + 1, n, i, h => by
    have hl := beB_length k (n / 256)
    have hi : i < k + 1 := by have := beB_length (k + 1) n; omega
    simp only [beB]
    by_cases hk : i < k
    · rw [List.getElem_append_left (by omega), beB_get k (n / 256) i (by omega), Nat.div_div_eq_div_mul]
      have e : k + 1 - 1 - i = (k - 1 - i) + 1 := by omega
      rw [e, Nat.pow_succ, Nat.mul_comm 256]
    · have : i = k := by omega
      subst this
      rw [List.getElem_append_right (by omega)]
      simp [hl]
theorem ofNat_mod_toNat (m : Nat) : (UInt8.ofNat (m % 256)).toNat = m % 256 := by simp
theorem beB_take_succ (k n j : Nat) (h : j < k) : (beB k n).take (j + 1) = (beB k n).take j ++ [UInt8.ofNat (n / 256 ^ (k - 1 - j) % 256)] := by
  rw [take_snoc _ _ (by rw [beB_length]; exact h), beB_get]
theorem beN_beB : ∀ (k n : Nat), n < 256 ^ k → beN (beB k n) = n
  | 0, n, h => by simp at h; simp [beB, beN, h]
  | k + 1, n, h => by
    rw [beB, beN_snoc, beN_beB k (n / 256) (by rw [Nat.pow_succ] at h; omega), ofNat_mod_toNat]
    omega
/-- 'byte(n >> (8 * j))'. -/
theorem shr_byte (n j : Nat) (hj : j ≤ 8) (hn : n < 18446744073709551616) : IntKind.u8.wrap ((n : Int) / 2 ^ min (8 * (j : Int)).toNat IntKind.u64.bits) = ((n / 256 ^ j % 256 : Nat) : Int) := by
  have e0 : (8 * (j : Int)).toNat = 8 * j := by omega
  have e1 : min (8 * j) IntKind.u64.bits = 8 * j := by simp [IntKind.bits]; omega
  have e2 : (2 : Int) ^ (8 * j) = ((256 ^ j : Nat) : Int) := by
    rw [show (256 : Nat) = 2 ^ 8 from rfl, ← Nat.pow_mul]
    exact (Int.natCast_pow 2 (8 * j)).symm
  rw [e0, e1, e2]
  have e3 : ((n : Int) / ((256 ^ j : Nat) : Int)) = ((n / 256 ^ j : Nat) : Int) := by simp
  rw [e3]
  generalize n / 256 ^ j = m
  simp [IntKind.wrap, IntKind.bits, IntKind.signed]

theorem info_u8 : (Try.prog.info? 5).map (fun i => (i.zero, i.size, i.bytes)) = some (some (.int .u8 0), 1, 1) := by kernel_rfl

theorem take_byte (l : List UInt8) (n s j : Nat) (hj : j < s) : l ++ (beB s n).take (s - j) = (l ++ (beB s n).take (s - (j + 1))) ++ [UInt8.ofNat (n / 256 ^ j % 256)] := by
  have e : s - j = s - (j + 1) + 1 := by omega
  have e2 : s - 1 - (s - (j + 1)) = j := by omega
  rw [e, beB_take_succ s n (s - (j + 1)) (by omega), e2, List.append_assoc]
theorem shr_spell (n i : Nat) : (n : Int) / 2 ^ (8 * i) % 256 = ((UInt8.ofNat (n / 256 ^ i % 256)).toNat : Int) := by
  rw [ofNat_mod_toNat]
  have e2 : (2 : Int) ^ (8 * i) = ((256 ^ i : Nat) : Int) := by
    rw [show (256 : Nat) = 2 ^ 8 from rfl, ← Nat.pow_mul]
    exact (Int.natCast_pow 2 (8 * i)).symm
  rw [e2]
  have e3 : ((n : Int) / ((256 ^ i : Nat) : Int)) = ((n / 256 ^ i : Nat) : Int) := by simp
  rw [e3]
  generalize n / 256 ^ i = m
  omega

set_option maxHeartbeats 400000 in
theorem appendNumber_any (v : Value) (l : List UInt8) (n s base : Nat) (w : World) (hown : Own w base 5 v l) (hb : base ≤ w.heap.size)
    (hl : l.length ≤ 100000) (hs : s ≤ 8) (hn : n < 18446744073709551616) :
    Calls Try.prog 41 #[v, .int .u64 (n : Int), .int .i64 (s : Int)] w fun e w' =>
      ∃ v', e = .returned v' ∧ Own w' base 5 v' (l ++ beB s n) ∧ Below base w w' := by
  obtain ⟨i0, hi, hz0, hz1, hz2⟩ := info_parts info_u8
  go_enter Try.func41, Try.ntmps41
  go_wp2
  go_loopw [0, 2] (fun x z wr => ∃ j : Nat, j ≤ s ∧ z = .int .i64 (j : Int) ∧ Own wr base 5 x (l ++ (beB s n).take (s - j)) ∧ Below base w wr) (fun _ z _ => (intOf z).toNat)
  case atStart => exact ⟨s, Nat.le_refl _, rfl, by simpa using hown, Below.refl _ _⟩
  case round =>
    obtain ⟨j, hj, rfl, ho, hbel⟩ := hrel
    by_cases h0 : 0 < j
    · obtain ⟨i, rfl⟩ : ∃ i, j = i + 1 := ⟨j - 1, by omega⟩
      have hlen : (l ++ (beB s n).take (s - (i + 1))).length + 1 ≤ 1000000000 := by
        have := beB_length s n
        simp only [List.length_append, List.length_take]; omega
      have hbw : base ≤ wr.heap.size := Nat.le_trans hb hbel.size
      go_wp2_with (at_builtin; refine wpList_append_bytes _ rfl _ _ 23 rfl base 5 i0 Try.underlying23 hi hz0 hz1 hz2 _ (l ++ (beB s n).take (s - (i + 1))) rfl (ho.alloc _) _ [UInt8.ofNat (n / 256 ^ i % 256)] rfl (Sl.one wr 5 _ _ (shr_spell n i)) ?_ ?_ ?_)
      · exact hlen
      · simp; omega
      · intro v' w1 ho1 hb1
        have Ho := Lib.hid ho1
        clear ho1
        go_wp2
        go_roundw
        case rel => exact ⟨i, by omega, by go_num, by rw [take_byte l n s i (by omega), List.append_assoc]; exact Ho.out, (hbel.alloc hbw _).trans hb1⟩
        case measure => simp [intOf]
    · obtain rfl : j = 0 := by omega
      go_wp2
      go_ret
      have e : (beB s n).take (s - 0) = beB s n := List.take_of_length_le (by rw [beB_length]; omega)
      rw [e] at ho
      exact ⟨_, rfl, ho, hbel⟩

end Go.Proofs.Yteneicngmglgbaa

/-
  The walks of the functions on numbers: wire.number, wire.Get, wire.appendNumber, wire.Put; the document's Room, Put, Get.
-/
import Derived.Test.YthlopecllhdmhaaDoorMem
namespace Go.Proofs.YthlopecllhdmhaaDoor
open Go.RowKit
set_option linter.unusedVariables false

/-- The number that bytes say, the highest first. -/
def beN (l : List UInt8) : Nat := l.foldl (fun n c => n * 256 + c.toNat) 0
theorem beN_snoc (l : List UInt8) (c : UInt8) : beN (l ++ [c]) = beN l * 256 + c.toNat := by simp [beN]
theorem beN_lt (l : List UInt8) : beN l < 256 ^ l.length := by
  suffices ∀ (l : List UInt8) (n k : Nat), n < 256 ^ k → l.foldl (fun n c => n * 256 + c.toNat) n < 256 ^ (k + l.length) by have := this l 0 0 (by simp); simpa [beN] using this
  intro l
  induction l with
  | nil => intro n k h; simpa using h
  | cons c l ih =>
    intro n k h
    have hc : c.toNat < 256 := c.toNat_lt
    have := ih (n * 256 + c.toNat) (k + 1) (by rw [Nat.pow_succ]; omega)
    simpa [Nat.add_assoc, Nat.add_comm, Nat.add_left_comm] using this
theorem take_snoc (l : List UInt8) (k : Nat) (h : k < l.length) : l.take (k + 1) = l.take k ++ [l[k]] := List.take_succ_eq_append_getElem h
theorem beN_take (l : List UInt8) (k : Nat) (h : k < l.length) : beN (l.take (k + 1)) = beN (l.take k) * 256 + l[k].toNat := by rw [take_snoc l k h, beN_snoc]


theorem pow_le8 {k : Nat} (h : k ≤ 8) : 256 ^ k ≤ 18446744073709551616 := by
  have : 256 ^ k ≤ 256 ^ 8 := Nat.pow_le_pow_right (by decide) h
  simpa using this
theorem beN_lt64 (l : List UInt8) (h : l.length ≤ 8) : beN l < 18446744073709551616 := Nat.lt_of_lt_of_le (beN_lt l) (pow_le8 h)
theorem beN_take_lt (l : List UInt8) (k : Nat) (h : l.length ≤ 8) (hk : k < l.length) : beN (l.take k) * 256 + 255 < 18446744073709551616 := by
  have h1 := beN_lt (l.take k)
  have h2 : 256 ^ (l.take k).length ≤ 256 ^ 7 := Nat.pow_le_pow_right (by decide) (by simp; omega)
  have h3 : (256 : Nat) ^ 7 = 72057594037927936 := by decide
  omega
/-- 'n << 8 | c', where there is room. -/
theorem or_byte (n : Nat) (c : UInt8) (h : n * 256 + 255 < 18446744073709551616) :
    bits .or .u64 (IntKind.u64.wrap ((n : Int) * 256)) (IntKind.u64.wrap (c.toNat : Int)) = ((n * 256 + c.toNat : Nat) : Int) := by
  have hc : c.toNat < 256 := c.toNat_lt
  have b1 : n * 256 < 18446744073709551616 := Nat.lt_of_le_of_lt (Nat.le_add_right _ _) h
  have b2 : c.toNat < 18446744073709551616 := Nat.lt_trans hc (by decide)
  have e1 : IntKind.u64.wrap ((n : Int) * 256) = ((n * 256 : Nat) : Int) := by rw [IntKind.wrap_u64]; omega
  have e2 : IntKind.u64.wrap (c.toNat : Int) = ((c.toNat : Nat) : Int) := by rw [IntKind.wrap_u64]; omega
  rw [e1, e2, u64_or_nat (n * 256) c.toNat b1 b2]
  clear e1 e2
  have := Nat.shiftLeft_add_eq_or_of_lt (b := c.toNat) (i := 8) (by simpa using hc) n
  rw [Nat.shiftLeft_eq] at this
  simp only [Nat.reducePow] at this
  omega
/-- 'n * 256 + c', where there is room. -/
theorem add_byte (n : Nat) (c : UInt8) (h : n * 256 + 255 < 18446744073709551616) :
    IntKind.u64.wrap (IntKind.u64.wrap ((n : Int) * 256) + IntKind.u64.wrap (c.toNat : Int)) = ((n * 256 + c.toNat : Nat) : Int) := by
  have hc : c.toNat < 256 := c.toNat_lt
  simp only [IntKind.wrap_u64]; omega

set_option maxHeartbeats 400000 in
theorem number_any (v : Value) (l : List UInt8) (w : World) (hs : Sl w v l) (h8 : l.length ≤ 8) :
    Calls Tryd.prog 40 #[v] w fun e w' => e = .returned (.int .u64 (beN l : Int)) ∧ w = w' := by
  obtain ⟨A, c, rfl, hc, ha⟩ := hs
  go_enter Tryd.func40, Tryd.ntmps40
  go_wp2
  go_loop [3, 8] (fun n i => ∃ k : Nat, k ≤ l.length ∧ i = .int .i64 k ∧ n = .int .u64 (beN (l.take k) : Int)) (fun _ i => l.length - (intOf i).toNat)
  case atStart => exact ⟨0, Nat.zero_le _, rfl, rfl⟩
  case round =>
    obtain ⟨k, hk, rfl, rfl⟩ := hrel
    by_cases hlt : k < l.length
    · obtain ⟨b, o, rfl, hx⟩ := ha (by omega)
      have hcell := hx k hlt
      have H := Lib.hid (beN_take l k hlt)
      clear hx ha
      go_wp2
      go_round
      case rel => exact ⟨k + 1, by omega, by go_num, by rw [or_byte _ _ (beN_take_lt l k h8 hlt), H.out]⟩
      case measure => simp [intOf]; omega
    · go_wp2
      go_ret
      exact ⟨ret_int (by rw [List.take_of_length_le (by omega)]), rfl⟩

set_option maxHeartbeats 400000 in
theorem refGet_any (v : Value) (l : List UInt8) (w : World) (hs : Sl w v l) (h8 : l.length ≤ 8) :
    Calls Tryd.prog 31 #[v] w fun e w' => e = .returned (.int .u64 (beN l : Int)) ∧ w = w' := by
  obtain ⟨A, c, rfl, hc, ha⟩ := hs
  go_enter Tryd.func31, Tryd.ntmps31
  go_wp2
  go_loop [3, 4] (fun n i => ∃ k : Nat, k ≤ l.length ∧ i = .int .i64 k ∧ n = .int .u64 (beN (l.take k) : Int)) (fun _ i => l.length - (intOf i).toNat)
  case atStart => exact ⟨0, Nat.zero_le _, rfl, rfl⟩
  case round =>
    obtain ⟨k, hk, rfl, rfl⟩ := hrel
    by_cases hlt : k < l.length
    · obtain ⟨b, o, rfl, hx⟩ := ha (by omega)
      have hcell := hx k hlt
      have H := Lib.hid (beN_take l k hlt)
      clear hx ha
      go_wp2
      go_round
      case rel => exact ⟨k + 1, by omega, by go_num, by rw [add_byte _ _ (beN_take_lt l k h8 hlt), H.out]⟩
      case measure => simp [intOf]; omega
    · go_wp2
      go_ret
      exact ⟨ret_int (by rw [List.take_of_length_le (by omega)]), rfl⟩

end Go.Proofs.YthlopecllhdmhaaDoor

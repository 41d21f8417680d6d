/-
  The document's Get, Put, Join, Much (made by a program out of the texts on wire, with 3000 in the place of 9000).
-/
import Derived.Test.YtdbhffkfkklehaaDoorShaEq
import Derived.Deep.OwnRows
import Derived.Deep.RegionHeld3
import Derived.Deep.RegionLaw
namespace Go.Proofs.YtdbhffkfkklehaaDoor
open Go.RowKit
set_option linter.unusedVariables false
set_option linter.unusedSimpArgs false

/-- The number that bytes say, the highest first. -/
def beN (l : List UInt8) : Nat := l.foldl (fun n c => n * 256 + c.toNat) 0
theorem beN_snoc (l : List UInt8) (c : UInt8) : beN (l ++ [c]) = beN l * 256 + c.toNat := by simp [beN]
theorem beN_lt (l : List UInt8) : beN l < 256 ^ l.length := by
  suffices ∀ (l : List UInt8) (n k : Nat), n < 256 ^ k → l.foldl (fun n c => n * 256 + c.toNat) n < 256 ^ (k + l.length) by have := this l 0 0 (by simp); simpa [beN] using this
  intro l
  induction l with
  | nil => intro n k h; simpa using h
  | cons c l ih =>
    intro n k h
    have hc : c.toNat < 256 := c.toNat_lt
    have := ih (n * 256 + c.toNat) (k + 1) (by rw [Nat.pow_succ]; omega)
    simpa [Nat.add_assoc, Nat.add_comm, Nat.add_left_comm] using this
theorem beN_take (l : List UInt8) (k : Nat) (h : k < l.length) : beN (l.take (k + 1)) = beN (l.take k) * 256 + l[k].toNat := by rw [take_snoc l k h, beN_snoc]

theorem beN_take_lt (l : List UInt8) (k : Nat) (h : l.length ≤ 8) (hk : k < l.length) : beN (l.take k) * 256 + 255 < 18446744073709551616 := by
  have h1 := beN_lt (l.take k)
  have h2 : 256 ^ (l.take k).length ≤ 256 ^ 7 := Nat.pow_le_pow_right (by decide) (by simp; omega)
  have h3 : (256 : Nat) ^ 7 = 72057594037927936 := by decide
  omega
/-- 'n * 256 + c', where there is room. -/
theorem add_byte (n : Nat) (c : UInt8) (h : n * 256 + 255 < 18446744073709551616) :
    IntKind.u64.wrap (IntKind.u64.wrap ((n : Int) * 256) + IntKind.u64.wrap (c.toNat : Int)) = ((n * 256 + c.toNat : Nat) : Int) := by
  have hc : c.toNat < 256 := c.toNat_lt
  simp only [IntKind.wrap_u64]; omega

set_option maxHeartbeats 400000 in
theorem refGet_any (v : Value) (l : List UInt8) (w : World) (hs : Sl w v l) (h8 : l.length ≤ 8) :
    Calls Tryd.prog 40 #[v] w fun e w' => e = .returned (.int .u64 (beN l : Int)) ∧ w = w' := by
  obtain ⟨A, c, rfl, hc, ha⟩ := hs
  go_enter Tryd.func40, Tryd.ntmps40
  go_wp2
  go_loop [3, 4] (fun n i => ∃ k : Nat, k ≤ l.length ∧ i = .int .i64 k ∧ n = .int .u64 (beN (l.take k) : Int)) (fun _ i => l.length - (intOf i).toNat)
  case atStart => exact ⟨0, Nat.zero_le _, rfl, rfl⟩
  case round =>
    obtain ⟨k, hk, rfl, rfl⟩ := hrel
    by_cases hlt : k < l.length
    · obtain ⟨b, o, rfl, hx⟩ := ha (by omega)
      have hcell := hx k hlt
      have H := Lib.hid (beN_take l k hlt)
      clear hx ha
      go_wp2
      go_round
      case rel => exact ⟨k + 1, by omega, by go_num, by rw [add_byte _ _ (beN_take_lt l k h8 hlt), H.out]⟩
      case measure => simp [intOf]; omega
    · go_wp2
      go_ret
      exact ⟨ret_int (by rw [List.take_of_length_le (by omega)]), rfl⟩

def sh (n j : Nat) : Nat := n / 256 ^ j
theorem sh_zero (n : Nat) : sh n 0 = n := by simp [sh]
theorem sh_succ (n k : Nat) : sh n (k + 1) = sh n k / 256 := by unfold sh; rw [Nat.div_div_eq_div_mul, Nat.pow_succ]
theorem sh_lt (n k : Nat) (hn : n < 18446744073709551616) : sh n k < 18446744073709551616 := Nat.lt_of_le_of_lt (Nat.div_le_self _ _) hn
def putRow (n s i : Nat) (C : Array Value) : Prop := C.size = s ∧ ∀ j, i ≤ j → j < s → C[j]? = some (.int .u8 ((sh n (s - 1 - j) % 256 : Nat) : Int))
theorem putRow_start (n s : Nat) (C : Array Value) (h : C.size = s) : putRow n s s C := ⟨h, fun j h1 h2 => absurd h2 (by omega)⟩
theorem putRow_step {n s i : Nat} {C : Array Value} (h : putRow n s (i + 1) C) (hi : i < s) (x : Int) (hx : x = ((sh n (s - 1 - i) % 256 : Nat) : Int)) : putRow n s i (C.setIfInBounds i (.int .u8 x)) := by
  subst hx
  refine ⟨by simpa using h.1, fun j h1 h2 => ?_⟩
  have hs := h.1
  rcases Nat.eq_or_lt_of_le h1 with e | e
  · subst e
    rw [Array.getElem?_setIfInBounds_self_of_lt (by omega)]
  · rw [Array.getElem?_setIfInBounds_ne (by omega)]
    exact h.2 j (by omega) h2
theorem putRow_done {n s : Nat} {C : Array Value} (h : putRow n s 0 C) : C.toList = (beB s n).map bv := by
  apply List.ext_getElem?
  intro j
  by_cases hj : j < s
  · have h1 := h.2 j (Nat.zero_le _) hj
    rw [Array.getElem?_toList, h1, List.getElem?_map, List.getElem?_eq_getElem (by rw [beB_length]; exact hj), beB_get]
    simp [bv, sh]
  · have hs := h.1
    rw [List.getElem?_eq_none (by simp; omega), List.getElem?_eq_none (by simp [beB_length]; omega)]

set_option maxHeartbeats 400000 in
theorem refPut_any (n s : Nat) (w : World) (hs : s ≤ 8) (hn : n < 18446744073709551616) :
    Calls Tryd.prog 39 #[.int .u64 (n : Int), .int .i64 (s : Int)] w fun e w' =>
      ∃ v', e = .returned v' ∧ Own w' w.heap.size 5 v' (beB s n) ∧ Below w.heap.size w w' := by
  have hmk := run_make_row' (P := Tryd.prog) 45 5 (.int .u8 0) 1 Tryd.underlying45 info_u8 rfl .i64 .i64 s (by omega) (by omega)
  go_enter Tryd.func39, Tryd.ntmps39
  go_wp2
  clear hmk
  go_loopw [0, 6] (fun x z wr => ∃ (i : Nat) (C : Array Value), i ≤ s ∧ z = .int .i64 ((i : Int) - 1) ∧ x = .int .u64 ((sh n (s - i) : Nat) : Int) ∧ wr = w.alloc (.cells C 5) ∧ putRow n s i C) (fun _ z _ => (intOf z + 1).toNat)
  case atStart => exact ⟨s, _, Nat.le_refl _, rfl, by rw [Nat.sub_self, sh_zero], rfl, putRow_start n s _ (by simp [madeCells])⟩
  case round =>
    obtain ⟨i, C, hi, rfl, rfl, rfl, hC⟩ := hrel
    by_cases h0 : 0 < i
    · obtain ⟨k, rfl⟩ : ∃ k, i = k + 1 := ⟨i - 1, by omega⟩
      have hd := sh_lt n (s - (k + 1)) hn
      have hsz : k < C.size := by rw [hC.1]; omega
      have hcell : (w.alloc (.cells C 5)).cell? ⟨w.heap.size, k, none⟩ = some C[k] := by rw [(Blk.new w _ C).cell k]; exact Array.getElem?_eq_getElem hsz
      go_wp2
      go_roundw
      case rel => exact ⟨k, _, by omega, rfl, by rw [show s - k = s - (k + 1) + 1 from by omega, sh_succ]; simp, rfl, putRow_step hC (by omega) _ (by rw [show s - 1 - k = s - (k + 1) from by omega]; simp)⟩
      case measure => simp [intOf]
    · obtain rfl : i = 0 := by omega
      go_wp2
      go_ret
      exact ⟨_, rfl, Own.of_new w _ _ C _ s (Nat.le_refl _) (putRow_done hC) (beB_length _ _).symm (by rw [beB_length]; omega), (Below.refl _ _).alloc (Nat.le_refl _) _⟩
end Go.Proofs.YtdbhffkfkklehaaDoor

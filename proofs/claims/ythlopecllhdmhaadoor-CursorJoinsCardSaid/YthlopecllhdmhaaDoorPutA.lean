/-
  The walks of the functions that lay numbers as bytes: wire.appendNumber, wire.Put; the document's Room and Put.
-/
import Derived.Test.YthlopecllhdmhaaDoorNum
import Derived.Deep.OwnRows
namespace Go.Proofs.YthlopecllhdmhaaDoor
open Go.RowKit
set_option linter.unusedVariables false

/-- A number's bytes, so many, the highest first. -/
def beB : Nat → Nat → List UInt8
  | 0, _ => []
  | k + 1, n => beB k (n / 256) ++ [UInt8.ofNat (n % 256)]
theorem beB_length : ∀ (k n : Nat), (beB k n).length = k
  | 0, _ => rfl
  | k + 1, n => by simp [beB, beB_length k]
/-- Byte i of so many. -/
theorem beB_get : ∀ (k n i : Nat) (h : i < (beB k n).length), (beB k n)[i] = UInt8.ofNat (n / 256 ^ (k - 1 - i) % 256)
  | 0, n, i, h => absurd h (by simp [beB])
  | k + 1, n, i, h => by
    have hl := beB_length k (n / 256)
    have hi : i < k + 1 := by have := beB_length (k + 1) n; omega
    simp only [beB]
    by_cases hk : i < k
    · rw [List.getElem_append_left (by omega), beB_get k (n / 256) i (by omega), Nat.div_div_eq_div_mul]
      have e : k + 1 - 1 - i = (k - 1 - i) + 1 := by omega
      rw [e, Nat.pow_succ, Nat.mul_comm 256]
    · have : i = k := by omega
      subst this
      rw [List.getElem_append_right (by omega)]
      simp [hl]
theorem ofNat_mod_toNat (m : Nat) : (UInt8.ofNat (m % 256)).toNat = m % 256 := by simp
theorem beB_take_succ (k n j : Nat) (h : j < k) : (beB k n).take (j + 1) = (beB k n).take j ++ [UInt8.ofNat (n / 256 ^ (k - 1 - j) % 256)] := by
  rw [take_snoc _ _ (by rw [beB_length]; exact h), beB_get]
theorem beN_beB : ∀ (k n : Nat), n < 256 ^ k → beN (beB k n) = n
  | 0, n, h => by simp at h; simp [beB, beN, h]
  | k + 1, n, h => by
    rw [beB, beN_snoc, beN_beB k (n / 256) (by rw [Nat.pow_succ] at h; omega), ofNat_mod_toNat]
    omega
/-- 'byte(n >> (8 * j))'. -/
theorem shr_byte (n j : Nat) (hj : j ≤ 8) (hn : n < 18446744073709551616) : IntKind.u8.wrap ((n : Int) / 2 ^ min (8 * (j : Int)).toNat IntKind.u64.bits) = ((n / 256 ^ j % 256 : Nat) : Int) := by
  have e0 : (8 * (j : Int)).toNat = 8 * j := by omega
  have e1 : min (8 * j) IntKind.u64.bits = 8 * j := by simp [IntKind.bits]; omega
  have e2 : (2 : Int) ^ (8 * j) = ((256 ^ j : Nat) : Int) := by
    rw [show (256 : Nat) = 2 ^ 8 from rfl, ← Nat.pow_mul]
    exact (Int.natCast_pow 2 (8 * j)).symm
  rw [e0, e1, e2]
  have e3 : ((n : Int) / ((256 ^ j : Nat) : Int)) = ((n / 256 ^ j : Nat) : Int) := by simp
  rw [e3]
  generalize n / 256 ^ j = m
  simp [IntKind.wrap, IntKind.bits, IntKind.signed]

theorem info_u8 : (Tryd.prog.info? 5).map (fun i => (i.zero, i.size, i.bytes)) = some (some (.int .u8 0), 1, 1) := by kernel_rfl

theorem take_byte (l : List UInt8) (n s j : Nat) (hj : j < s) : l ++ (beB s n).take (s - j) = (l ++ (beB s n).take (s - (j + 1))) ++ [UInt8.ofNat (n / 256 ^ j % 256)] := by
  have e : s - j = s - (j + 1) + 1 := by omega
  have e2 : s - 1 - (s - (j + 1)) = j := by omega
  rw [e, beB_take_succ s n (s - (j + 1)) (by omega), e2, List.append_assoc]
theorem shr_spell (n i : Nat) : (n : Int) / 2 ^ (8 * i) % 256 = ((UInt8.ofNat (n / 256 ^ i % 256)).toNat : Int) := by
  rw [ofNat_mod_toNat]
  have e2 : (2 : Int) ^ (8 * i) = ((256 ^ i : Nat) : Int) := by
    rw [show (256 : Nat) = 2 ^ 8 from rfl, ← Nat.pow_mul]
    exact (Int.natCast_pow 2 (8 * i)).symm
  rw [e2]
  have e3 : ((n : Int) / ((256 ^ i : Nat) : Int)) = ((n / 256 ^ i : Nat) : Int) := by simp
  rw [e3]
  generalize n / 256 ^ i = m
  omega

set_option maxHeartbeats 400000 in
theorem appendNumber_any (v : Value) (l : List UInt8) (n s base : Nat) (w : World) (hown : Own w base 5 v l) (hb : base ≤ w.heap.size)
    (hl : l.length ≤ 100000) (hs : s ≤ 8) (hn : n < 18446744073709551616) :
    Calls Tryd.prog 32 #[v, .int .u64 (n : Int), .int .i64 (s : Int)] w fun e w' =>
      ∃ v', e = .returned v' ∧ Own w' base 5 v' (l ++ beB s n) ∧ Below base w w' := by
  obtain ⟨i0, hi, hz0, hz1, hz2⟩ := info_parts info_u8
  go_enter Tryd.func32, Tryd.ntmps32
  go_wp2
  go_loopw [0, 2] (fun x z wr => ∃ j : Nat, j ≤ s ∧ z = .int .i64 (j : Int) ∧ Own wr base 5 x (l ++ (beB s n).take (s - j)) ∧ Below base w wr) (fun _ z _ => (intOf z).toNat)
  case atStart => exact ⟨s, Nat.le_refl _, rfl, by simpa using hown, Below.refl _ _⟩
  case round =>
    obtain ⟨j, hj, rfl, ho, hbel⟩ := hrel
    by_cases h0 : 0 < j
    · obtain ⟨i, rfl⟩ : ∃ i, j = i + 1 := ⟨j - 1, by omega⟩
      have hlen : (l ++ (beB s n).take (s - (i + 1))).length + 1 ≤ 1000000000 := by
        have := beB_length s n
        simp only [List.length_append, List.length_take]; omega
      have hbw : base ≤ wr.heap.size := Nat.le_trans hb hbel.size
      go_wp2_with (at_builtin; refine wpList_append_bytes _ rfl _ _ 22 rfl base 5 i0 Tryd.underlying22 hi hz0 hz1 hz2 _ (l ++ (beB s n).take (s - (i + 1))) rfl (ho.alloc _) _ [UInt8.ofNat (n / 256 ^ i % 256)] rfl (Sl.one wr 5 _ _ (shr_spell n i)) ?_ ?_ ?_)
      · exact hlen
      · simp; omega
      · intro v' w1 ho1 hb1
        have Ho := Lib.hid ho1
        clear ho1
        go_wp2
        go_roundw
        case rel => exact ⟨i, by omega, by go_num, by rw [take_byte l n s i (by omega), List.append_assoc]; exact Ho.out, (hbel.alloc hbw _).trans hb1⟩
        case measure => simp [intOf]
    · obtain rfl : j = 0 := by omega
      go_wp2
      go_ret
      have e : (beB s n).take (s - 0) = beB s n := List.take_of_length_le (by rw [beB_length]; omega)
      rw [e] at ho
      exact ⟨_, rfl, ho, hbel⟩

end Go.Proofs.YthlopecllhdmhaaDoor

namespace Go.Proofs.YthlopecllhdmhaaDoor
open Go.RowKit
set_option linter.unusedVariables false

theorem shr_zero (n s : Nat) (h : n < 256 ^ s) : ((n : Int) / 2 ^ (8 * s) != 0) = false := by
  have e2 : (2 : Int) ^ (8 * s) = ((256 ^ s : Nat) : Int) := by
    rw [show (256 : Nat) = 2 ^ 8 from rfl, ← Nat.pow_mul]
    exact (Int.natCast_pow 2 (8 * s)).symm
  have e3 : (n : Int) / ((256 ^ s : Nat) : Int) = ((n / 256 ^ s : Nat) : Int) := by simp
  rw [e2, e3, Nat.div_eq_of_lt h]; rfl
theorem shr_some (n s : Nat) (h : ¬ n < 256 ^ s) : ((n : Int) / 2 ^ (8 * s) != 0) = true := by
  have e2 : (2 : Int) ^ (8 * s) = ((256 ^ s : Nat) : Int) := by
    rw [show (256 : Nat) = 2 ^ 8 from rfl, ← Nat.pow_mul]
    exact (Int.natCast_pow 2 (8 * s)).symm
  have e3 : (n : Int) / ((256 ^ s : Nat) : Int) = ((n / 256 ^ s : Nat) : Int) := by simp
  have hp : 0 < n / 256 ^ s := Nat.div_pos (by omega) (Nat.pow_pos (by decide))
  rw [e2, e3, bne_iff_ne]; omega

/-- Has a number room in so many bytes? -/
def roomB (n : Nat) (s : Int) : Bool := decide (1 ≤ s ∧ s ≤ 8 ∧ n < 256 ^ s.toNat)

/-- A number without its lowest j bytes. -/
def sh (n j : Nat) : Nat := n / 256 ^ j
theorem sh_zero (n : Nat) : sh n 0 = n := by simp [sh]
theorem sh_succ (n k : Nat) : sh n (k + 1) = sh n k / 256 := by unfold sh; rw [Nat.div_div_eq_div_mul, Nat.pow_succ]
theorem sh_lt (n k : Nat) (hn : n < 18446744073709551616) : sh n k < 18446744073709551616 := Nat.lt_of_le_of_lt (Nat.div_le_self _ _) hn
theorem quo_wrap (m : Nat) (h : m < 18446744073709551616) : IntKind.u64.wrap ((m : Int).tdiv 256) = ((m / 256 : Nat) : Int) := by
  rw [IntKind.wrap_u64, Int.tdiv_eq_ediv_of_nonneg (by omega)]; omega
theorem room_eq (n k : Nat) (h1 : 1 ≤ (k : Int)) (h8 : (k : Int) ≤ 8) : ((sh n k : Int) == 0) = roomB n (k : Int) := by
  unfold roomB
  rw [Bool.eq_iff_iff]
  simp only [beq_iff_eq, decide_eq_true_eq, Int.toNat_natCast]
  have hp : 0 < 256 ^ k := Nat.pow_pos (by decide)
  unfold sh
  constructor
  · intro h
    refine ⟨h1, h8, ?_⟩
    have h0 : n / 256 ^ k = 0 := by omega
    rcases Nat.div_eq_zero_iff.1 h0 with h | h
    · omega
    · exact h
  · rintro ⟨_, _, h⟩
    rw [Nat.div_eq_of_lt h]; rfl

/-- What the document's Put has laid when the bytes from i on are laid. -/
def putRow (n s i : Nat) (C : Array Value) : Prop := C.size = s ∧ ∀ j, i ≤ j → j < s → C[j]? = some (.int .u8 ((sh n (s - 1 - j) % 256 : Nat) : Int))
theorem putRow_start (n s : Nat) (C : Array Value) (h : C.size = s) : putRow n s s C := ⟨h, fun j h1 h2 => absurd h2 (by omega)⟩
theorem putRow_step {n s i : Nat} {C : Array Value} (h : putRow n s (i + 1) C) (hi : i < s) (x : Int) (hx : x = ((sh n (s - 1 - i) % 256 : Nat) : Int)) : putRow n s i (C.setIfInBounds i (.int .u8 x)) := by
  subst hx
  refine ⟨by simpa using h.1, fun j h1 h2 => ?_⟩
  have hs := h.1
  rcases Nat.eq_or_lt_of_le h1 with e | e
  · subst e
    rw [Array.getElem?_setIfInBounds_self_of_lt (by omega)]
  · rw [Array.getElem?_setIfInBounds_ne (by omega)]
    exact h.2 j (by omega) h2
theorem putRow_done {n s : Nat} {C : Array Value} (h : putRow n s 0 C) : C.toList = (beB s n).map bv := by
  apply List.ext_getElem?
  intro j
  by_cases hj : j < s
  · have h1 := h.2 j (Nat.zero_le _) hj
    rw [Array.getElem?_toList, h1, List.getElem?_map, List.getElem?_eq_getElem (by rw [beB_length]; exact hj), beB_get]
    simp [bv, sh]
  · have hs := h.1
    rw [List.getElem?_eq_none (by simp; omega), List.getElem?_eq_none (by simp [beB_length]; omega)]

set_option maxHeartbeats 400000 in
theorem refPut_any (n s : Nat) (w : World) (hs : s ≤ 8) (hn : n < 18446744073709551616) :
    Calls Tryd.prog 35 #[.int .u64 (n : Int), .int .i64 (s : Int)] w fun e w' =>
      ∃ v', e = .returned v' ∧ Own w' w.heap.size 5 v' (beB s n) ∧ Below w.heap.size w w' := by
  have hmk := run_make_row' (P := Tryd.prog) 22 5 (.int .u8 0) 1 Tryd.underlying22 info_u8 rfl .i64 .i64 s (by omega) (by omega)
  go_enter Tryd.func35, Tryd.ntmps35
  go_wp2
  clear hmk
  go_loopw [0, 6] (fun x z wr => ∃ (i : Nat) (C : Array Value), i ≤ s ∧ z = .int .i64 ((i : Int) - 1) ∧ x = .int .u64 ((sh n (s - i) : Nat) : Int) ∧ wr = w.alloc (.cells C 5) ∧ putRow n s i C) (fun _ z _ => (intOf z + 1).toNat)
  case atStart => exact ⟨s, _, Nat.le_refl _, rfl, by rw [Nat.sub_self, sh_zero], rfl, putRow_start n s _ (by simp [madeCells])⟩
  case round =>
    obtain ⟨i, C, hi, rfl, rfl, rfl, hC⟩ := hrel
    by_cases h0 : 0 < i
    · obtain ⟨k, rfl⟩ : ∃ k, i = k + 1 := ⟨i - 1, by omega⟩
      have hd := sh_lt n (s - (k + 1)) hn
      have hsz : k < C.size := by rw [hC.1]; omega
      have hcell : (w.alloc (.cells C 5)).cell? ⟨w.heap.size, k, none⟩ = some C[k] := by rw [(Blk.new w _ C).cell k]; exact Array.getElem?_eq_getElem hsz
      go_wp2
      go_roundw
      case rel => exact ⟨k, _, by omega, rfl, by rw [show s - k = s - (k + 1) + 1 from by omega, sh_succ]; simp, rfl, putRow_step hC (by omega) _ (by rw [show s - 1 - k = s - (k + 1) from by omega]; simp)⟩
      case measure => simp [intOf]
    · obtain rfl : i = 0 := by omega
      go_wp2
      go_ret
      exact ⟨_, rfl, Own.of_new w _ _ C _ s (Nat.le_refl _) (putRow_done hC) (beB_length _ _).symm (by rw [beB_length]; omega), (Below.refl _ _).alloc (Nat.le_refl _) _⟩
end Go.Proofs.YthlopecllhdmhaaDoor

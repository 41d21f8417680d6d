/-
  The walks of wire.Put, and of the document's Room and Put.
-/
import Derived.Test.YteneicngmglgbaaPut
import Derived.Deep.OwnRows
namespace Go.Proofs.Yteneicngmglgbaa
open Go.RowKit
set_option linter.unusedVariables false

theorem shr_zero (n s : Nat) (h : n < 256 ^ s) : ((n : Int) / 2 ^ (8 * s) != 0) = false := by
  have e2 : (2 : Int) ^ (8 * s) = ((256 ^ s : Nat) : Int) := by
    rw [show (256 : Nat) = 2 ^ 8 from rfl, ← Nat.pow_mul]
    exact (Int.natCast_pow 2 (8 * s)).symm
  have e3 : (n : Int) / ((256 ^ s : Nat) : Int) = ((n / 256 ^ s : Nat) : Int) := by simp
  rw [e2, e3, Nat.div_eq_of_lt h]; rfl
theorem shr_some (n s : Nat) (h : ¬ n < 256 ^ s) : ((n : Int) / 2 ^ (8 * s) != 0) = true := by
  have e2 : (2 : Int) ^ (8 * s) = ((256 ^ s : Nat) : Int) := by
    rw [show (256 : Nat) = 2 ^ 8 from rfl, ← Nat.pow_mul]
    exact (Int.natCast_pow 2 (8 * s)).symm
  have e3 : (n : Int) / ((256 ^ s : Nat) : Int) = ((n / 256 ^ s : Nat) : Int) := by simp
  have hp : 0 < n / 256 ^ s := Nat.div_pos (by omega) (Nat.pow_pos (by decide))
  rw [e2, e3, bne_iff_ne]; omega

theorem put_yes (n s : Nat) (w : World) (h1 : 1 ≤ s) (h8 : s ≤ 8) (hn : n < 18446744073709551616) (hr : n < 256 ^ s) :
    Calls Try.prog 10 #[.int .u64 (n : Int), .int .i64 (s : Int)] w fun e w' =>
      ∃ v', e = .returned (.tuple #[v', .int .i64 0]) ∧ Own w' w.heap.size 5 v' (beB s n) ∧ Below w.heap.size w w' := by
  have hz := shr_zero n s hr
  have hs1 : ¬ (s : Int) < 1 := by omega
  have hs8 : ¬ (8 : Int) < (s : Int) := by omega
  go_enter Try.func10, Try.ntmps10
  go_wp2_with fail
  refine (appendNumber_any _ [] n s w.heap.size w Own.nil (Nat.le_refl _) (by simp) h8 hn).mono ?_
  rintro e w' ⟨v', rfl, ho, hb⟩
  have Ho := Lib.hid ho
  clear ho
  go_wp2
  go_ret2
  exact ⟨v', rfl, Ho.out, hb⟩

theorem put_no (n : Nat) (s : Int) (w : World) (hn : n < 18446744073709551616) (h : s < 1 ∨ 8 < s ∨ ¬ n < 256 ^ s.toNat) :
    Calls Try.prog 10 #[.int .u64 (n : Int), .int .i64 s] w fun e w' => e = .returned (.tuple #[.slice none 0 0, .int .i64 2]) ∧ w = w' := by
  by_cases h1 : s < 1
  · go_enter Try.func10, Try.ntmps10
    go_wp2
    go_ret2
    exact ⟨rfl, rfl⟩
  · by_cases h8 : 8 < s
    · go_enter Try.func10, Try.ntmps10
      go_wp2
      go_ret2
      exact ⟨rfl, rfl⟩
    · obtain ⟨k, rfl⟩ : ∃ k : Nat, s = (k : Int) := ⟨s.toNat, by omega⟩
      have hk : ¬ n < 256 ^ k := by rcases h with h | h | h <;> first | omega | simpa using h
      have hz := shr_some n k hk
      clear h
      go_enter Try.func10, Try.ntmps10
      go_wp2
      go_ret2
      exact ⟨rfl, rfl⟩

/-- Has a number room in so many bytes? -/
def roomB (n : Nat) (s : Int) : Bool := decide (1 ≤ s ∧ s ≤ 8 ∧ n < 256 ^ s.toNat)

/-- A number without its lowest j bytes. -/
def sh (n j : Nat) : Nat := n / 256 ^ j
theorem sh_zero (n : Nat) : sh n 0 = n := by simp [sh]
theorem sh_succ (n k : Nat) : sh n (k + 1) = sh n k / 256 := by unfold sh; rw [Nat.div_div_eq_div_mul, Nat.pow_succ]
theorem sh_lt (n k : Nat) (hn : n < 18446744073709551616) : sh n k < 18446744073709551616 := Nat.lt_of_le_of_lt (Nat.div_le_self _ _) hn
theorem quo_wrap (m : Nat) (h : m < 18446744073709551616) : IntKind.u64.wrap ((m : Int).tdiv 256) = ((m / 256 : Nat) : Int) := by
  rw [IntKind.wrap_u64, Int.tdiv_eq_ediv_of_nonneg (by omega)]; omega
theorem room_eq (n k : Nat) (h1 : 1 ≤ (k : Int)) (h8 : (k : Int) ≤ 8) : ((sh n k : Int) == 0) = roomB n (k : Int) := by
  unfold roomB
  rw [Bool.eq_iff_iff]
  simp only [beq_iff_eq, decide_eq_true_eq, Int.toNat_natCast]
  have hp : 0 < 256 ^ k := Nat.pow_pos (by decide)
  unfold sh
  constructor
  · intro h
    refine ⟨h1, h8, ?_⟩
    have h0 : n / 256 ^ k = 0 := by omega
    rcases Nat.div_eq_zero_iff.1 h0 with h | h
    · omega
    · exact h
  · rintro ⟨_, _, h⟩
    rw [Nat.div_eq_of_lt h]; rfl

set_option maxHeartbeats 400000 in
theorem room_any (n : Nat) (s : Int) (w : World) (b : Bool) (hn : n < 18446744073709551616) (hb : b = roomB n s) :
    Calls Try.prog 11 #[.int .u64 (n : Int), .int .i64 s] w fun e w' => e = .returned (.bool b) ∧ w = w' := by
  by_cases h1 : s < 1
  · have hf : b = false := by subst hb; simp [roomB]; omega
    subst hf; clear hb
    go_enter Try.func11, Try.ntmps11
    go_wp2
    go_ret
    exact ⟨rfl, rfl⟩
  · by_cases h8 : 8 < s
    · have hf : b = false := by subst hb; simp [roomB]; omega
      subst hf; clear hb
      go_enter Try.func11, Try.ntmps11
      go_wp2
      go_ret
      exact ⟨rfl, rfl⟩
    · obtain ⟨k, rfl⟩ : ∃ k : Nat, s = (k : Int) := ⟨s.toNat, by omega⟩
      have Hb := Lib.hid (hb.trans (room_eq n k (by omega) (by omega)).symm)
      clear hb
      go_enter Try.func11, Try.ntmps11
      go_wp2
      go_loop [0, 5] (fun x i => ∃ j : Nat, j ≤ k ∧ i = .int .i64 (j : Int) ∧ x = .int .u64 ((sh n j : Nat) : Int)) (fun _ i => k - (intOf i).toNat)
      case atStart => exact ⟨0, Nat.zero_le _, rfl, by rw [sh_zero]⟩
      case round =>
        obtain ⟨j, hj, rfl, rfl⟩ := hrel
        by_cases hlt : j < k
        · have hd := sh_lt n j hn
          go_wp2
          go_round
          case rel => exact ⟨j + 1, by omega, by go_num, by rw [sh_succ]; simp⟩
          case measure => simp [intOf]; omega
        · obtain rfl : j = k := by omega
          go_wp2
          go_ret
          exact ⟨ret_bool Hb.out.symm, rfl⟩

/-- What the document's Put has laid when the bytes from i on are laid. -/
def putRow (n s i : Nat) (C : Array Value) : Prop := C.size = s ∧ ∀ j, i ≤ j → j < s → C[j]? = some (.int .u8 ((sh n (s - 1 - j) % 256 : Nat) : Int))
theorem putRow_start (n s : Nat) (C : Array Value) (h : C.size = s) : putRow n s s C := ⟨h, fun j h1 h2 => absurd h2 (by omega)⟩
theorem putRow_step {n s i : Nat} {C : Array Value} (h : putRow n s (i + 1) C) (hi : i < s) (x : Int) (hx : x = ((sh n (s - 1 - i) % 256 : Nat) : Int)) : putRow n s i (C.setIfInBounds i (.int .u8 x)) := by
  subst hx
  refine ⟨by simpa using h.1, fun j h1 h2 => ?_⟩
  have hs := h.1
  rcases Nat.eq_or_lt_of_le h1 with e | e
  · subst e
    rw [Array.getElem?_setIfInBounds_self_of_lt (by omega)]
  · rw [Array.getElem?_setIfInBounds_ne (by omega)]
    exact h.2 j (by omega) h2
theorem putRow_done {n s : Nat} {C : Array Value} (h : putRow n s 0 C) : C.toList = (beB s n).map bv := by
  apply List.ext_getElem?
  intro j
  by_cases hj : j < s
  · have h1 := h.2 j (Nat.zero_le _) hj
    rw [Array.getElem?_toList, h1, List.getElem?_map, List.getElem?_eq_getElem (by rw [beB_length]; exact hj), beB_get]
    simp [bv, sh]
  · have hs := h.1
    rw [List.getElem?_eq_none (by simp; omega), List.getElem?_eq_none (by simp [beB_length]; omega)]

set_option maxHeartbeats 400000 in
theorem refPut_any (n s : Nat) (w : World) (hs : s ≤ 8) (hn : n < 18446744073709551616) :
    Calls Try.prog 12 #[.int .u64 (n : Int), .int .i64 (s : Int)] w fun e w' =>
      ∃ v', e = .returned v' ∧ Own w' w.heap.size 5 v' (beB s n) ∧ Below w.heap.size w w' := by
  have hmk := run_make_row' (P := Try.prog) 23 5 (.int .u8 0) 1 Try.underlying23 info_u8 rfl .i64 .i64 s (by omega) (by omega)
  go_enter Try.func12, Try.ntmps12
  go_wp2
  clear hmk
  go_loopw [0, 6] (fun x z wr => ∃ (i : Nat) (C : Array Value), i ≤ s ∧ z = .int .i64 ((i : Int) - 1) ∧ x = .int .u64 ((sh n (s - i) : Nat) : Int) ∧ wr = w.alloc (.cells C 5) ∧ putRow n s i C) (fun _ z _ => (intOf z + 1).toNat)
  case atStart => exact ⟨s, _, Nat.le_refl _, rfl, by rw [Nat.sub_self, sh_zero], rfl, putRow_start n s _ (by simp [madeCells])⟩
  case round =>
    obtain ⟨i, C, hi, rfl, rfl, rfl, hC⟩ := hrel
    by_cases h0 : 0 < i
    · obtain ⟨k, rfl⟩ : ∃ k, i = k + 1 := ⟨i - 1, by omega⟩
      have hd := sh_lt n (s - (k + 1)) hn
      have hsz : k < C.size := by rw [hC.1]; omega
      have hcell : (w.alloc (.cells C 5)).cell? ⟨w.heap.size, k, none⟩ = some C[k] := by rw [(Blk.new w _ C).cell k]; exact Array.getElem?_eq_getElem hsz
      go_wp2
      go_roundw
      case rel => exact ⟨k, _, by omega, rfl, by rw [show s - k = s - (k + 1) + 1 from by omega, sh_succ]; simp, rfl, putRow_step hC (by omega) _ (by rw [show s - 1 - k = s - (k + 1) from by omega]; simp)⟩
      case measure => simp [intOf]
    · obtain rfl : i = 0 := by omega
      go_wp2
      go_ret
      exact ⟨_, rfl, Own.of_new w _ _ C _ s (Nat.le_refl _) (putRow_done hC) (beB_length _ _).symm (by rw [beB_length]; omega), (Below.refl _ _).alloc (Nat.le_refl _) _⟩
end Go.Proofs.Yteneicngmglgbaa

/-
  The document's roots and primes, its start and its constants.
-/
import Derived.Test.YtdbhffkfkklehaaDoorShaRefNum
namespace Go.Proofs.YtdbhffkfkklehaaDoor
open Go.RowKit
set_option linter.unusedVariables false
set_option linter.unusedSimpArgs false

/-- The greatest number that serves, bit by bit. -/
def rt (ok : Nat → Bool) : Nat → Nat → Nat
  | 0, x => x
  | k + 1, x => if ok (x + 2 ^ k) then rt ok k (x + 2 ^ k) else rt ok k x
def root2 (p : Nat) : Nat := rt (sqB p) 38 0 % 4294967296
def root3 (p : Nat) : Nat := rt (cuB p) 38 0 % 4294967296
theorem pow_split (k : Nat) : 2 ^ (k + 1) = 2 ^ k + 2 ^ k := by rw [Nat.pow_succ]; omega
theorem add_pow (x k : Nat) (h : k < 38) (hx : x + 2 ^ k < 274877906944) : IntKind.u64.wrap ((x : Int) + IntKind.u64.wrap ((2 : Int) ^ k)) = ((x + 2 ^ k : Nat) : Int) := by
  have e : ((2 : Int) ^ k) = ((2 ^ k : Nat) : Int) := (Int.natCast_pow 2 k).symm
  rw [e]
  generalize 2 ^ k = y at hx ⊢
  rw [mm_wrap _ (by omega), mm_add, mm_wrap _ (by omega)]

set_option maxHeartbeats 1000000 in
theorem root2_any (p : Nat) (hp : p < 4294967296) (w : World) :
    Calls Tryd.prog 38 #[.int .u64 p, .int .i64 2] w fun e w' => e = .returned (.int .u32 (root2 p : Int)) ∧ w = w' := by
  have HR := Lib.hid (show root2 p = rt (sqB p) 38 0 % 4294967296 from rfl)
  go_enter Tryd.func38, Tryd.ntmps38
  go_wp2
  go_loop [5, 6] (fun y z => ∃ (k x : Nat), k ≤ 38 ∧ z = .int .i64 ((k : Int) - 1) ∧ y = .int .u64 (x : Int) ∧ x + 2 ^ k ≤ 274877906944 ∧ rt (sqB p) k x = rt (sqB p) 38 0) (fun _ z => (intOf z + 1).toNat)
  case atStart => exact ⟨38, 0, Nat.le_refl _, rfl, rfl, by decide, rfl⟩
  case round =>
    obtain ⟨k, x, hk, rfl, rfl, hx, hr⟩ := hrel
    by_cases h0 : 0 < k
    · obtain ⟨j, rfl⟩ : ∃ j, k = j + 1 := ⟨k - 1, by omega⟩
      rw [show (((j + 1 : Nat) : Int) - 1) = (j : Int) by omega]
      have hpos : 0 < 2 ^ j := Nat.pow_pos (by decide)
      have hsp := pow_split j
      have hlt : x + 2 ^ j < 274877906944 := by omega
      have HS := Lib.hid (add_pow x j (by omega) hlt)
      have HX := Lib.hid (show x + 2 ^ j + 2 ^ j ≤ 274877906944 by omega)
      have HX2 := Lib.hid (show x + 2 ^ j ≤ 274877906944 by omega)
      have HR2 := Lib.hid (show (if sqB p (x + 2 ^ j) then rt (sqB p) j (x + 2 ^ j) else rt (sqB p) j x) = rt (sqB p) 38 0 from hr)
      clear hr hsp hpos hx
      go_wp2_with fail
      rw [HS.out]
      clear HS
      generalize hy : x + 2 ^ j = y at hlt HX HX2 HR2 ⊢
      have HY := Lib.hid hy
      clear hy
      refine (power2_any y p hlt hp w).mono ?_
      rintro e w' ⟨rfl, rfl⟩
      cases hok : sqB p y
      · have HK := Lib.hid hok
        clear hok
        go_wp2
        go_round
        case rel => exact ⟨j, x, by omega, by go_num, rfl, by rw [HY.out]; exact HX2.out, by have := HR2.out; rw [HK.out] at this; simpa using this⟩
        case measure => simp [intOf]
      · have HK := Lib.hid hok
        clear hok
        go_wp2
        go_round
        case rel => exact ⟨j, y, by omega, by go_num, rfl, HX.out, by have := HR2.out; rw [HK.out] at this; simpa using this⟩
        case measure => simp [intOf]
    · obtain rfl : k = 0 := by omega
      have HR2 := Lib.hid (show x = rt (sqB p) 38 0 from hr)
      clear hr hx
      go_wp2
      go_ret
      exact ⟨ret_int (by rw [HR.out, ← HR2.out]; simp), rfl⟩

set_option maxHeartbeats 1000000 in
theorem root3_any (p : Nat) (hp : p < 4294967296) (w : World) :
    Calls Tryd.prog 38 #[.int .u64 p, .int .i64 3] w fun e w' => e = .returned (.int .u32 (root3 p : Int)) ∧ w = w' := by
  have HR := Lib.hid (show root3 p = rt (cuB p) 38 0 % 4294967296 from rfl)
  go_enter Tryd.func38, Tryd.ntmps38
  go_wp2
  go_loop [5, 6] (fun y z => ∃ (k x : Nat), k ≤ 38 ∧ z = .int .i64 ((k : Int) - 1) ∧ y = .int .u64 (x : Int) ∧ x + 2 ^ k ≤ 274877906944 ∧ rt (cuB p) k x = rt (cuB p) 38 0) (fun _ z => (intOf z + 1).toNat)
  case atStart => exact ⟨38, 0, Nat.le_refl _, rfl, rfl, by decide, rfl⟩
  case round =>
    obtain ⟨k, x, hk, rfl, rfl, hx, hr⟩ := hrel
    by_cases h0 : 0 < k
    · obtain ⟨j, rfl⟩ : ∃ j, k = j + 1 := ⟨k - 1, by omega⟩
      rw [show (((j + 1 : Nat) : Int) - 1) = (j : Int) by omega]
      have hpos : 0 < 2 ^ j := Nat.pow_pos (by decide)
      have hsp := pow_split j
      have hlt : x + 2 ^ j < 274877906944 := by omega
      have HS := Lib.hid (add_pow x j (by omega) hlt)
      have HX := Lib.hid (show x + 2 ^ j + 2 ^ j ≤ 274877906944 by omega)
      have HX2 := Lib.hid (show x + 2 ^ j ≤ 274877906944 by omega)
      have HR2 := Lib.hid (show (if cuB p (x + 2 ^ j) then rt (cuB p) j (x + 2 ^ j) else rt (cuB p) j x) = rt (cuB p) 38 0 from hr)
      clear hr hsp hpos hx
      go_wp2_with fail
      rw [HS.out]
      clear HS
      generalize hy : x + 2 ^ j = y at hlt HX HX2 HR2 ⊢
      have HY := Lib.hid hy
      clear hy
      refine (power3_any y p hlt hp w).mono ?_
      rintro e w' ⟨rfl, rfl⟩
      cases hok : cuB p y
      · have HK := Lib.hid hok
        clear hok
        go_wp2
        go_round
        case rel => exact ⟨j, x, by omega, by go_num, rfl, by rw [HY.out]; exact HX2.out, by have := HR2.out; rw [HK.out] at this; simpa using this⟩
        case measure => simp [intOf]
      · have HK := Lib.hid hok
        clear hok
        go_wp2
        go_round
        case rel => exact ⟨j, y, by omega, by go_num, rfl, HX.out, by have := HR2.out; rw [HK.out] at this; simpa using this⟩
        case measure => simp [intOf]
    · obtain rfl : k = 0 := by omega
      have HR2 := Lib.hid (show x = rt (cuB p) 38 0 from hr)
      clear hr hx
      go_wp2
      go_ret
      exact ⟨ret_int (by rw [HR.out, ← HR2.out]; simp), rfl⟩
end Go.Proofs.YtdbhffkfkklehaaDoor

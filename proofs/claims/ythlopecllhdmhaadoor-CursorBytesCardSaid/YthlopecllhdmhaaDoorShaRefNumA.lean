/-
  The document's reckoning of the start and of the constants: math/bits.Mul64 and Add64, powers, roots.
-/
import Derived.Test.YthlopecllhdmhaaDoorShaEq
import Derived.Lib.Mul64
import Derived.Laws.Bits64b
import Derived.Laws.Externs
namespace Go.Proofs.YthlopecllhdmhaaDoor
open Go.RowKit
set_option linter.unusedVariables false
set_option linter.unusedSimpArgs false

theorem mm_mask (a : Nat) (ha : a < 18446744073709551616) : bits .and .u64 (a : Int) 4294967295 = ((a % 4294967296 : Nat) : Int) := by
  have h := u64_and_nat a 4294967295 ha (by omega)
  have e : a &&& 4294967295 = a % 4294967296 := Nat.and_two_pow_sub_one_eq_mod a 32
  rw [e] at h
  exact h
theorem mm_div (a : Nat) : (a : Int) / 4294967296 = ((a / 4294967296 : Nat) : Int) := by omega
theorem mm_mul (a b : Nat) : (a : Int) * (b : Int) = ((a * b : Nat) : Int) := (Int.natCast_mul a b).symm
theorem mm_add (a b : Nat) : (a : Int) + (b : Int) = ((a + b : Nat) : Int) := (Int.natCast_add a b).symm
theorem mm_wrap (a : Nat) (ha : a < 18446744073709551616) : IntKind.u64.wrap (a : Int) = (a : Int) := by rw [IntKind.wrap_u64]; omega
theorem mm_mod (a : Nat) : IntKind.u64.wrap (a : Int) = ((a % 18446744073709551616 : Nat) : Int) := by rw [IntKind.wrap_u64]; omega

set_option maxHeartbeats 1000000 in
theorem mul64_any (x y : Nat) (hx : x < 18446744073709551616) (hy : y < 18446744073709551616) (w : World) :
    Calls Tryd.prog 61 #[.int .u64 x, .int .u64 y] w fun e w' => e = .returned (.tuple #[.int .u64 ((x * y / 18446744073709551616 : Nat) : Int), .int .u64 ((x * y % 18446744073709551616 : Nat) : Int)]) ∧ w = w' := by
  obtain ⟨bd, bt, bw, hhi⟩ := Lib.mul64_hi x y hx hy
  have ba := Lib.half_mul_le (a := x / 4294967296) (b := y / 4294967296) (by omega) (by omega)
  have bb := Lib.half_mul_le (a := x / 4294967296) (b := y % 4294967296) (by omega) (by omega)
  have bc := Lib.half_mul_le (a := x % 4294967296) (b := y / 4294967296) (by omega) (by omega)
  have ba' : x / 4294967296 * (y / 4294967296) < 18446744073709551616 := by omega
  have bb' : x / 4294967296 * (y % 4294967296) < 18446744073709551616 := by omega
  have bc' : x % 4294967296 * (y / 4294967296) < 18446744073709551616 := by omega
  have bh1 : x / 4294967296 * (y / 4294967296) + (x / 4294967296 * (y % 4294967296) + x % 4294967296 * (y % 4294967296) / 4294967296) / 4294967296 < 18446744073709551616 := by omega
  have bh : x / 4294967296 * (y / 4294967296) + (x / 4294967296 * (y % 4294967296) + x % 4294967296 * (y % 4294967296) / 4294967296) / 4294967296 + ((x / 4294967296 * (y % 4294967296) + x % 4294967296 * (y % 4294967296) / 4294967296) % 4294967296 + x % 4294967296 * (y / 4294967296)) / 4294967296 < 18446744073709551616 := by omega
  go_enter Tryd.func61, Tryd.ntmps61
  go_wp2
  simp only [mm_mask x hx, mm_mask y hy, mm_div, mm_mul, mm_add, mm_wrap _ bd, mm_wrap _ bb', mm_wrap _ bt, mm_mask _ bt, mm_wrap _ bc', mm_wrap _ bw, mm_wrap _ ba', mm_wrap _ bh1, mm_wrap _ bh, mm_mod (x * y)]
  rw [hhi]
  go_ret2
  exact ⟨rfl, rfl⟩
theorem run_add (x y : Nat) (w : World) : (callFunc 62 #[.int .u64 x, .int .u64 y, .int .u64 0]).run Tryd.prog w =
      .ok (.value (.tuple #[.int .u64 (((x + y) % 18446744073709551616 : Nat) : Int), .int .u64 (((x + y) / 18446744073709551616 : Nat) : Int)])) w := by
  rw [run_callFunc_extern Tryd.func62 (by kernel_rfl) (by kernel_rfl) (by kernel_rfl) (e := add64Entry) (by kernel_rfl), run_add64 x y 0 (by omega) (by omega) (by omega) (by omega)]
  simp only [Result.andThen]
  congr 5 <;> omega

/-- Is the square, the third power, at most p (32, 64, 96 bits behind the point)? -/
def sqB (p x : Nat) : Bool := decide (x * x ≤ p * 18446744073709551616)
def cuB (p x : Nat) : Bool := decide (x * x * x ≤ p * 79228162514264337593543950336)

set_option maxHeartbeats 1000000 in
theorem power2_any (x p : Nat) (hx : x < 274877906944) (hp : p < 4294967296) (w : World) :
    Calls Tryd.prog 57 #[.int .u64 x, .int .i64 2, .int .u64 p] w fun e w' => e = .returned (.bool (sqB p x)) ∧ w = w' := by
  have E : ∀ hi lo, x * x / 18446744073709551616 = hi → x * x % 18446744073709551616 = lo → sqB p x = decide (hi < p ∨ hi = p ∧ lo = 0) := by
    intro hi lo h1 h2
    unfold sqB
    rw [decide_eq_decide]
    generalize x * x = X at h1 h2
    omega
  have HE := Lib.hid E
  clear E
  go_enter Tryd.func57, Tryd.ntmps57
  go_wp2_with fail
  refine (mul64_any x x (by omega) (by omega) w).mono ?_
  rintro e w' ⟨rfl, rfl⟩
  obtain ⟨hi, h1⟩ : ∃ hi, x * x / 18446744073709551616 = hi := ⟨_, rfl⟩
  obtain ⟨lo, h2⟩ : ∃ lo, x * x % 18446744073709551616 = lo := ⟨_, rfl⟩
  have E := Lib.hid (HE.out hi lo h1 h2)
  rw [h1, h2]
  clear h1 h2 HE
  by_cases c1 : hi < p
  · go_wp2
    go_ret
    exact ⟨ret_bool (by rw [E.out]; simp [c1]), rfl⟩
  · by_cases c2 : hi = p
    · subst c2
      by_cases c3 : lo = 0
      · subst c3
        go_wp2
        go_ret
        exact ⟨ret_bool (by rw [E.out]; simp), rfl⟩
      · have c3' : ((lo : Int) == 0) = false := beq_eq_false_iff_ne.2 (by omega)
        go_wp2
        go_ret
        exact ⟨ret_bool (by rw [E.out]; simp [c3]), rfl⟩
    · have c2' : ((hi : Int) == (p : Int)) = false := beq_eq_false_iff_ne.2 (by omega)
      go_wp2
      go_ret
      exact ⟨ret_bool (by rw [E.out]; simp [c1, c2]), rfl⟩

set_option maxHeartbeats 1000000 in
theorem power3_any (x p : Nat) (hx : x < 274877906944) (hp : p < 4294967296) (w : World) :
    Calls Tryd.prog 57 #[.int .u64 x, .int .i64 3, .int .u64 p] w fun e w' => e = .returned (.bool (cuB p x)) ∧ w = w' := by
  have hxx : x * x < 75557863725914323419136 := Nat.mul_lt_mul'' hx hx
  obtain ⟨hi, h1⟩ : ∃ hi, x * x / 18446744073709551616 = hi := ⟨_, rfl⟩
  obtain ⟨lo, h2⟩ : ∃ lo, x * x % 18446744073709551616 = lo := ⟨_, rfl⟩
  have hhi : hi < 4096 := by omega
  have hlo : lo < 18446744073709551616 := by omega
  have hd : hi * x < 1125899906842624 := Nat.mul_lt_mul'' hhi hx
  have hX : x * x * x = hi * x * 18446744073709551616 + lo * x := by
    rw [show x * x = hi * 18446744073709551616 + lo by omega, Nat.add_mul, Nat.mul_right_comm]
  obtain ⟨a, h3⟩ : ∃ a, lo * x / 18446744073709551616 = a := ⟨_, rfl⟩
  obtain ⟨b, h4⟩ : ∃ b, lo * x % 18446744073709551616 = b := ⟨_, rfl⟩
  have h5 : hi * x / 18446744073709551616 = 0 := by omega
  obtain ⟨d, h6⟩ : ∃ d, hi * x % 18446744073709551616 = d := ⟨_, rfl⟩
  obtain ⟨mid, h7⟩ : ∃ mid, (a + d) % 18446744073709551616 = mid := ⟨_, rfl⟩
  obtain ⟨top, h8⟩ : ∃ top, (a + d) / 18446744073709551616 = top := ⟨_, rfl⟩
  have hE : cuB p x = decide (top = 0 ∧ (mid < p * 4294967296 ∨ mid = p * 4294967296 ∧ b = 0)) := by
    unfold cuB
    rw [decide_eq_decide, hX]
    generalize hi * x = Y at *
    generalize lo * x = Z at *
    omega
  have E := Lib.hid hE
  have H1 := Lib.hid h1
  have H2 := Lib.hid h2
  have H3 := Lib.hid h3
  have H4 := Lib.hid h4
  have H5 := Lib.hid h5
  have H6 := Lib.hid h6
  have H7 := Lib.hid h7
  have H8 := Lib.hid h8
  have hz : lo * x < 5070602400912917605986812821504 := Nat.mul_lt_mul'' hlo hx
  have ht1 : top ≤ 1 := by omega
  have hm1 : mid < 18446744073709551616 := by omega
  clear hE hX h1 h2 h3 h4 h5 h6 h7 h8 hxx hd hz
  go_enter Tryd.func57, Tryd.ntmps57
  go_wp2_with fail
  refine (mul64_any x x (by omega) (by omega) w).mono ?_
  rintro e w' ⟨rfl, rfl⟩
  rw [H1.out, H2.out]
  clear H1 H2
  go_wp2_with fail
  refine (mul64_any lo x (by omega) (by omega) w).mono ?_
  rintro e w' ⟨rfl, rfl⟩
  rw [H3.out, H4.out]
  clear H3 H4
  go_wp2_with fail
  refine (mul64_any hi x (by omega) (by omega) w).mono ?_
  rintro e w' ⟨rfl, rfl⟩
  rw [H5.out, H6.out]
  clear H5 H6
  go_wp2_with fail
  rw [run_add a d w, H7.out, H8.out]
  rw [Oper.upon_value]
  clear H7 H8
  have hps : (p : Int) / 4294967296 = 0 := by omega
  by_cases c0 : top = 0
  · subst c0
    by_cases c1 : mid < p * 4294967296
    · have c1' : (mid : Int) < (p : Int) * 4294967296 := by omega
      have cw : (p : Int) * 4294967296 < 18446744073709551616 := by omega
      go_wp2
      go_ret
      exact ⟨ret_bool (by rw [E.out]; simp [c1]), rfl⟩
    · have c1' : ¬ (mid : Int) < (p : Int) * 4294967296 := by omega
      have cw : (p : Int) * 4294967296 < 18446744073709551616 := by omega
      by_cases c2 : mid = p * 4294967296
      · have c2' : ((mid : Int) == (p : Int) * 4294967296) = true := beq_iff_eq.2 (by omega)
        have C2 := Lib.hid c2
        clear c2
        by_cases c3 : b = 0
        · subst c3
          go_wp2
          go_ret
          exact ⟨ret_bool (by rw [E.out]; simp [C2.out]), rfl⟩
        · have c3' : ((b : Int) == 0) = false := beq_eq_false_iff_ne.2 (by omega)
          go_wp2
          go_ret
          exact ⟨ret_bool (by rw [E.out]; simp [C2.out, c3]), rfl⟩
      · have c2' : ((mid : Int) == (p : Int) * 4294967296) = false := beq_eq_false_iff_ne.2 (by omega)
        go_wp2
        go_ret
        exact ⟨ret_bool (by rw [E.out]; simp [c1, c2]), rfl⟩
  · obtain rfl : top = 1 := by omega
    go_wp2
    go_ret
    exact ⟨ret_bool (by rw [E.out]; simp), rfl⟩
end Go.Proofs.YthlopecllhdmhaaDoor

namespace Go.Proofs.YthlopecllhdmhaaDoor
open Go.RowKit
set_option linter.unusedVariables false
set_option linter.unusedSimpArgs false

/-- The greatest number that serves, bit by bit. -/
def rt (ok : Nat → Bool) : Nat → Nat → Nat
  | 0, x => x
  | k + 1, x => if ok (x + 2 ^ k) then rt ok k (x + 2 ^ k) else rt ok k x
def root2 (p : Nat) : Nat := rt (sqB p) 38 0 % 4294967296
def root3 (p : Nat) : Nat := rt (cuB p) 38 0 % 4294967296
theorem pow_split (k : Nat) : 2 ^ (k + 1) = 2 ^ k + 2 ^ k := by rw [Nat.pow_succ]; omega
theorem add_pow (x k : Nat) (h : k < 38) (hx : x + 2 ^ k < 274877906944) : IntKind.u64.wrap ((x : Int) + IntKind.u64.wrap ((2 : Int) ^ k)) = ((x + 2 ^ k : Nat) : Int) := by
  have e : ((2 : Int) ^ k) = ((2 ^ k : Nat) : Int) := (Int.natCast_pow 2 k).symm
  rw [e]
  generalize 2 ^ k = y at hx ⊢
  rw [mm_wrap _ (by omega), mm_add, mm_wrap _ (by omega)]

set_option maxHeartbeats 1000000 in
theorem root2_any (p : Nat) (hp : p < 4294967296) (w : World) :
    Calls Tryd.prog 52 #[.int .u64 p, .int .i64 2] w fun e w' => e = .returned (.int .u32 (root2 p : Int)) ∧ w = w' := by
  have HR := Lib.hid (show root2 p = rt (sqB p) 38 0 % 4294967296 from rfl)
  go_enter Tryd.func52, Tryd.ntmps52
  go_wp2
  go_loop [5, 6] (fun y z => ∃ (k x : Nat), k ≤ 38 ∧ z = .int .i64 ((k : Int) - 1) ∧ y = .int .u64 (x : Int) ∧ x + 2 ^ k ≤ 274877906944 ∧ rt (sqB p) k x = rt (sqB p) 38 0) (fun _ z => (intOf z + 1).toNat)
  case atStart => exact ⟨38, 0, Nat.le_refl _, rfl, rfl, by decide, rfl⟩
  case round =>
    obtain ⟨k, x, hk, rfl, rfl, hx, hr⟩ := hrel
    by_cases h0 : 0 < k
    · obtain ⟨j, rfl⟩ : ∃ j, k = j + 1 := ⟨k - 1, by omega⟩
      rw [show (((j + 1 : Nat) : Int) - 1) = (j : Int) by omega]
      have hpos : 0 < 2 ^ j := Nat.pow_pos (by decide)
      have hsp := pow_split j
      have hlt : x + 2 ^ j < 274877906944 := by omega
      have HS := Lib.hid (add_pow x j (by omega) hlt)
      have HX := Lib.hid (show x + 2 ^ j + 2 ^ j ≤ 274877906944 by omega)
      have HX2 := Lib.hid (show x + 2 ^ j ≤ 274877906944 by omega)
      have HR2 := Lib.hid (show (if sqB p (x + 2 ^ j) then rt (sqB p) j (x + 2 ^ j) else rt (sqB p) j x) = rt (sqB p) 38 0 from hr)
      clear hr hsp hpos hx
      go_wp2_with fail
      rw [HS.out]
      clear HS
      generalize hy : x + 2 ^ j = y at hlt HX HX2 HR2 ⊢
      have HY := Lib.hid hy
      clear hy
      refine (power2_any y p hlt hp w).mono ?_
      rintro e w' ⟨rfl, rfl⟩
      cases hok : sqB p y
      · have HK := Lib.hid hok
        clear hok
        go_wp2
        go_round
        case rel => exact ⟨j, x, by omega, by go_num, rfl, by rw [HY.out]; exact HX2.out, by have := HR2.out; rw [HK.out] at this; simpa using this⟩
        case measure => simp [intOf]
      · have HK := Lib.hid hok
        clear hok
        go_wp2
        go_round
        case rel => exact ⟨j, y, by omega, by go_num, rfl, HX.out, by have := HR2.out; rw [HK.out] at this; simpa using this⟩
        case measure => simp [intOf]
    · obtain rfl : k = 0 := by omega
      have HR2 := Lib.hid (show x = rt (sqB p) 38 0 from hr)
      clear hr hx
      go_wp2
      go_ret
      exact ⟨ret_int (by rw [HR.out, ← HR2.out]; simp), rfl⟩

set_option maxHeartbeats 1000000 in
theorem root3_any (p : Nat) (hp : p < 4294967296) (w : World) :
    Calls Tryd.prog 52 #[.int .u64 p, .int .i64 3] w fun e w' => e = .returned (.int .u32 (root3 p : Int)) ∧ w = w' := by
  have HR := Lib.hid (show root3 p = rt (cuB p) 38 0 % 4294967296 from rfl)
  go_enter Tryd.func52, Tryd.ntmps52
  go_wp2
  go_loop [5, 6] (fun y z => ∃ (k x : Nat), k ≤ 38 ∧ z = .int .i64 ((k : Int) - 1) ∧ y = .int .u64 (x : Int) ∧ x + 2 ^ k ≤ 274877906944 ∧ rt (cuB p) k x = rt (cuB p) 38 0) (fun _ z => (intOf z + 1).toNat)
  case atStart => exact ⟨38, 0, Nat.le_refl _, rfl, rfl, by decide, rfl⟩
  case round =>
    obtain ⟨k, x, hk, rfl, rfl, hx, hr⟩ := hrel
    by_cases h0 : 0 < k
    · obtain ⟨j, rfl⟩ : ∃ j, k = j + 1 := ⟨k - 1, by omega⟩
      rw [show (((j + 1 : Nat) : Int) - 1) = (j : Int) by omega]
      have hpos : 0 < 2 ^ j := Nat.pow_pos (by decide)
      have hsp := pow_split j
      have hlt : x + 2 ^ j < 274877906944 := by omega
      have HS := Lib.hid (add_pow x j (by omega) hlt)
      have HX := Lib.hid (show x + 2 ^ j + 2 ^ j ≤ 274877906944 by omega)
      have HX2 := Lib.hid (show x + 2 ^ j ≤ 274877906944 by omega)
      have HR2 := Lib.hid (show (if cuB p (x + 2 ^ j) then rt (cuB p) j (x + 2 ^ j) else rt (cuB p) j x) = rt (cuB p) 38 0 from hr)
      clear hr hsp hpos hx
      go_wp2_with fail
      rw [HS.out]
      clear HS
      generalize hy : x + 2 ^ j = y at hlt HX HX2 HR2 ⊢
      have HY := Lib.hid hy
      clear hy
      refine (power3_any y p hlt hp w).mono ?_
      rintro e w' ⟨rfl, rfl⟩
      cases hok : cuB p y
      · have HK := Lib.hid hok
        clear hok
        go_wp2
        go_round
        case rel => exact ⟨j, x, by omega, by go_num, rfl, by rw [HY.out]; exact HX2.out, by have := HR2.out; rw [HK.out] at this; simpa using this⟩
        case measure => simp [intOf]
      · have HK := Lib.hid hok
        clear hok
        go_wp2
        go_round
        case rel => exact ⟨j, y, by omega, by go_num, rfl, HX.out, by have := HR2.out; rw [HK.out] at this; simpa using this⟩
        case measure => simp [intOf]
    · obtain rfl : k = 0 := by omega
      have HR2 := Lib.hid (show x = rt (cuB p) 38 0 from hr)
      clear hr hx
      go_wp2
      go_ret
      exact ⟨ret_int (by rw [HR.out, ← HR2.out]; simp), rfl⟩
end Go.Proofs.YthlopecllhdmhaaDoor

namespace Go.Proofs.YthlopecllhdmhaaDoor
open Go.RowKit
set_option linter.unusedVariables false
set_option linter.unusedSimpArgs false

/-- What the test of divisors comes to. -/
def lp (n k : Nat) (is : Bool) : Nat → Bool
  | 0 => is
  | f + 1 => if k * k ≤ n then lp n (k + 1) (is && n % k != 0) f else is
def isP (n : Nat) : Bool := lp n 2 true 20
theorem lp_stop (n k : Nat) (is : Bool) (f : Nat) (h : ¬ k * k ≤ n) : lp n k is f = is := by
  cases f with
  | zero => rfl
  | succ f => unfold lp; rw [if_neg h]
theorem lp_go (n k : Nat) (is : Bool) (f : Nat) (h : k * k ≤ n) : lp n k is (f + 1) = lp n (k + 1) (is && n % k != 0) f := by
  conv => lhs; unfold lp
  rw [if_pos h]

theorem sq_le (k : Nat) (h : k ≤ 21) : k * k ≤ 441 := Nat.mul_le_mul h h
theorem sq_gt (k : Nat) (h : 20 < k) : 441 ≤ k * k := Nat.mul_le_mul h h

end Go.Proofs.YthlopecllhdmhaaDoor

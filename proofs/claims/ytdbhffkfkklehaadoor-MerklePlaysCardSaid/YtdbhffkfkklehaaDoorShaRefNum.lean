/-
  The document's reckoning of the start and of the constants: math/bits.Mul64 and Add64, powers, roots.
-/
import Derived.Test.YtdbhffkfkklehaaDoorShaEq
import Derived.Lib.Mul64
import Derived.Laws.Bits64b
import Derived.Laws.Externs
namespace Go.Proofs.YtdbhffkfkklehaaDoor
open Go.RowKit
set_option linter.unusedVariables false
set_option linter.unusedSimpArgs false

theorem mm_mask (a : Nat) (ha : a < 18446744073709551616) : bits .and .u64 (a : Int) 4294967295 = ((a % 4294967296 : Nat) : Int) := by
  have h := u64_and_nat a 4294967295 ha (by omega)
  have e : a &&& 4294967295 = a % 4294967296 := Nat.and_two_pow_sub_one_eq_mod a 32
  rw [e] at h
  exact h
theorem mm_div (a : Nat) : (a : Int) / 4294967296 = ((a / 4294967296 : Nat) : Int) := by omega
theorem mm_mul (a b : Nat) : (a : Int) * (b : Int) = ((a * b : Nat) : Int) := (Int.natCast_mul a b).symm
theorem mm_add (a b : Nat) : (a : Int) + (b : Int) = ((a + b : Nat) : Int) := (Int.natCast_add a b).symm
theorem mm_wrap (a : Nat) (ha : a < 18446744073709551616) : IntKind.u64.wrap (a : Int) = (a : Int) := by rw [IntKind.wrap_u64]; omega
theorem mm_mod (a : Nat) : IntKind.u64.wrap (a : Int) = ((a % 18446744073709551616 : Nat) : Int) := by rw [IntKind.wrap_u64]; omega

set_option maxHeartbeats 1000000 in
theorem mul64_any (x y : Nat) (hx : x < 18446744073709551616) (hy : y < 18446744073709551616) (w : World) :
    Calls Tryd.prog 49 #[.int .u64 x, .int .u64 y] w fun e w' => e = .returned (.tuple #[.int .u64 ((x * y / 18446744073709551616 : Nat) : Int), .int .u64 ((x * y % 18446744073709551616 : Nat) : Int)]) ∧ w = w' := by
  obtain ⟨bd, bt, bw, hhi⟩ := Lib.mul64_hi x y hx hy
  have ba := Lib.half_mul_le (a := x / 4294967296) (b := y / 4294967296) (by omega) (by omega)
  have bb := Lib.half_mul_le (a := x / 4294967296) (b := y % 4294967296) (by omega) (by omega)
  have bc := Lib.half_mul_le (a := x % 4294967296) (b := y / 4294967296) (by omega) (by omega)
  have ba' : x / 4294967296 * (y / 4294967296) < 18446744073709551616 := by omega
  have bb' : x / 4294967296 * (y % 4294967296) < 18446744073709551616 := by omega
  have bc' : x % 4294967296 * (y / 4294967296) < 18446744073709551616 := by omega
  have bh1 : x / 4294967296 * (y / 4294967296) + (x / 4294967296 * (y % 4294967296) + x % 4294967296 * (y % 4294967296) / 4294967296) / 4294967296 < 18446744073709551616 := by omega
  have bh : x / 4294967296 * (y / 4294967296) + (x / 4294967296 * (y % 4294967296) + x % 4294967296 * (y % 4294967296) / 4294967296) / 4294967296 + ((x / 4294967296 * (y % 4294967296) + x % 4294967296 * (y % 4294967296) / 4294967296) % 4294967296 + x % 4294967296 * (y / 4294967296)) / 4294967296 < 18446744073709551616 := by omega
  go_enter Tryd.func49, Tryd.ntmps49
  go_wp2
  simp only [mm_mask x hx, mm_mask y hy, mm_div, mm_mul, mm_add, mm_wrap _ bd, mm_wrap _ bb', mm_wrap _ bt, mm_mask _ bt, mm_wrap _ bc', mm_wrap _ bw, mm_wrap _ ba', mm_wrap _ bh1, mm_wrap _ bh, mm_mod (x * y)]
  rw [hhi]
  go_ret2
  exact ⟨rfl, rfl⟩
theorem run_add (x y : Nat) (w : World) : (callFunc 50 #[.int .u64 x, .int .u64 y, .int .u64 0]).run Tryd.prog w =
      .ok (.value (.tuple #[.int .u64 (((x + y) % 18446744073709551616 : Nat) : Int), .int .u64 (((x + y) / 18446744073709551616 : Nat) : Int)])) w := by
  rw [run_callFunc_extern Tryd.func50 (by kernel_rfl) (by kernel_rfl) (by kernel_rfl) (e := add64Entry) (by kernel_rfl), run_add64 x y 0 (by omega) (by omega) (by omega) (by omega)]
  simp only [Result.andThen]
  congr 5 <;> omega

/-- Is the square, the third power, at most p (32, 64, 96 bits behind the point)? -/
def sqB (p x : Nat) : Bool := decide (x * x ≤ p * 18446744073709551616)
def cuB (p x : Nat) : Bool := decide (x * x * x ≤ p * 79228162514264337593543950336)

set_option maxHeartbeats 1000000 in
theorem power2_any (x p : Nat) (hx : x < 274877906944) (hp : p < 4294967296) (w : World) :
    Calls Tryd.prog 45 #[.int .u64 x, .int .i64 2, .int .u64 p] w fun e w' => e = .returned (.bool (sqB p x)) ∧ w = w' := by
  have E : ∀ hi lo, x * x / 18446744073709551616 = hi → x * x % 18446744073709551616 = lo → sqB p x = decide (hi < p ∨ hi = p ∧ lo = 0) := by
    intro hi lo h1 h2
    unfold sqB
    rw [decide_eq_decide]
    generalize x * x = X at h1 h2
    omega
  have HE := Lib.hid E
  clear E
  go_enter Tryd.func45, Tryd.ntmps45
  go_wp2_with fail
  refine (mul64_any x x (by omega) (by omega) w).mono ?_
  rintro e w' ⟨rfl, rfl⟩
  obtain ⟨hi, h1⟩ : ∃ hi, x * x / 18446744073709551616 = hi := ⟨_, rfl⟩
  obtain ⟨lo, h2⟩ : ∃ lo, x * x % 18446744073709551616 = lo := ⟨_, rfl⟩
  have E := Lib.hid (HE.out hi lo h1 h2)
  rw [h1, h2]
  clear h1 h2 HE
  by_cases c1 : hi < p
  · go_wp2
    go_ret
    exact ⟨ret_bool (by rw [E.out]; simp [c1]), rfl⟩
  · by_cases c2 : hi = p
    · subst c2
      by_cases c3 : lo = 0
      · subst c3
        go_wp2
        go_ret
        exact ⟨ret_bool (by rw [E.out]; simp), rfl⟩
      · have c3' : ((lo : Int) == 0) = false := beq_eq_false_iff_ne.2 (by omega)
        go_wp2
        go_ret
        exact ⟨ret_bool (by rw [E.out]; simp [c3]), rfl⟩
    · have c2' : ((hi : Int) == (p : Int)) = false := beq_eq_false_iff_ne.2 (by omega)
      go_wp2
      go_ret
      exact ⟨ret_bool (by rw [E.out]; simp [c1, c2]), rfl⟩

set_option maxHeartbeats 1000000 in
theorem power3_any (x p : Nat) (hx : x < 274877906944) (hp : p < 4294967296) (w : World) :
    Calls Tryd.prog 45 #[.int .u64 x, .int .i64 3, .int .u64 p] w fun e w' => e = .returned (.bool (cuB p x)) ∧ w = w' := by
  have hxx : x * x < 75557863725914323419136 := Nat.mul_lt_mul'' hx hx
  obtain ⟨hi, h1⟩ : ∃ hi, x * x / 18446744073709551616 = hi := ⟨_, rfl⟩
  obtain ⟨lo, h2⟩ : ∃ lo, x * x % 18446744073709551616 = lo := ⟨_, rfl⟩
  have hhi : hi < 4096 := by omega
  have hlo : lo < 18446744073709551616 := by omega
  have hd : hi * x < 1125899906842624 := Nat.mul_lt_mul'' hhi hx
  have hX : x * x * x = hi * x * 18446744073709551616 + lo * x := by
    rw [show x * x = hi * 18446744073709551616 + lo by omega, Nat.add_mul, Nat.mul_right_comm]
  obtain ⟨a, h3⟩ : ∃ a, lo * x / 18446744073709551616 = a := ⟨_, rfl⟩
  obtain ⟨b, h4⟩ : ∃ b, lo * x % 18446744073709551616 = b := ⟨_, rfl⟩
  have h5 : hi * x / 18446744073709551616 = 0 := by omega
  obtain ⟨d, h6⟩ : ∃ d, hi * x % 18446744073709551616 = d := ⟨_, rfl⟩
  obtain ⟨mid, h7⟩ : ∃ mid, (a + d) % 18446744073709551616 = mid := ⟨_, rfl⟩
  obtain ⟨top, h8⟩ : ∃ top, (a + d) / 18446744073709551616 = top := ⟨_, rfl⟩
  have hE : cuB p x = decide (top = 0 ∧ (mid < p * 4294967296 ∨ mid = p * 4294967296 ∧ b = 0)) := by
    unfold cuB
    rw [decide_eq_decide, hX]
    generalize hi * x = Y at *
    generalize lo * x = Z at *
    omega
  have E := Lib.hid hE
  have H1 := Lib.hid h1
  have H2 := Lib.hid h2
  have H3 := Lib.hid h3
  have H4 := Lib.hid h4
  have H5 := Lib.hid h5
  have H6 := Lib.hid h6
  have H7 := Lib.hid h7
  have H8 := Lib.hid h8
  have hz : lo * x < 5070602400912917605986812821504 := Nat.mul_lt_mul'' hlo hx
  have ht1 : top ≤ 1 := by omega
  have hm1 : mid < 18446744073709551616 := by omega
  clear hE hX h1 h2 h3 h4 h5 h6 h7 h8 hxx hd hz
  go_enter Tryd.func45, Tryd.ntmps45
  go_wp2_with fail
  refine (mul64_any x x (by omega) (by omega) w).mono ?_
  rintro e w' ⟨rfl, rfl⟩
  rw [H1.out, H2.out]
  clear H1 H2
  go_wp2_with fail
  refine (mul64_any lo x (by omega) (by omega) w).mono ?_
  rintro e w' ⟨rfl, rfl⟩
  rw [H3.out, H4.out]
  clear H3 H4
  go_wp2_with fail
  refine (mul64_any hi x (by omega) (by omega) w).mono ?_
  rintro e w' ⟨rfl, rfl⟩
  rw [H5.out, H6.out]
  clear H5 H6
  go_wp2_with fail
  rw [run_add a d w, H7.out, H8.out]
  rw [Oper.upon_value]
  clear H7 H8
  have hps : (p : Int) / 4294967296 = 0 := by omega
  by_cases c0 : top = 0
  · subst c0
    by_cases c1 : mid < p * 4294967296
    · have c1' : (mid : Int) < (p : Int) * 4294967296 := by omega
      have cw : (p : Int) * 4294967296 < 18446744073709551616 := by omega
      go_wp2
      go_ret
      exact ⟨ret_bool (by rw [E.out]; simp [c1]), rfl⟩
    · have c1' : ¬ (mid : Int) < (p : Int) * 4294967296 := by omega
      have cw : (p : Int) * 4294967296 < 18446744073709551616 := by omega
      by_cases c2 : mid = p * 4294967296
      · have c2' : ((mid : Int) == (p : Int) * 4294967296) = true := beq_iff_eq.2 (by omega)
        have C2 := Lib.hid c2
        clear c2
        by_cases c3 : b = 0
        · subst c3
          go_wp2
          go_ret
          exact ⟨ret_bool (by rw [E.out]; simp [C2.out]), rfl⟩
        · have c3' : ((b : Int) == 0) = false := beq_eq_false_iff_ne.2 (by omega)
          go_wp2
          go_ret
          exact ⟨ret_bool (by rw [E.out]; simp [C2.out, c3]), rfl⟩
      · have c2' : ((mid : Int) == (p : Int) * 4294967296) = false := beq_eq_false_iff_ne.2 (by omega)
        go_wp2
        go_ret
        exact ⟨ret_bool (by rw [E.out]; simp [c1, c2]), rfl⟩
  · obtain rfl : top = 1 := by omega
    go_wp2
    go_ret
    exact ⟨ret_bool (by rw [E.out]; simp), rfl⟩
end Go.Proofs.YtdbhffkfkklehaaDoor

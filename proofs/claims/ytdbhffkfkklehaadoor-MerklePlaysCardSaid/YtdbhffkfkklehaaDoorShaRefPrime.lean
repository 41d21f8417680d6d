/-
  The document's primes, its start and its constants.
-/
import Derived.Test.YtdbhffkfkklehaaDoorShaRefRoot
namespace Go.Proofs.YtdbhffkfkklehaaDoor
open Go.RowKit
set_option linter.unusedVariables false
set_option linter.unusedSimpArgs false

/-- What the test of divisors comes to. -/
def lp (n k : Nat) (is : Bool) : Nat → Bool
  | 0 => is
  | f + 1 => if k * k ≤ n then lp n (k + 1) (is && n % k != 0) f else is
def isP (n : Nat) : Bool := lp n 2 true 20
theorem lp_stop (n k : Nat) (is : Bool) (f : Nat) (h : ¬ k * k ≤ n) : lp n k is f = is := by
  cases f with
  | zero => rfl
  | succ f => unfold lp; rw [if_neg h]
theorem lp_go (n k : Nat) (is : Bool) (f : Nat) (h : k * k ≤ n) : lp n k is (f + 1) = lp n (k + 1) (is && n % k != 0) f := by
  conv => lhs; unfold lp
  rw [if_pos h]

theorem sq_le (k : Nat) (h : k ≤ 21) : k * k ≤ 441 := Nat.mul_le_mul h h
theorem sq_gt (k : Nat) (h : 20 < k) : 441 ≤ k * k := Nat.mul_le_mul h h

end Go.Proofs.YtdbhffkfkklehaaDoor

/-
  The tree of hashes as plain functions: leaves, nodes, what a change of one node is, when all nodes are as said, that the leaves say all.
-/
import Derived.Test.YtdbhffkfkklehaaDoorShaMath
namespace Go.Proofs.YtdbhffkfkklehaaDoor
open Go.RowKit
set_option linter.unusedVariables false

/-- A bucket's leaf, a node's hash. -/
def leafN (i : Nat) (b : List UInt8) : List UInt8 := shaN (0 :: UInt8.ofNat i :: b)
def nodeN (a b : List UInt8) : List UInt8 := shaN (1 :: (a ++ b))
theorem leafN_length (i : Nat) (b : List UInt8) : (leafN i b).length = 32 := St.bytes_length _
theorem nodeN_length (a b : List UInt8) : (nodeN a b).length = 32 := St.bytes_length _

/-- Node n is another one. -/
def upd (H : Nat → List UInt8) (n : Nat) (h : List UInt8) : Nat → List UInt8 := fun i => if i = n then h else H i
theorem upd_at (H : Nat → List UInt8) (n : Nat) (h : List UInt8) : upd H n h n = h := if_pos rfl
theorem upd_far (H : Nat → List UInt8) (n i : Nat) (h : List UInt8) (e : i ≠ n) : upd H n h i = H i := if_neg e

/-- Node n is as said. -/
def Ok (H : Nat → List UInt8) (n : Nat) : Prop := H n = nodeN (H (2 * n)) (H (2 * n + 1))
/-- All nodes above leaves are as said. -/
def Good (H : Nat → List UInt8) : Prop := ∀ n, 1 ≤ n → n < 64 → Ok H n
/-- Node n, made anew. -/
def anew (H : Nat → List UInt8) (n : Nat) : Nat → List UInt8 := upd H n (nodeN (H (2 * n)) (H (2 * n + 1)))
theorem anew_ok (H : Nat → List UInt8) (n : Nat) (h : 1 ≤ n) : Ok (anew H n) n := by
  unfold Ok anew
  rw [upd_at, upd_far _ _ _ _ (by omega), upd_far _ _ _ _ (by omega)]
theorem anew_keeps (H : Nat → List UInt8) (n i : Nat) (hi : Ok H i) (h1 : i ≠ n) (h2 : 2 * i ≠ n) (h3 : 2 * i + 1 ≠ n) : Ok (anew H n) i := by
  unfold Ok anew at *
  rw [upd_far _ _ _ _ h1, upd_far _ _ _ _ h2, upd_far _ _ _ _ h3]
  exact hi
/-- The leaves, in order. -/
def leavesOf (H : Nat → List UInt8) : List (List UInt8) := (List.range 64).map fun i => H (64 + i)
theorem leavesOf_length (H : Nat → List UInt8) : (leavesOf H).length = 64 := by simp [leavesOf]
theorem leavesOf_get (H : Nat → List UInt8) (i : Nat) (h : i < (leavesOf H).length) : (leavesOf H)[i] = H (64 + i) := by simp [leavesOf]
/-- The leaves say all nodes. -/
theorem Good.all {H K : Nat → List UInt8} (hH : Good H) (hK : Good K) (h : ∀ n, 64 ≤ n → n < 128 → H n = K n) : ∀ m n, 1 ≤ n → n < 128 → 128 ≤ n + m → H n = K n
  | 0, n, h1, h2, h3 => absurd h3 (by omega)
  | m + 1, n, h1, h2, h3 => by
    by_cases hn : n < 64
    · have e := hH n h1 hn
      have f := hK n h1 hn
      unfold Ok at e f
      rw [e, f, Good.all hH hK h m (2 * n) (by omega) (by omega) (by omega), Good.all hH hK h m (2 * n + 1) (by omega) (by omega) (by omega)]
    · exact h n (by omega) h2
theorem Good.eq {H K : Nat → List UInt8} (hH : Good H) (hK : Good K) (h : leavesOf H = leavesOf K) (n : Nat) (h1 : 1 ≤ n) (h2 : n < 128) : H n = K n := by
  refine Good.all hH hK (fun n ha hb => ?_) 128 n h1 h2 (by omega)
  have := List.getElem_of_eq h (i := n - 64) (by rw [leavesOf_length]; omega)
  rw [leavesOf_get, leavesOf_get] at this
  rwa [show 64 + (n - 64) = n by omega] at this
/-- One leaf is another one. -/
theorem leavesOf_upd (H : Nat → List UInt8) (b : Nat) (h : List UInt8) (hb : b < 64) : leavesOf (upd H (64 + b) h) = (leavesOf H).set b h := by
  apply List.ext_getElem (by rw [List.length_set, leavesOf_length, leavesOf_length])
  intro i h1 h2
  rw [leavesOf_length] at h1
  rw [leavesOf_get, List.getElem_set]
  by_cases e : b = i
  · subst e; rw [if_pos rfl, upd_at]
  · rw [if_neg e, leavesOf_get, upd_far _ _ _ _ (by omega)]
theorem leavesOf_low (H : Nat → List UInt8) (n : Nat) (h : List UInt8) (hn : n < 64) : leavesOf (upd H n h) = leavesOf H := by
  apply List.ext_getElem (by rw [leavesOf_length, leavesOf_length])
  intro i h1 h2
  rw [leavesOf_get, leavesOf_get, upd_far _ _ _ _ (by omega)]
theorem leavesOf_anew (H : Nat → List UInt8) (n : Nat) (hn : n < 64) : leavesOf (anew H n) = leavesOf H := leavesOf_low H n _ hn

/-- The way up: from node n to the root, each made anew. -/
def wayUp : Nat → (Nat → List UInt8) → Nat → (Nat → List UInt8)
  | 0, H, _ => H
  | k + 1, H, n => wayUp k (anew H n) (n / 2)
/-- Is i on the way up from n (in k steps)? All others are as said: then in the end all are. -/
theorem wayUp_good : ∀ (k n : Nat) (H : Nat → List UInt8), n < 2 ^ k → 2 ^ k ≤ 2 * n → 1 ≤ n → n < 64 → (∀ i, 1 ≤ i → i < 64 → i ≠ n → (∀ j, j < k → i ≠ n / 2 ^ (j + 1)) → Ok H i) → Good (wayUp k H n)
  | 0, n, H, h1, _, h2, _, _ => absurd h1 (by simp; omega)
  | 1, n, H, h1, h1', h2, h64, hall => by
    obtain rfl : n = 1 := by simp at h1; omega
    intro i hi hi64
    show Ok (anew H 1) i
    by_cases e : i = 1
    · subst e; exact anew_ok H 1 (by omega)
    · exact anew_keeps H 1 i (hall i hi hi64 e (fun j hj => by have : j = 0 := by omega
                                                               subst this; simp; omega)) e (by omega) (by omega)
  | k + 2, n, H, h1, h1', h2, h64, hall => by
    have hp : 2 ^ (k + 2) = 2 * 2 ^ (k + 1) := by rw [Nat.pow_succ]; omega
    have hk : 2 ^ (k + 1) = 2 * 2 ^ k := by rw [Nat.pow_succ]; omega
    have hpos : 0 < 2 ^ k := Nat.two_pow_pos k
    show Good (wayUp (k + 1) (anew H n) (n / 2))
    refine wayUp_good (k + 1) (n / 2) (anew H n) (by omega) (by omega) (by omega) (by omega) ?_
    intro i hi hi64 hne hway
    by_cases e : i = n
    · subst e; exact anew_ok H i hi
    · refine anew_keeps H n i (hall i hi hi64 e ?_) e (by omega) (by omega)
      intro j hj
      cases j with
      | zero => simpa using hne
      | succ j =>
        have := hway j (by omega)
        rwa [Nat.div_div_eq_div_mul, show 2 * 2 ^ (j + 1) = 2 ^ (j + 1 + 1) by rw [Nat.pow_succ 2 (j + 1)]; omega] at this
theorem wayUp_leaves : ∀ (k n : Nat) (H : Nat → List UInt8), n < 64 → leavesOf (wayUp k H n) = leavesOf H
  | 0, _, _, _ => rfl
  | k + 1, n, H, h => by
    show leavesOf (wayUp k (anew H n) (n / 2)) = leavesOf H
    rw [wayUp_leaves k (n / 2) _ (by omega), leavesOf_anew H n h]
end Go.Proofs.YtdbhffkfkklehaaDoor

/-
  The tree of empty buckets, by its table; where it and the one that has x in bucket 5 differ.
-/
import Derived.Test.YtdbhffkfkklehaaDoorMkTabA
import Derived.Test.YtdbhffkfkklehaaDoorMkTabB
import Derived.Test.YtdbhffkfkklehaaDoorMkTabC
import Derived.Test.YtdbhffkfkklehaaDoorMkTabD
import Derived.Test.YtdbhffkfkklehaaDoorMkDiff
namespace Go.Proofs.YtdbhffkfkklehaaDoor
open Go.RowKit
set_option linter.unusedVariables false
set_option maxRecDepth 100000

theorem tab_good : Good tN' := by
  intro n h1 h2
  unfold Ok
  match n, h1, h2 with
  | 0, h, _ => exact absurd h (by decide)
  | 1, _, _ => exact tab_n1
  | 2, _, _ => exact tab_n2
  | 3, _, _ => exact tab_n3
  | 4, _, _ => exact tab_n4
  | 5, _, _ => exact tab_n5
  | 6, _, _ => exact tab_n6
  | 7, _, _ => exact tab_n7
  | 8, _, _ => exact tab_n8
  | 9, _, _ => exact tab_n9
  | 10, _, _ => exact tab_n10
  | 11, _, _ => exact tab_n11
  | 12, _, _ => exact tab_n12
  | 13, _, _ => exact tab_n13
  | 14, _, _ => exact tab_n14
  | 15, _, _ => exact tab_n15
  | 16, _, _ => exact tab_n16
  | 17, _, _ => exact tab_n17
  | 18, _, _ => exact tab_n18
  | 19, _, _ => exact tab_n19
  | 20, _, _ => exact tab_n20
  | 21, _, _ => exact tab_n21
  | 22, _, _ => exact tab_n22
  | 23, _, _ => exact tab_n23
  | 24, _, _ => exact tab_n24
  | 25, _, _ => exact tab_n25
  | 26, _, _ => exact tab_n26
  | 27, _, _ => exact tab_n27
  | 28, _, _ => exact tab_n28
  | 29, _, _ => exact tab_n29
  | 30, _, _ => exact tab_n30
  | 31, _, _ => exact tab_n31
  | 32, _, _ => exact tab_n32
  | 33, _, _ => exact tab_n33
  | 34, _, _ => exact tab_n34
  | 35, _, _ => exact tab_n35
  | 36, _, _ => exact tab_n36
  | 37, _, _ => exact tab_n37
  | 38, _, _ => exact tab_n38
  | 39, _, _ => exact tab_n39
  | 40, _, _ => exact tab_n40
  | 41, _, _ => exact tab_n41
  | 42, _, _ => exact tab_n42
  | 43, _, _ => exact tab_n43
  | 44, _, _ => exact tab_n44
  | 45, _, _ => exact tab_n45
  | 46, _, _ => exact tab_n46
  | 47, _, _ => exact tab_n47
  | 48, _, _ => exact tab_n48
  | 49, _, _ => exact tab_n49
  | 50, _, _ => exact tab_n50
  | 51, _, _ => exact tab_n51
  | 52, _, _ => exact tab_n52
  | 53, _, _ => exact tab_n53
  | 54, _, _ => exact tab_n54
  | 55, _, _ => exact tab_n55
  | 56, _, _ => exact tab_n56
  | 57, _, _ => exact tab_n57
  | 58, _, _ => exact tab_n58
  | 59, _, _ => exact tab_n59
  | 60, _, _ => exact tab_n60
  | 61, _, _ => exact tab_n61
  | 62, _, _ => exact tab_n62
  | 63, _, _ => exact tab_n63
  | n + 64, _, h => exact absurd h (by omega)
theorem tab_leaves : leavesOf tN' = emptyL 64 := by
  apply List.ext_getElem (by rw [leavesOf_length, emptyL_length])
  intro i h1 h2
  rw [leavesOf_length] at h1
  rw [leavesOf_get]
  simp only [emptyL, List.getElem_map, List.getElem_range]
  exact tab_leaf ⟨i, h1⟩
/-- The tree with x in bucket 5. -/
def xF (n : Nat) : List UInt8 :=
  if n = 69 then xN' 0 else if n = 34 then xN' 1 else if n = 17 then xN' 2 else if n = 8 then xN' 3 else if n = 4 then xN' 4 else if n = 2 then xN' 5 else if n = 1 then xN' 6 else tN' n
theorem xF_far (n : Nat) (h : n ≠ 69 ∧ n ≠ 34 ∧ n ≠ 17 ∧ n ≠ 8 ∧ n ≠ 4 ∧ n ≠ 2 ∧ n ≠ 1) : xF n = tN' n := by
  obtain ⟨a, b, c, d, e, f, g⟩ := h
  unfold xF
  rw [if_neg a, if_neg b, if_neg c, if_neg d, if_neg e, if_neg f, if_neg g]
theorem x_good : Good xF := by
  intro n h1 h2
  unfold Ok
  by_cases c34 : n = 34
  · subst c34; exact tab_x1
  by_cases c17 : n = 17
  · subst c17; exact tab_x2
  by_cases c8 : n = 8
  · subst c8; exact tab_x3
  by_cases c4 : n = 4
  · subst c4; exact tab_x4
  by_cases c2 : n = 2
  · subst c2; exact tab_x5
  by_cases c1 : n = 1
  · subst c1; exact tab_x6
  rw [xF_far n (by omega), xF_far (2 * n) (by omega), xF_far (2 * n + 1) (by omega)]
  exact tab_good n h1 h2
theorem x_leaves : leavesOf xF = (emptyL 64).set 5 (leafN 5 [120]) := by
  rw [← tab_leaves]
  apply List.ext_getElem (by rw [List.length_set, leavesOf_length, leavesOf_length])
  intro i h1 h2
  rw [leavesOf_length] at h1
  rw [leavesOf_get, List.getElem_set]
  by_cases e : 5 = i
  · subst e; rw [if_pos rfl, ← tab_x0]; rfl
  · rw [if_neg e, leavesOf_get, xF_far _ (by omega)]
theorem wk_congr {H H' J J' : Nat → List UInt8} (h : ∀ n, 1 ≤ n → n < 128 → H n = H' n) (hj : ∀ n, 1 ≤ n → n < 128 → J n = J' n) : ∀ k n, 1 ≤ n → n < 128 → wk H J k n = wk H' J' k n
  | 0, _, _, _ => rfl
  | k + 1, n, h1, h2 => by
    unfold wk
    rw [h n h1 h2, hj n h1 h2]
    by_cases h64 : 64 ≤ n
    · rw [if_pos h64, if_pos h64]
    · rw [if_neg h64, if_neg h64, wk_congr h hj k (2 * n) (by omega) (by omega), wk_congr h hj k (2 * n + 1) (by omega) (by omega)]
theorem wk_x : wk xF tN' 7 1 = ([5], 13) := by decide +kernel
theorem wk_self (H : Nat → List UInt8) : wk H H 7 1 = ([], 1) := by
  show (if H 1 = H 1 then _ else _) = _
  rw [if_pos rfl]
theorem known_diff {K J : Nat → List UInt8} (hK : Good K) (hJ : Good J) (hk : leavesOf K = (emptyL 64).set 5 (leafN 5 [120])) (hj : leavesOf J = emptyL 64) : wk K J 7 1 = ([5], 13) := by
  rw [wk_congr (fun n a b => hK.eq x_good (by rw [hk, x_leaves]) n a b) (fun n a b => hJ.eq tab_good (by rw [hj, tab_leaves]) n a b) 7 1 (by decide) (by decide)]
  exact wk_x
theorem known_unlike : (emptyL 64).set 5 (leafN 5 [120]) ≠ emptyL 64 := by
  rw [← x_leaves, ← tab_leaves]
  intro h
  have := List.getElem_of_eq h (i := 5) (by rw [leavesOf_length]; decide)
  rw [leavesOf_get, leavesOf_get] at this
  exact tab_unlike.1 this
end Go.Proofs.YtdbhffkfkklehaaDoor

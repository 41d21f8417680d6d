/-
  The tree of empty buckets, by its table; where it and the one that has x in bucket 5 differ.
-/
import Derived.Test.YtdbhffkfkklehaaDoorMkTabA
import Derived.Test.YtdbhffkfkklehaaDoorMkTabB
import Derived.Test.YtdbhffkfkklehaaDoorMkTabC
import Derived.Test.YtdbhffkfkklehaaDoorMkTabD
import Derived.Test.YtdbhffkfkklehaaDoorMkDiffA
import Derived.Test.YtdbhffkfkklehaaDoorShaKnown
import Derived.Lib.SlBytesConst
namespace Go.Proofs.YtdbhffkfkklehaaDoor
open Go.RowKit
set_option linter.unusedVariables false
set_option maxRecDepth 100000

theorem tab_good : Good tN' := by
  intro n h1 h2
  unfold Ok
  match n, h1, h2 with
  | 0, h, _ => exact absurd h (by decide)
  | 1, _, _ => exact tab_n1
  | 2, _, _ => exact tab_n2
  | 3, _, _ => exact tab_n3
  | 4, _, _ => exact tab_n4
  | 5, _, _ => exact tab_n5
  | 6, _, _ => exact tab_n6
  | 7, _, _ => exact tab_n7
  | 8, _, _ => exact tab_n8
  | 9, _, _ => exact tab_n9
  | 10, _, _ => exact tab_n10
  | 11, _, _ => exact tab_n11
  | 12, _, _ => exact tab_n12
  | 13, _, _ => exact tab_n13
  | 14, _, _ => exact tab_n14
  | 15, _, _ => exact tab_n15
  | 16, _, _ => exact tab_n16
  | 17, _, _ => exact tab_n17
  | 18, _, _ => exact tab_n18
  | 19, _, _ => exact tab_n19
  | 20, _, _ => exact tab_n20
  | 21, _, _ => exact tab_n21
  | 22, _, _ => exact tab_n22
  | 23, _, _ => exact tab_n23
  | 24, _, _ => exact tab_n24
  | 25, _, _ => exact tab_n25
  | 26, _, _ => exact tab_n26
  | 27, _, _ => exact tab_n27
  | 28, _, _ => exact tab_n28
  | 29, _, _ => exact tab_n29
  | 30, _, _ => exact tab_n30
  | 31, _, _ => exact tab_n31
  | 32, _, _ => exact tab_n32
  | 33, _, _ => exact tab_n33
  | 34, _, _ => exact tab_n34
  | 35, _, _ => exact tab_n35
  | 36, _, _ => exact tab_n36
  | 37, _, _ => exact tab_n37
  | 38, _, _ => exact tab_n38
  | 39, _, _ => exact tab_n39
  | 40, _, _ => exact tab_n40
  | 41, _, _ => exact tab_n41
  | 42, _, _ => exact tab_n42
  | 43, _, _ => exact tab_n43
  | 44, _, _ => exact tab_n44
  | 45, _, _ => exact tab_n45
  | 46, _, _ => exact tab_n46
  | 47, _, _ => exact tab_n47
  | 48, _, _ => exact tab_n48
  | 49, _, _ => exact tab_n49
  | 50, _, _ => exact tab_n50
  | 51, _, _ => exact tab_n51
  | 52, _, _ => exact tab_n52
  | 53, _, _ => exact tab_n53
  | 54, _, _ => exact tab_n54
  | 55, _, _ => exact tab_n55
  | 56, _, _ => exact tab_n56
  | 57, _, _ => exact tab_n57
  | 58, _, _ => exact tab_n58
  | 59, _, _ => exact tab_n59
  | 60, _, _ => exact tab_n60
  | 61, _, _ => exact tab_n61
  | 62, _, _ => exact tab_n62
  | 63, _, _ => exact tab_n63
  | n + 64, _, h => exact absurd h (by omega)
theorem tab_leaves : leavesOf tN' = emptyL 64 := by
  apply List.ext_getElem (by rw [leavesOf_length, emptyL_length])
  intro i h1 h2
  rw [leavesOf_length] at h1
  rw [leavesOf_get]
  simp only [emptyL, List.getElem_map, List.getElem_range]
  exact tab_leaf ⟨i, h1⟩
/-- The tree with x in bucket 5. -/
def xF (n : Nat) : List UInt8 :=
  if n = 69 then xN' 0 else if n = 34 then xN' 1 else if n = 17 then xN' 2 else if n = 8 then xN' 3 else if n = 4 then xN' 4 else if n = 2 then xN' 5 else if n = 1 then xN' 6 else tN' n
theorem xF_far (n : Nat) (h : n ≠ 69 ∧ n ≠ 34 ∧ n ≠ 17 ∧ n ≠ 8 ∧ n ≠ 4 ∧ n ≠ 2 ∧ n ≠ 1) : xF n = tN' n := by
  obtain ⟨a, b, c, d, e, f, g⟩ := h
  unfold xF
  rw [if_neg a, if_neg b, if_neg c, if_neg d, if_neg e, if_neg f, if_neg g]
theorem x_good : Good xF := by
  intro n h1 h2
  unfold Ok
  by_cases c34 : n = 34
  · subst c34; exact tab_x1
  by_cases c17 : n = 17
  · subst c17; exact tab_x2
  by_cases c8 : n = 8
  · subst c8; exact tab_x3
  by_cases c4 : n = 4
  · subst c4; exact tab_x4
  by_cases c2 : n = 2
  · subst c2; exact tab_x5
  by_cases c1 : n = 1
  · subst c1; exact tab_x6
  rw [xF_far n (by omega), xF_far (2 * n) (by omega), xF_far (2 * n + 1) (by omega)]
  exact tab_good n h1 h2
theorem x_leaves : leavesOf xF = (emptyL 64).set 5 (leafN 5 [120]) := by
  rw [← tab_leaves]
  apply List.ext_getElem (by rw [List.length_set, leavesOf_length, leavesOf_length])
  intro i h1 h2
  rw [leavesOf_length] at h1
  rw [leavesOf_get, List.getElem_set]
  by_cases e : 5 = i
  · subst e; rw [if_pos rfl, ← tab_x0]; rfl
  · rw [if_neg e, leavesOf_get, xF_far _ (by omega)]
theorem wk_congr {H H' J J' : Nat → List UInt8} (h : ∀ n, 1 ≤ n → n < 128 → H n = H' n) (hj : ∀ n, 1 ≤ n → n < 128 → J n = J' n) : ∀ k n, 1 ≤ n → n < 128 → wk H J k n = wk H' J' k n
  | 0, _, _, _ => rfl
  | k + 1, n, h1, h2 => by
    unfold wk
    rw [h n h1 h2, hj n h1 h2]
    by_cases h64 : 64 ≤ n
    · rw [if_pos h64, if_pos h64]
    · rw [if_neg h64, if_neg h64, wk_congr h hj k (2 * n) (by omega) (by omega), wk_congr h hj k (2 * n + 1) (by omega) (by omega)]
theorem wk_x : wk xF tN' 7 1 = ([5], 13) := by decide +kernel
theorem wk_self (H : Nat → List UInt8) : wk H H 7 1 = ([], 1) := by
  show (if H 1 = H 1 then _ else _) = _
  rw [if_pos rfl]
theorem known_diff {K J : Nat → List UInt8} (hK : Good K) (hJ : Good J) (hk : leavesOf K = (emptyL 64).set 5 (leafN 5 [120])) (hj : leavesOf J = emptyL 64) : wk K J 7 1 = ([5], 13) := by
  rw [wk_congr (fun n a b => hK.eq x_good (by rw [hk, x_leaves]) n a b) (fun n a b => hJ.eq tab_good (by rw [hj, tab_leaves]) n a b) 7 1 (by decide) (by decide)]
  exact wk_x
theorem known_unlike : (emptyL 64).set 5 (leafN 5 [120]) ≠ emptyL 64 := by
  rw [← x_leaves, ← tab_leaves]
  intro h
  have := List.getElem_of_eq h (i := 5) (by rw [leavesOf_length]; decide)
  rw [leavesOf_get, leavesOf_get] at this
  exact tab_unlike.1 this
end Go.Proofs.YtdbhffkfkklehaaDoor

/-
  The walk of the law's ints.
-/
namespace Go.Proofs.YtdbhffkfkklehaaDoor
open Go.RowKit
set_option linter.unusedVariables false
set_option linter.unusedSimpArgs false
set_option maxRecDepth 100000

/-- The value v is a slice that reads as the numbers X. -/
def Si (w : World) (v : Value) (X : List Nat) : Prop :=
  ∃ A c, v = .slice A X.length c ∧ (0 < X.length → ∃ b o, A = some ⟨b, o, none⟩ ∧ ∀ j (h : j < X.length), w.cell? ⟨b, o + j, none⟩ = some (iw X[j]))
theorem OwnI.si {w : World} {base : Nat} {v : Value} {X : List Nat} (h : OwnI w base v X) : Si w v X := by
  rcases h.2 with ⟨rfl, h0⟩ | ⟨g, cap, cur, rfl, _, hh, hnc, _, hs, ht⟩
  · exact ⟨none, 0, by rw [h0], fun hn => absurd hn (by omega)⟩
  · refine ⟨some ⟨g, 0, none⟩, cap, rfl, fun _ => ⟨g, 0, rfl, fun j hj => ?_⟩⟩
    have := World.ownsRow.cells h (g := g) rfl j (iw X[j]) (by simp [List.getElem?_eq_getElem hj])
    rw [add_plain] at this
    exact this
theorem Si.below {w w' : World} {v : Value} {X : List Nat} (h : Si w v X) (hb : Below w.heap.size w w') : Si w' v X := by
  obtain ⟨A, c, rfl, ha⟩ := h
  refine ⟨A, c, rfl, fun hn => ?_⟩
  obtain ⟨b, o, rfl, hx⟩ := ha hn
  exact ⟨b, o, rfl, fun j hj => (hb.cell (World.block_lt_of_cell? w _ (hx j hj))).trans (hx j hj)⟩
theorem Si.one (w : World) (n : Nat) : Si (w.alloc (.cells #[.int .i64 (n : Int)] 3)) (.slice (some ⟨w.heap.size, 0, none⟩) 1 1) [n] := by
  refine ⟨_, 1, rfl, fun _ => ⟨_, 0, rfl, fun j hj => ?_⟩⟩
  have h0 : j = 0 := by simpa using hj
  subst h0
  exact (Blk.new w _ _).cell 0

set_option maxHeartbeats 1600000 in
theorem ints_any (v u : Value) (L M : List Nat) (w : World) (hL : Si w v L) (hM : Si w u M) (hl : L.length ≤ 1000000) (hm : M.length ≤ 1000000) :
    Calls Tryd.prog 25 #[v, u] w fun e w' => e = .returned (.bool (decide (L = M))) ∧ Below w.heap.size w w' := by
  have hfo : Tryd.prog.follows .mixedOrders = true := by kernel_rfl
  obtain ⟨A, c, rfl, ha⟩ := hL
  obtain ⟨B, c', rfl, hb'⟩ := hM
  have HA0 := Lib.hid ha
  have HB0 := Lib.hid hb'
  clear ha hb'
  obtain ⟨Q, hQ⟩ : ∃ Q : Bool, Q = decide (L = M) := ⟨_, rfl⟩
  have HQ := Lib.hid hQ
  rw [← hQ]
  clear hQ
  by_cases hlen : L.length = M.length
  · have hb : ((L.length : Int) != (M.length : Int)) = false := by rw [hlen]; simp
    have HLen := Lib.hid hlen
    clear hlen
    go_enter Tryd.func25, Tryd.ntmps25
    go_wp2
    go_loopw [5] (fun z wr => ∃ i : Nat, z = .int .i64 (i : Int) ∧ i ≤ L.length ∧ (∀ k (h : k < L.length), k < i → L[k] = M[k]'(by rw [← HLen.out]; exact h)) ∧ Below w.heap.size w wr) (fun z _ => L.length - (intOf z).toNat)
    case atStart => exact ⟨0, rfl, Nat.zero_le _, fun k _ h => absurd h (by omega), Below.refl _ _⟩
    case round =>
      obtain ⟨i, rfl, hi, hall, hbw⟩ := hrel
      have HA := Lib.hid hall
      have HB := Lib.hid hbw
      clear hall hbw
      by_cases hlt : i < L.length
      · have hlt2 : i < M.length := by have := HLen.out; omega
        obtain ⟨b, o, rfl, k0⟩ := HA0.out (by omega)
        obtain ⟨b', o', rfl, k2⟩ := HB0.out (by omega)
        have HC1 := Lib.hid (show wr.drew.cell? ⟨b, o + i, none⟩ = some (.int .i64 (L[i] : Int)) from (HB.out.cell (World.block_lt_of_cell? w _ (k0 i hlt))).trans (k0 i hlt))
        have HC2 := Lib.hid (show wr.drew.cell? ⟨b', o' + i, none⟩ = some (.int .i64 ((M[i]'hlt2 : Nat) : Int)) from (HB.out.cell (World.block_lt_of_cell? w _ (k2 i hlt2))).trans (k2 i hlt2))
        obtain ⟨x, hx⟩ : ∃ x, L[i] = x := ⟨_, rfl⟩
        obtain ⟨y, hy⟩ : ∃ y, M[i]'hlt2 = y := ⟨_, rfl⟩
        have HX := Lib.hid hx
        have HY := Lib.hid hy
        rw [hx] at HC1
        rw [hy] at HC2
        have HB1 := Lib.hid (show Below w.heap.size w wr.drew from HB.out.drew)
        clear k0 k2 hx hy
        have hi1 : (i : Int) < (L.length : Int) := by omega
        have hi2 : (i : Int) < (M.length : Int) := by omega
        by_cases hq : x = y
        · subst hq
          go_wp2_with fail
          refine wp_region_held_drew (S := fun X => X = wr.drew) hfo rfl (fun hS0 => ?_)
          generalize wr.drew = Z0 at *
          refine' wpAnyH_take (i := 0) (oi := ⟨some 17, _, _, _, _, _⟩) (v := _) rfl (by kernel_rfl) (by kernel_rfl) (by kernel_rfl) (fun _ _ _ h => h) (Or.inl ⟨by rfl, ?y0⟩) hS0 ?r0
          case y0 => (intro w' hSw; subst hSw; have e1 := HC1.out; have e2 := HC2.out; go_simp; try rfl)
          try simp only [Act.put, List.setIfInBounds_toArray, List.set_cons_zero, List.set_cons_succ]
          refine' wpAnyH_take (i := 1) (oi := ⟨some 18, _, _, _, _, _⟩) (v := _) rfl (by kernel_rfl) (by kernel_rfl) (by kernel_rfl) (fun _ _ _ h => h) (Or.inl ⟨by rfl, ?y1⟩) hS0 ?r1
          case y1 => (intro w' hSw; subst hSw; have e1 := HC1.out; have e2 := HC2.out; go_simp; try rfl)
          try simp only [Act.put, List.setIfInBounds_toArray, List.set_cons_zero, List.set_cons_succ]
          refine' wpAnyH_take (i := 2) (oi := ⟨some 19, _, _, _, _, _⟩) (v := _) rfl (by kernel_rfl) (by kernel_rfl) (by kernel_rfl) (fun _ _ _ h => h) (Or.inl ⟨by rfl, ?y2⟩) hS0 ?r2
          case y2 => (intro w' hSw; subst hSw; have e1 := HC1.out; have e2 := HC2.out; go_simp; try rfl)
          try simp only [Act.put, List.setIfInBounds_toArray, List.set_cons_zero, List.set_cons_succ]
          refine' wpAnyH_take (i := 3) (oi := ⟨some 20, _, _, _, _, _⟩) (v := _) rfl (by kernel_rfl) (by kernel_rfl) (by kernel_rfl) (fun _ _ _ h => h) (Or.inl ⟨by rfl, ?y3⟩) hS0 ?r3
          case y3 => (intro w' hSw; subst hSw; have e1 := HC1.out; have e2 := HC2.out; go_simp; try rfl)
          try simp only [Act.put, List.setIfInBounds_toArray, List.set_cons_zero, List.set_cons_succ]
          refine' wpAnyH_take (i := 4) (oi := ⟨some 21, _, _, _, _, _⟩) (v := _) rfl (by kernel_rfl) (by kernel_rfl) (by kernel_rfl) (fun _ _ _ h => h) (Or.inl ⟨by rfl, ?y4⟩) hS0 ?r4
          case y4 => (intro w' hSw; subst hSw; have e1 := HC1.out; have e2 := HC2.out; go_simp; try rfl)
          try simp only [Act.put, List.setIfInBounds_toArray, List.set_cons_zero, List.set_cons_succ]
          refine' wpAnyH_take (i := 5) (oi := ⟨some 22, _, _, _, _, _⟩) (v := _) rfl (by kernel_rfl) (by kernel_rfl) (by kernel_rfl) (fun _ _ _ h => h) (Or.inl ⟨by rfl, ?y5⟩) hS0 ?r5
          case y5 => (intro w' hSw; subst hSw; have e1 := HC1.out; have e2 := HC2.out; go_simp; try rfl)
          try simp only [Act.put, List.setIfInBounds_toArray, List.set_cons_zero, List.set_cons_succ]
          refine' wpAnyH_take (i := 6) (oi := ⟨some 23, _, _, _, _, _⟩) (v := _) rfl (by kernel_rfl) (by kernel_rfl) (by kernel_rfl) (fun _ _ _ h => h) (Or.inl ⟨by rfl, ?y6⟩) hS0 ?r6
          case y6 => (intro w' hSw; subst hSw; have e1 := HC1.out; have e2 := HC2.out; go_simp; try rfl)
          try simp only [Act.put, List.setIfInBounds_toArray, List.set_cons_zero, List.set_cons_succ]
          refine' wpAnyH_take (i := 7) (oi := ⟨some 24, _, _, _, _, _⟩) (v := _) rfl (by kernel_rfl) (by kernel_rfl) (by kernel_rfl) (fun _ _ _ h => h) (Or.inl ⟨by rfl, ?y7⟩) hS0 ?r7
          case y7 => (intro w' hSw; subst hSw; have e1 := HC1.out; have e2 := HC2.out; go_simp; try rfl)
          try simp only [Act.put, List.setIfInBounds_toArray, List.set_cons_zero, List.set_cons_succ]
          refine' wpAnyH_take (i := 8) (oi := ⟨some 25, _, _, _, _, _⟩) (v := _) rfl (by kernel_rfl) (by kernel_rfl) (by kernel_rfl) (fun _ _ _ h => h) (Or.inl ⟨by rfl, ?y8⟩) hS0 ?r8
          case y8 => (intro w' hSw; subst hSw; have e1 := HC1.out; have e2 := HC2.out; go_simp; try rfl)
          try simp only [Act.put, List.setIfInBounds_toArray, List.set_cons_zero, List.set_cons_succ]
          refine wpAnyH_done (by kernel_rfl) ?_ _
          go_wp2
          refine ⟨⟨i + 1, by go_num, by omega, fun k hk hki => ?_, HB1.out⟩, by simp [intOf]; omega⟩
          rcases Nat.lt_or_ge k i with h | h
          · exact HA.out k hk h
          · obtain rfl : k = i := by omega
            rw [HX.out, HY.out]
        · have hne : ((x : Int) != (y : Int)) = true := by rw [bne_iff_ne]; omega
          have Hq := Lib.hid hq
          clear hq
          go_wp2_with fail
          refine wp_region_held_drew (S := fun X => X = wr.drew) hfo rfl (fun hS0 => ?_)
          generalize wr.drew = Z0 at *
          refine' wpAnyH_take (i := 0) (oi := ⟨some 17, _, _, _, _, _⟩) (v := _) rfl (by kernel_rfl) (by kernel_rfl) (by kernel_rfl) (fun _ _ _ h => h) (Or.inl ⟨by rfl, ?y0B⟩) hS0 ?r0B
          case y0B => (intro w' hSw; subst hSw; have e1 := HC1.out; have e2 := HC2.out; go_simp; try rfl)
          try simp only [Act.put, List.setIfInBounds_toArray, List.set_cons_zero, List.set_cons_succ]
          refine' wpAnyH_take (i := 1) (oi := ⟨some 18, _, _, _, _, _⟩) (v := _) rfl (by kernel_rfl) (by kernel_rfl) (by kernel_rfl) (fun _ _ _ h => h) (Or.inl ⟨by rfl, ?y1B⟩) hS0 ?r1B
          case y1B => (intro w' hSw; subst hSw; have e1 := HC1.out; have e2 := HC2.out; go_simp; try rfl)
          try simp only [Act.put, List.setIfInBounds_toArray, List.set_cons_zero, List.set_cons_succ]
          refine' wpAnyH_take (i := 2) (oi := ⟨some 19, _, _, _, _, _⟩) (v := _) rfl (by kernel_rfl) (by kernel_rfl) (by kernel_rfl) (fun _ _ _ h => h) (Or.inl ⟨by rfl, ?y2B⟩) hS0 ?r2B
          case y2B => (intro w' hSw; subst hSw; have e1 := HC1.out; have e2 := HC2.out; go_simp; try rfl)
          try simp only [Act.put, List.setIfInBounds_toArray, List.set_cons_zero, List.set_cons_succ]
          refine' wpAnyH_take (i := 3) (oi := ⟨some 20, _, _, _, _, _⟩) (v := _) rfl (by kernel_rfl) (by kernel_rfl) (by kernel_rfl) (fun _ _ _ h => h) (Or.inl ⟨by rfl, ?y3B⟩) hS0 ?r3B
          case y3B => (intro w' hSw; subst hSw; have e1 := HC1.out; have e2 := HC2.out; go_simp; try rfl)
          try simp only [Act.put, List.setIfInBounds_toArray, List.set_cons_zero, List.set_cons_succ]
          refine' wpAnyH_take (i := 4) (oi := ⟨some 21, _, _, _, _, _⟩) (v := _) rfl (by kernel_rfl) (by kernel_rfl) (by kernel_rfl) (fun _ _ _ h => h) (Or.inl ⟨by rfl, ?y4B⟩) hS0 ?r4B
          case y4B => (intro w' hSw; subst hSw; have e1 := HC1.out; have e2 := HC2.out; go_simp; try rfl)
          try simp only [Act.put, List.setIfInBounds_toArray, List.set_cons_zero, List.set_cons_succ]
          refine' wpAnyH_take (i := 5) (oi := ⟨some 22, _, _, _, _, _⟩) (v := _) rfl (by kernel_rfl) (by kernel_rfl) (by kernel_rfl) (fun _ _ _ h => h) (Or.inl ⟨by rfl, ?y5B⟩) hS0 ?r5B
          case y5B => (intro w' hSw; subst hSw; have e1 := HC1.out; have e2 := HC2.out; go_simp; try rfl)
          try simp only [Act.put, List.setIfInBounds_toArray, List.set_cons_zero, List.set_cons_succ]
          refine' wpAnyH_take (i := 6) (oi := ⟨some 23, _, _, _, _, _⟩) (v := _) rfl (by kernel_rfl) (by kernel_rfl) (by kernel_rfl) (fun _ _ _ h => h) (Or.inl ⟨by rfl, ?y6B⟩) hS0 ?r6B
          case y6B => (intro w' hSw; subst hSw; have e1 := HC1.out; have e2 := HC2.out; go_simp; try rfl)
          try simp only [Act.put, List.setIfInBounds_toArray, List.set_cons_zero, List.set_cons_succ]
          refine' wpAnyH_take (i := 7) (oi := ⟨some 24, _, _, _, _, _⟩) (v := _) rfl (by kernel_rfl) (by kernel_rfl) (by kernel_rfl) (fun _ _ _ h => h) (Or.inl ⟨by rfl, ?y7B⟩) hS0 ?r7B
          case y7B => (intro w' hSw; subst hSw; have e1 := HC1.out; have e2 := HC2.out; go_simp; try rfl)
          try simp only [Act.put, List.setIfInBounds_toArray, List.set_cons_zero, List.set_cons_succ]
          refine' wpAnyH_take (i := 8) (oi := ⟨some 25, _, _, _, _, _⟩) (v := _) rfl (by kernel_rfl) (by kernel_rfl) (by kernel_rfl) (fun _ _ _ h => h) (Or.inl ⟨by rfl, ?y8B⟩) hS0 ?r8B
          case y8B => (intro w' hSw; subst hSw; have e1 := HC1.out; have e2 := HC2.out; go_simp; try rfl)
          try simp only [Act.put, List.setIfInBounds_toArray, List.set_cons_zero, List.set_cons_succ]
          refine wpAnyH_done (by kernel_rfl) ?_ _
          go_wp2
          go_ret
          refine ⟨ret_bool ?_, HB1.out⟩
          rw [HQ.out, eq_comm, decide_eq_false_iff_not]
          intro h
          exact Hq.out (by rw [← HX.out, ← HY.out]; simp only [h])
      · obtain rfl : i = L.length := by omega
        go_wp2
        go_ret
        refine ⟨ret_bool ?_, HB.out⟩
        rw [HQ.out, eq_comm, decide_eq_true_iff]
        exact List.ext_getElem HLen.out fun k h1 h2 => HA.out k h1 h1
  · have hb : ((L.length : Int) != (M.length : Int)) = true := by rw [bne_iff_ne]; omega
    have HLen := Lib.hid hlen
    clear hlen
    go_enter Tryd.func25, Tryd.ntmps25
    go_wp2
    go_ret
    refine ⟨ret_bool ?_, Below.refl _ _⟩
    rw [HQ.out, eq_comm, decide_eq_false_iff_not]
    intro h
    exact HLen.out (by rw [h])
end Go.Proofs.YtdbhffkfkklehaaDoor

/-
  The walk of the law's known: the chapter's rows.
-/
namespace Go.Proofs.YtdbhffkfkklehaaDoor
open Go.RowKit
set_option linter.unusedVariables false
set_option linter.unusedSimpArgs false
set_option maxRecDepth 100000

theorem Sl.of_mark1 (w : World) (e : TypeId) (C : Array Value) (fr : Nat × Nat) (l : List UInt8) (n c : Nat) (hn : n = l.length) (hc : n ≤ c) (hC : C.toList = l.map bv) :
    Sl (w.alloc (.cells C e fr)) (.slice (some ⟨w.heap.size, 0, none⟩) n c) l := by
  subst hn
  refine ⟨_, c, rfl, hc, fun _ => ⟨w.heap.size, 0, rfl, fun j hj => ?_⟩⟩
  rw [World.cell?_alloc_mark, Nat.zero_add, ← Array.getElem?_toList, hC]
  simp [List.getElem?_eq_getElem hj, bv]
theorem Tr.free2 {w : World} {g : Nat} {H : Nat → List UInt8} {v : Value} {base : Nat} {L : List (List UInt8)} (h : Tr w g H) (ho : OwnH w base v L) (hb : g < base) : v.ownBlock ≠ some g := fun e => by have := (ho.lt _ e).1; omega

theorem diff_same (w : World) (g : Nat) (H : Nat → List UInt8) (h : Tr w g H) :
    Calls Tryd.prog 24 #[.pointer (some ⟨g, 0, none⟩), .pointer (some ⟨g, 0, none⟩)] w (DiffEnd [] 1 w) := by
  have := diff_any w g g H H h h
  rw [wk_self] at this
  exact this
theorem diff_x (w : World) (g k : Nat) (H J : Nat → List UInt8) (h : Tr w g H) (hk : Tr w k J) (E F : List (List UInt8)) (hE : Hid (E = emptyL 64)) (hF : Hid (F = (emptyL 64).set 5 (leafN 5 [120]))) (hH : Good H) (hJ : Good J) (h1 : leavesOf H = F) (h2 : leavesOf J = E) :
    Calls Tryd.prog 24 #[.pointer (some ⟨g, 0, none⟩), .pointer (some ⟨k, 0, none⟩)] w (DiffEnd [5] 13 w) := by
  have := diff_any w g k H J h hk
  rw [known_diff hH hJ (h1.trans hF.out) (h2.trans hE.out)] at this
  exact this

set_option maxHeartbeats 1000000 in
theorem known_any (w : World) (hg : Gl w) : Calls Tryd.prog 8 #[] w fun e w' => e = .returned (.bool true) ∧ Below w.heap.size w w' := by
  have kc := fun (w : World) (C : Array Value) (n c : Nat) => Lib.run_convert_bytes_const (P := Tryd.prog) w 45 5 C n c Tryd.underlying45 Tryd.underlying5
  go_enter Tryd.func8, Tryd.ntmps8
  go_wp2_with fail
  refine (new_any w hg).mono ?_
  rintro e w1 ⟨g, K, rfl, hgg, ht, hgood, hlv, hb1⟩
  obtain ⟨E, hE⟩ : ∃ E, E = emptyL 64 := ⟨_, rfl⟩
  have HE := Lib.hid hE
  obtain ⟨F, hF⟩ : ∃ F, F = (emptyL 64).set 5 (leafN 5 [120]) := ⟨_, rfl⟩
  have HF := Lib.hid hF
  have HEL := Lib.hid (show E.length = 64 by rw [hE, emptyL_length])
  have HEF := Lib.hid (show E.set 5 (leafN 5 [120]) = F by rw [hE, hF])
  rw [← hE] at hlv
  clear hE hF
  have HGG := Lib.hid hgg
  have HT := Lib.hid ht
  have HGK := Lib.hid hgood
  have HLK := Lib.hid hlv
  have HB := Lib.hid hb1
  clear hgg ht hgood hlv hb1
  go_wp2_with fail
  refine (leaves_tree w1 g K HT.out).mono ?_
  rintro e w2 ⟨v2, rfl, ho2, hb2⟩
  rw [HLK.out] at ho2
  have HO2 := Lib.hid ho2
  replace HT := Lib.hid (HT.out.past hb2)
  replace HB := Lib.hid (HB.out.trans (hb2.mono HB.out.size))
  obtain ⟨A2, n2, c2, rfl⟩ := ho2.sh.shape
  clear ho2 hb2
  go_wp2_with fail
  refine (of_any w2 _ E HO2.out.sh HEL.out (hg.below HB.out)).mono ?_
  rintro e w3 ⟨g3, J, rfl, hg3, ht3, hgood3, hlv3, hb3⟩
  have hlt := HT.out.lt
  have HNE := Lib.hid (show g3 ≠ g by omega)
  replace HT := Lib.hid (HT.out.past hb3)
  have HGG3 := Lib.hid (Nat.le_trans HB.out.size hg3)
  replace HB := Lib.hid (HB.out.trans (hb3.mono HB.out.size))
  have HT3 := Lib.hid ht3
  have HGJ := Lib.hid hgood3
  have HLJ := Lib.hid hlv3
  clear HO2 hlt hg3 ht3 hgood3 hlv3 hb3
  go_wp2_with fail
  refine (diff_same w3 g K HT.out).mono ?_
  rintro e w4 ⟨v4, rfl, ho4, hb4⟩
  have hs4 := ho4.si
  obtain ⟨A4, c4, rfl, _⟩ := hs4
  replace HT := Lib.hid (HT.out.past hb4)
  replace HT3 := Lib.hid (HT3.out.past hb4)
  replace HB := Lib.hid (HB.out.trans (hb4.mono HB.out.size))
  clear ho4 hb4
  go_wp2_with fail
  have hS5 := Sl.of_mark1 w4 5 #[.int .u8 120] (1, 2) [120] 1 1 rfl (Nat.le_refl _) rfl
  have hb5 : Below w4.heap.size w4 (w4.alloc (.cells #[.int .u8 120] 5 (1, 2))) := (Below.refl _ _).alloc (Nat.le_refl _) _
  replace HB := Lib.hid (HB.out.trans (hb5.mono HB.out.size))
  replace HT := Lib.hid (HT.out.past hb5)
  replace HT3 := Lib.hid (HT3.out.past hb5)
  refine (set_tree _ g3 J HT3.out HGJ.out 5 (by decide) _ [120] hS5 (by decide) (hg.below HB.out)).mono ?_
  rintro e w6 ⟨M, rfl, ht6, hgood6, hlv6, hgr6⟩
  rw [HLJ.out, HEF.out] at hlv6
  have HT6 := Lib.hid ht6
  have HGM := Lib.hid hgood6
  have HLM := Lib.hid hlv6
  replace HT := Lib.hid (HT.out.grown hgr6 (fun e => HNE.out e.symm))
  replace HB := Lib.hid (Below.only HB.out hgr6 HGG3.out HB.out.size)
  clear ht6 hgood6 hlv6 hgr6 hS5 hb5 kc
  go_wp2_with fail
  refine (diff_x w6 g3 g M K HT6.out HT.out E F HE HF HGM.out HGK.out HLM.out HLK.out).mono ?_
  rintro e w7 ⟨v7, rfl, ho7, hb7⟩
  have HO7 := Lib.hid ho7
  obtain ⟨A7, c7, rfl, _⟩ := ho7.si
  replace HT := Lib.hid (HT.out.past hb7)
  replace HT6 := Lib.hid (HT6.out.past hb7)
  replace HB := Lib.hid (HB.out.trans (hb7.mono HB.out.size))
  clear ho7 hb7
  go_wp2_with fail
  refine (node_out w7 g3 M HT6.out 128 (.inr (by decide))).mono ?_
  rintro e w8 ⟨rfl, hb8⟩
  replace HT := Lib.hid (HT.out.past hb8)
  replace HT6 := Lib.hid (HT6.out.past hb8)
  replace HB := Lib.hid (HB.out.trans (hb8.mono HB.out.size))
  have HS8 := Lib.hid (HO7.out.si.below hb8)
  clear hb8 HO7
  have hi := rowB_info zero32_length
  have h1 := rowB_one zero32
  have hs1 := rowB_size zero32
  rw [zero32_length] at hs1
  have hN := Blk.new w8 39 (rowB (List.replicate 32 0))
  have hb9 : Below w8.heap.size w8 (w8.alloc (.cells (rowB (List.replicate 32 0)) 39)) := (Below.refl _ _).alloc (Nat.le_refl _) _
  have hZ : (rowB (List.replicate 32 0)).size = 32 := by rw [rowB_size, List.length_replicate]
  generalize hR : rowB zero32 = R at hi h1 hs1 ⊢
  clear hR
  have hth : (w8.alloc (.cells (rowB (List.replicate 32 0)) 39)).there w8.heap.size 0 R.size := by rw [hs1, ← hZ]; exact hN.there
  have hgr := grown_setCells w8.heap.size R.toList 0 (w8.alloc (.cells (rowB (List.replicate 32 0)) 39))
  have HBE := Lib.hid (Below.only hb9 hgr (Nat.le_refl _) hb9.size)
  clear hN hb9 hgr hZ hs1
  go_upto_region 7 with (refine wpList_store_mid rfl 39 _ _ rfl w8.heap.size 0 R rfl rfl hth hi h1 ?_)
  change Code.wp _ _ _ _ ((w8.alloc (.cells (rowB (List.replicate 32 0)) 39)).setCells w8.heap.size 0 R.toList)
  generalize (w8.alloc (.cells (rowB (List.replicate 32 0)) 39)).setCells w8.heap.size 0 R.toList = w9 at HBE ⊢
  clear hth hi h1
  replace HT := Lib.hid (HT.out.past HBE.out)
  replace HT6 := Lib.hid (HT6.out.past HBE.out)
  replace HB := Lib.hid (HB.out.trans (HBE.out.mono HB.out.size))
  have HS9 := Lib.hid (HS8.out.below HBE.out)
  clear HBE HS8
  go_wp2_with fail
  refine (leaves_tree w9 g3 M HT6.out).mono ?_
  rintro e w10 ⟨v10, rfl, ho10, hb10⟩
  rw [HLM.out] at ho10
  have HO10 := Lib.hid ho10
  have HFL := Lib.hid (show F.length = 64 by rw [← HEF.out, List.length_set, HEL.out])
  replace HT := Lib.hid (HT.out.past hb10)
  replace HT6 := Lib.hid (HT6.out.past hb10)
  replace HB := Lib.hid (HB.out.trans (hb10.mono HB.out.size))
  replace HS9 := Lib.hid (HS9.out.below hb10)
  obtain ⟨A10, n10, c10, rfl⟩ := ho10.sh.shape
  clear ho10 hb10
  go_wp2_with fail
  refine (of_any w10 _ F HO10.out.sh HFL.out (hg.below HB.out)).mono ?_
  rintro e w11 ⟨g11, P, rfl, hg11, ht11, hgood11, hlv11, hb11⟩
  have HT11 := Lib.hid ht11
  have HLP := Lib.hid hlv11
  replace HT := Lib.hid (HT.out.past hb11)
  replace HT6 := Lib.hid (HT6.out.past hb11)
  replace HB := Lib.hid (HB.out.trans (hb11.mono HB.out.size))
  replace HS9 := Lib.hid (HS9.out.below hb11)
  clear HO10 hg11 ht11 hgood11 hlv11 hb11
  go_wp2_with (go_at_call 17; refine (num_any _ _).mono ?_; rintro e w' ⟨rfl, rfl⟩)
  have hbI : Below w11.heap.size w11 (w11.alloc (.cells #[.int .i64 ((5 : Nat) : Int)] 3)) := (Below.refl _ _).alloc (Nat.le_refl _) _
  refine (ints_any _ _ [5] [5] _ (HS9.out.below hbI) (Si.one w11 5) (by decide) (by decide)).mono ?_
  rintro e w12 ⟨rfl, hb12⟩
  have hb12' := hbI.trans (hb12.mono hbI.size)
  replace HT := Lib.hid (HT.out.past hb12')
  replace HT6 := Lib.hid (HT6.out.past hb12')
  replace HT11 := Lib.hid (HT11.out.past hb12')
  replace HB := Lib.hid (HB.out.trans (hb12'.mono HB.out.size))
  clear hbI hb12 hb12'
  go_wp2_with (go_at_call 17; refine (num_any _ _).mono ?_; rintro e w' ⟨rfl, rfl⟩)
  refine (same_tree w12 g11 g3 P M HT11.out HT6.out).mono ?_
  rintro e w13 ⟨rfl, hb13⟩
  replace HT := Lib.hid (HT.out.past hb13)
  replace HT11 := Lib.hid (HT11.out.past hb13)
  replace HB := Lib.hid (HB.out.trans (hb13.mono HB.out.size))
  clear hb13
  rw [decide_eq_true (show leavesOf P = leavesOf M by rw [HLP.out, HLM.out])]
  go_wp2_with fail
  refine (same_tree w13 g11 g P K HT11.out HT.out).mono ?_
  rintro e w14 ⟨rfl, hb14⟩
  replace HB := Lib.hid (HB.out.trans (hb14.mono HB.out.size))
  clear hb14
  rw [decide_eq_false (show ¬ leavesOf P = leavesOf K by rw [HLP.out, HLK.out, HF.out, HE.out]; exact known_unlike)]
  go_wp2
  go_ret
  exact ⟨rfl, HB.out⟩
end Go.Proofs.YtdbhffkfkklehaaDoor

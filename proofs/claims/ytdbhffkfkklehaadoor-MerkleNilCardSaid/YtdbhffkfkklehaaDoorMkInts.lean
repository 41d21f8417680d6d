/-
  The walk of the law's ints.
-/
import Derived.Test.YtdbhffkfkklehaaDoorMkKnM
namespace Go.Proofs.YtdbhffkfkklehaaDoor
open Go.RowKit
set_option linter.unusedVariables false
set_option linter.unusedSimpArgs false
set_option maxRecDepth 100000

/-- The value v is a slice that reads as the numbers X. -/
def Si (w : World) (v : Value) (X : List Nat) : Prop :=
  ∃ A c, v = .slice A X.length c ∧ (0 < X.length → ∃ b o, A = some ⟨b, o, none⟩ ∧ ∀ j (h : j < X.length), w.cell? ⟨b, o + j, none⟩ = some (iw X[j]))
theorem OwnI.si {w : World} {base : Nat} {v : Value} {X : List Nat} (h : OwnI w base v X) : Si w v X := by
  rcases h.2 with ⟨rfl, h0⟩ | ⟨g, cap, cur, rfl, _, hh, hnc, _, hs, ht⟩
  · exact ⟨none, 0, by rw [h0], fun hn => absurd hn (by omega)⟩
  · refine ⟨some ⟨g, 0, none⟩, cap, rfl, fun _ => ⟨g, 0, rfl, fun j hj => ?_⟩⟩
    have := World.ownsRow.cells h (g := g) rfl j (iw X[j]) (by simp [List.getElem?_eq_getElem hj])
    rw [add_plain] at this
    exact this
theorem Si.below {w w' : World} {v : Value} {X : List Nat} (h : Si w v X) (hb : Below w.heap.size w w') : Si w' v X := by
  obtain ⟨A, c, rfl, ha⟩ := h
  refine ⟨A, c, rfl, fun hn => ?_⟩
  obtain ⟨b, o, rfl, hx⟩ := ha hn
  exact ⟨b, o, rfl, fun j hj => (hb.cell (World.block_lt_of_cell? w _ (hx j hj))).trans (hx j hj)⟩
theorem Si.one (w : World) (n : Nat) : Si (w.alloc (.cells #[.int .i64 (n : Int)] 3)) (.slice (some ⟨w.heap.size, 0, none⟩) 1 1) [n] := by
  refine ⟨_, 1, rfl, fun _ => ⟨_, 0, rfl, fun j hj => ?_⟩⟩
  have h0 : j = 0 := by simpa using hj
  subst h0
  exact (Blk.new w _ _).cell 0

set_option maxHeartbeats 1600000 in
theorem ints_any (v u : Value) (L M : List Nat) (w : World) (hL : Si w v L) (hM : Si w u M) (hl : L.length ≤ 1000000) (hm : M.length ≤ 1000000) :
    Calls Tryd.prog 25 #[v, u] w fun e w' => e = .returned (.bool (decide (L = M))) ∧ Below w.heap.size w w' := by
  have hfo : Tryd.prog.follows .mixedOrders = true := by kernel_rfl
  obtain ⟨A, c, rfl, ha⟩ := hL
  obtain ⟨B, c', rfl, hb'⟩ := hM
  have HA0 := Lib.hid ha
  have HB0 := Lib.hid hb'
  clear ha hb'
  obtain ⟨Q, hQ⟩ : ∃ Q : Bool, Q = decide (L = M) := ⟨_, rfl⟩
  have HQ := Lib.hid hQ
  rw [← hQ]
  clear hQ
  by_cases hlen : L.length = M.length
  · have hb : ((L.length : Int) != (M.length : Int)) = false := by rw [hlen]; simp
    have HLen := Lib.hid hlen
    clear hlen
    go_enter Tryd.func25, Tryd.ntmps25
    go_wp2
    go_loopw [5] (fun z wr => ∃ i : Nat, z = .int .i64 (i : Int) ∧ i ≤ L.length ∧ (∀ k (h : k < L.length), k < i → L[k] = M[k]'(by rw [← HLen.out]; exact h)) ∧ Below w.heap.size w wr) (fun z _ => L.length - (intOf z).toNat)
    case atStart => exact ⟨0, rfl, Nat.zero_le _, fun k _ h => absurd h (by omega), Below.refl _ _⟩
    case round =>
      obtain ⟨i, rfl, hi, hall, hbw⟩ := hrel
      have HA := Lib.hid hall
      have HB := Lib.hid hbw
      clear hall hbw
      by_cases hlt : i < L.length
      · have hlt2 : i < M.length := by have := HLen.out; omega
        obtain ⟨b, o, rfl, k0⟩ := HA0.out (by omega)
        obtain ⟨b', o', rfl, k2⟩ := HB0.out (by omega)
        have HC1 := Lib.hid (show wr.drew.cell? ⟨b, o + i, none⟩ = some (.int .i64 (L[i] : Int)) from (HB.out.cell (World.block_lt_of_cell? w _ (k0 i hlt))).trans (k0 i hlt))
        have HC2 := Lib.hid (show wr.drew.cell? ⟨b', o' + i, none⟩ = some (.int .i64 ((M[i]'hlt2 : Nat) : Int)) from (HB.out.cell (World.block_lt_of_cell? w _ (k2 i hlt2))).trans (k2 i hlt2))
        obtain ⟨x, hx⟩ : ∃ x, L[i] = x := ⟨_, rfl⟩
        obtain ⟨y, hy⟩ : ∃ y, M[i]'hlt2 = y := ⟨_, rfl⟩
        have HX := Lib.hid hx
        have HY := Lib.hid hy
        rw [hx] at HC1
        rw [hy] at HC2
        have HB1 := Lib.hid (show Below w.heap.size w wr.drew from HB.out.drew)
        clear k0 k2 hx hy
        have hi1 : (i : Int) < (L.length : Int) := by omega
        have hi2 : (i : Int) < (M.length : Int) := by omega
        by_cases hq : x = y
        · subst hq
          go_wp2_with fail
          refine wp_region_held_drew (S := fun X => X = wr.drew) hfo rfl (fun hS0 => ?_)
          generalize wr.drew = Z0 at *
          refine' wpAnyH_take (i := 0) (oi := ⟨some 17, _, _, _, _, _⟩) (v := _) rfl (by kernel_rfl) (by kernel_rfl) (by kernel_rfl) (fun _ _ _ h => h) (Or.inl ⟨by rfl, ?y0⟩) hS0 ?r0
          case y0 => (intro w' hSw; subst hSw; have e1 := HC1.out; have e2 := HC2.out; go_simp; try rfl)
          try simp only [Act.put, List.setIfInBounds_toArray, List.set_cons_zero, List.set_cons_succ]
          refine' wpAnyH_take (i := 1) (oi := ⟨some 18, _, _, _, _, _⟩) (v := _) rfl (by kernel_rfl) (by kernel_rfl) (by kernel_rfl) (fun _ _ _ h => h) (Or.inl ⟨by rfl, ?y1⟩) hS0 ?r1
          case y1 => (intro w' hSw; subst hSw; have e1 := HC1.out; have e2 := HC2.out; go_simp; try rfl)
          try simp only [Act.put, List.setIfInBounds_toArray, List.set_cons_zero, List.set_cons_succ]
          refine' wpAnyH_take (i := 2) (oi := ⟨some 19, _, _, _, _, _⟩) (v := _) rfl (by kernel_rfl) (by kernel_rfl) (by kernel_rfl) (fun _ _ _ h => h) (Or.inl ⟨by rfl, ?y2⟩) hS0 ?r2
          case y2 => (intro w' hSw; subst hSw; have e1 := HC1.out; have e2 := HC2.out; go_simp; try rfl)
          try simp only [Act.put, List.setIfInBounds_toArray, List.set_cons_zero, List.set_cons_succ]
          refine' wpAnyH_take (i := 3) (oi := ⟨some 20, _, _, _, _, _⟩) (v := _) rfl (by kernel_rfl) (by kernel_rfl) (by kernel_rfl) (fun _ _ _ h => h) (Or.inl ⟨by rfl, ?y3⟩) hS0 ?r3
          case y3 => (intro w' hSw; subst hSw; have e1 := HC1.out; have e2 := HC2.out; go_simp; try rfl)
          try simp only [Act.put, List.setIfInBounds_toArray, List.set_cons_zero, List.set_cons_succ]
          refine' wpAnyH_take (i := 4) (oi := ⟨some 21, _, _, _, _, _⟩) (v := _) rfl (by kernel_rfl) (by kernel_rfl) (by kernel_rfl) (fun _ _ _ h => h) (Or.inl ⟨by rfl, ?y4⟩) hS0 ?r4
          case y4 => (intro w' hSw; subst hSw; have e1 := HC1.out; have e2 := HC2.out; go_simp; try rfl)
          try simp only [Act.put, List.setIfInBounds_toArray, List.set_cons_zero, List.set_cons_succ]
          refine' wpAnyH_take (i := 5) (oi := ⟨some 22, _, _, _, _, _⟩) (v := _) rfl (by kernel_rfl) (by kernel_rfl) (by kernel_rfl) (fun _ _ _ h => h) (Or.inl ⟨by rfl, ?y5⟩) hS0 ?r5
          case y5 => (intro w' hSw; subst hSw; have e1 := HC1.out; have e2 := HC2.out; go_simp; try rfl)
          try simp only [Act.put, List.setIfInBounds_toArray, List.set_cons_zero, List.set_cons_succ]
          refine' wpAnyH_take (i := 6) (oi := ⟨some 23, _, _, _, _, _⟩) (v := _) rfl (by kernel_rfl) (by kernel_rfl) (by kernel_rfl) (fun _ _ _ h => h) (Or.inl ⟨by rfl, ?y6⟩) hS0 ?r6
          case y6 => (intro w' hSw; subst hSw; have e1 := HC1.out; have e2 := HC2.out; go_simp; try rfl)
          try simp only [Act.put, List.setIfInBounds_toArray, List.set_cons_zero, List.set_cons_succ]
          refine' wpAnyH_take (i := 7) (oi := ⟨some 24, _, _, _, _, _⟩) (v := _) rfl (by kernel_rfl) (by kernel_rfl) (by kernel_rfl) (fun _ _ _ h => h) (Or.inl ⟨by rfl, ?y7⟩) hS0 ?r7
          case y7 => (intro w' hSw; subst hSw; have e1 := HC1.out; have e2 := HC2.out; go_simp; try rfl)
          try simp only [Act.put, List.setIfInBounds_toArray, List.set_cons_zero, List.set_cons_succ]
          refine' wpAnyH_take (i := 8) (oi := ⟨some 25, _, _, _, _, _⟩) (v := _) rfl (by kernel_rfl) (by kernel_rfl) (by kernel_rfl) (fun _ _ _ h => h) (Or.inl ⟨by rfl, ?y8⟩) hS0 ?r8
          case y8 => (intro w' hSw; subst hSw; have e1 := HC1.out; have e2 := HC2.out; go_simp; try rfl)
          try simp only [Act.put, List.setIfInBounds_toArray, List.set_cons_zero, List.set_cons_succ]
          refine wpAnyH_done (by kernel_rfl) ?_ _
          go_wp2
          refine ⟨⟨i + 1, by go_num, by omega, fun k hk hki => ?_, HB1.out⟩, by simp [intOf]; omega⟩
          rcases Nat.lt_or_ge k i with h | h
          · exact HA.out k hk h
          · obtain rfl : k = i := by omega
            rw [HX.out, HY.out]
        · have hne : ((x : Int) != (y : Int)) = true := by rw [bne_iff_ne]; omega
          have Hq := Lib.hid hq
          clear hq
          go_wp2_with fail
          refine wp_region_held_drew (S := fun X => X = wr.drew) hfo rfl (fun hS0 => ?_)
          generalize wr.drew = Z0 at *
          refine' wpAnyH_take (i := 0) (oi := ⟨some 17, _, _, _, _, _⟩) (v := _) rfl (by kernel_rfl) (by kernel_rfl) (by kernel_rfl) (fun _ _ _ h => h) (Or.inl ⟨by rfl, ?y0B⟩) hS0 ?r0B
          case y0B => (intro w' hSw; subst hSw; have e1 := HC1.out; have e2 := HC2.out; go_simp; try rfl)
          try simp only [Act.put, List.setIfInBounds_toArray, List.set_cons_zero, List.set_cons_succ]
          refine' wpAnyH_take (i := 1) (oi := ⟨some 18, _, _, _, _, _⟩) (v := _) rfl (by kernel_rfl) (by kernel_rfl) (by kernel_rfl) (fun _ _ _ h => h) (Or.inl ⟨by rfl, ?y1B⟩) hS0 ?r1B
          case y1B => (intro w' hSw; subst hSw; have e1 := HC1.out; have e2 := HC2.out; go_simp; try rfl)
          try simp only [Act.put, List.setIfInBounds_toArray, List.set_cons_zero, List.set_cons_succ]
          refine' wpAnyH_take (i := 2) (oi := ⟨some 19, _, _, _, _, _⟩) (v := _) rfl (by kernel_rfl) (by kernel_rfl) (by kernel_rfl) (fun _ _ _ h => h) (Or.inl ⟨by rfl, ?y2B⟩) hS0 ?r2B
          case y2B => (intro w' hSw; subst hSw; have e1 := HC1.out; have e2 := HC2.out; go_simp; try rfl)
          try simp only [Act.put, List.setIfInBounds_toArray, List.set_cons_zero, List.set_cons_succ]
          refine' wpAnyH_take (i := 3) (oi := ⟨some 20, _, _, _, _, _⟩) (v := _) rfl (by kernel_rfl) (by kernel_rfl) (by kernel_rfl) (fun _ _ _ h => h) (Or.inl ⟨by rfl, ?y3B⟩) hS0 ?r3B
          case y3B => (intro w' hSw; subst hSw; have e1 := HC1.out; have e2 := HC2.out; go_simp; try rfl)
          try simp only [Act.put, List.setIfInBounds_toArray, List.set_cons_zero, List.set_cons_succ]
          refine' wpAnyH_take (i := 4) (oi := ⟨some 21, _, _, _, _, _⟩) (v := _) rfl (by kernel_rfl) (by kernel_rfl) (by kernel_rfl) (fun _ _ _ h => h) (Or.inl ⟨by rfl, ?y4B⟩) hS0 ?r4B
          case y4B => (intro w' hSw; subst hSw; have e1 := HC1.out; have e2 := HC2.out; go_simp; try rfl)
          try simp only [Act.put, List.setIfInBounds_toArray, List.set_cons_zero, List.set_cons_succ]
          refine' wpAnyH_take (i := 5) (oi := ⟨some 22, _, _, _, _, _⟩) (v := _) rfl (by kernel_rfl) (by kernel_rfl) (by kernel_rfl) (fun _ _ _ h => h) (Or.inl ⟨by rfl, ?y5B⟩) hS0 ?r5B
          case y5B => (intro w' hSw; subst hSw; have e1 := HC1.out; have e2 := HC2.out; go_simp; try rfl)
          try simp only [Act.put, List.setIfInBounds_toArray, List.set_cons_zero, List.set_cons_succ]
          refine' wpAnyH_take (i := 6) (oi := ⟨some 23, _, _, _, _, _⟩) (v := _) rfl (by kernel_rfl) (by kernel_rfl) (by kernel_rfl) (fun _ _ _ h => h) (Or.inl ⟨by rfl, ?y6B⟩) hS0 ?r6B
          case y6B => (intro w' hSw; subst hSw; have e1 := HC1.out; have e2 := HC2.out; go_simp; try rfl)
          try simp only [Act.put, List.setIfInBounds_toArray, List.set_cons_zero, List.set_cons_succ]
          refine' wpAnyH_take (i := 7) (oi := ⟨some 24, _, _, _, _, _⟩) (v := _) rfl (by kernel_rfl) (by kernel_rfl) (by kernel_rfl) (fun _ _ _ h => h) (Or.inl ⟨by rfl, ?y7B⟩) hS0 ?r7B
          case y7B => (intro w' hSw; subst hSw; have e1 := HC1.out; have e2 := HC2.out; go_simp; try rfl)
          try simp only [Act.put, List.setIfInBounds_toArray, List.set_cons_zero, List.set_cons_succ]
          refine' wpAnyH_take (i := 8) (oi := ⟨some 25, _, _, _, _, _⟩) (v := _) rfl (by kernel_rfl) (by kernel_rfl) (by kernel_rfl) (fun _ _ _ h => h) (Or.inl ⟨by rfl, ?y8B⟩) hS0 ?r8B
          case y8B => (intro w' hSw; subst hSw; have e1 := HC1.out; have e2 := HC2.out; go_simp; try rfl)
          try simp only [Act.put, List.setIfInBounds_toArray, List.set_cons_zero, List.set_cons_succ]
          refine wpAnyH_done (by kernel_rfl) ?_ _
          go_wp2
          go_ret
          refine ⟨ret_bool ?_, HB1.out⟩
          rw [HQ.out, eq_comm, decide_eq_false_iff_not]
          intro h
          exact Hq.out (by rw [← HX.out, ← HY.out]; simp only [h])
      · obtain rfl : i = L.length := by omega
        go_wp2
        go_ret
        refine ⟨ret_bool ?_, HB.out⟩
        rw [HQ.out, eq_comm, decide_eq_true_iff]
        exact List.ext_getElem HLen.out fun k h1 h2 => HA.out k h1 h1
  · have hb : ((L.length : Int) != (M.length : Int)) = true := by rw [bne_iff_ne]; omega
    have HLen := Lib.hid hlen
    clear hlen
    go_enter Tryd.func25, Tryd.ntmps25
    go_wp2
    go_ret
    refine ⟨ret_bool ?_, Below.refl _ _⟩
    rw [HQ.out, eq_comm, decide_eq_false_iff_not]
    intro h
    exact HLen.out (by rw [h])
end Go.Proofs.YtdbhffkfkklehaaDoor

/-
  slices.Equal and the document's Same, at hashes.
-/
import Derived.Test.YtdbhffkfkklehaaDoorMkLeafA
namespace Go.Proofs.YtdbhffkfkklehaaDoor
open Go.RowKit
set_option linter.unusedVariables false
set_option linter.unusedSimpArgs false
set_option maxRecDepth 100000

set_option maxHeartbeats 1600000 in
theorem equalH_any (v u : Value) (L M : List (List UInt8)) (w : World) (hL : Sh w v L) (hM : Sh w u M) (hl : L.length ≤ 1000000) (hm : M.length ≤ 1000000) :
    Calls Tryd.prog 30 #[v, u] w fun e w' => e = .returned (.bool (decide (L = M))) ∧ Below w.heap.size w w' := by
  have hfo : Tryd.prog.follows .mixedOrders = true := by kernel_rfl
  have HL := Lib.hid hL
  have HM := Lib.hid hM
  obtain ⟨_, A, c, rfl, _, _⟩ := hL
  obtain ⟨_, B, c', rfl, _, _⟩ := hM
  obtain ⟨Q, hQ⟩ : ∃ Q : Bool, Q = decide (L = M) := ⟨_, rfl⟩
  have HQ := Lib.hid hQ
  rw [← hQ]
  clear hQ
  by_cases hlen : L.length = M.length
  · have hb : ((L.length : Int) != (M.length : Int)) = false := by rw [hlen]; simp
    have HLen := Lib.hid hlen
    clear hlen
    go_enter Tryd.func30, Tryd.ntmps30
    go_wp2
    go_loopw [13] (fun z wr => ∃ i : Nat, z = .int .i64 (i : Int) ∧ i ≤ L.length ∧ (∀ k (h : k < L.length), k < i → L[k] = M[k]'(by rw [← HLen.out]; exact h)) ∧ Below w.heap.size w wr) (fun z _ => L.length - (intOf z).toNat)
    case atStart => exact ⟨0, rfl, Nat.zero_le _, fun k _ h => absurd h (by omega), Below.refl _ _⟩
    case round =>
      obtain ⟨i, rfl, hi, hall, hbw⟩ := hrel
      have HA := Lib.hid hall
      have HB := Lib.hid hbw
      clear hall hbw
      by_cases hlt : i < L.length
      · have hlt2 : i < M.length := by have := HLen.out; omega
        have HX := Lib.hid (show ∀ j, L[i] = j → L[i] = j from fun _ h => h)
        have h32a := HL.out.all _ (List.getElem_mem hlt)
        have h32b := HM.out.all _ (List.getElem_mem hlt2)
        obtain ⟨b, o, rfl, k0⟩ := HL.out.at_ i hlt
        obtain ⟨b', o', rfl, k2⟩ := HM.out.at_ i hlt2
        have k0' : wr.drew.rangeAt b (o + i * 32) (hcells L[i]) := fun j x hx => (HB.out.cell (World.block_lt_of_cell? w _ (k0 j x hx))).trans (k0 j x hx)
        have k2' : wr.drew.rangeAt b' (o' + i * 32) (hcells (M[i]'hlt2)) := fun j x hx => (HB.out.cell (World.block_lt_of_cell? w _ (k2 j x hx))).trans (k2 j x hx)
        have HLD1 := Lib.hid k0'
        have HLD2 := Lib.hid k2'
        have HI1 := Lib.hid (hc_facts h32a).1
        have HI2 := Lib.hid (hc_facts h32b).1
        have HEQ := Lib.hid (hash_eq L[i] (M[i]'hlt2) h32a h32b)
        rw [← hcells_arr, ← hcells_arr] at HEQ
        have HD := Lib.hid (show L[i] = M[i]'hlt2 ↔ L[i] = M[i]'hlt2 from Iff.rfl)
        obtain ⟨q, hq⟩ : ∃ q : Bool, decide (L[i] = M[i]'hlt2) = q := ⟨_, rfl⟩
        rw [hq] at HEQ
        have Hq := Lib.hid hq
        generalize hcells L[i] = C1 at HLD1 HEQ HI1
        generalize hcells (M[i]'hlt2) = C2 at HLD2 HEQ HI2
        have HB0 := Lib.hid HB.out.drew
        clear k0 k2 k0' k2' hq HD HX h32a h32b
        have hi1 : (i : Int) < (L.length : Int) := by omega
        have hi2 : (i : Int) < (M.length : Int) := by omega
        cases q
        · go_wp2_with fail
          refine wp_region_held_drew (S := fun X => X = wr.drew) hfo rfl (fun hS0 => ?_)
          generalize wr.drew = Z0 at *
          refine' wpAnyH_take (i := 0) (oi := ⟨some 16, _, _, _, _, _⟩) (v := _) rfl (by kernel_rfl) (by kernel_rfl) (by kernel_rfl) (fun _ _ _ h => h) (Or.inl ⟨by rfl, ?y0⟩) hS0 ?r0
          case y0 => (intro w' hSw; subst hSw; have e3 := HEQ.out; go_simp; try rfl)
          try simp only [Act.put, List.setIfInBounds_toArray, List.set_cons_zero, List.set_cons_succ]
          refine' wpAnyH_take (i := 1) (oi := ⟨some 17, _, _, _, _, _⟩) (v := _) rfl (by kernel_rfl) (by kernel_rfl) (by kernel_rfl) (fun _ _ _ h => h) (Or.inl ⟨by rfl, ?y1⟩) hS0 ?r1
          case y1 => (intro w' hSw; subst hSw; have e3 := HEQ.out; go_simp; try rfl)
          try simp only [Act.put, List.setIfInBounds_toArray, List.set_cons_zero, List.set_cons_succ]
          refine' wpAnyH_take (i := 2) (oi := ⟨some 18, _, _, _, _, _⟩) (v := _) rfl (by kernel_rfl) (by kernel_rfl) (by kernel_rfl) (fun _ _ _ h => h) (Or.inl ⟨by rfl, ?y2⟩) hS0 ?r2
          case y2 => (intro w' hSw; subst hSw; have e3 := HEQ.out; go_simp; try rfl)
          try simp only [Act.put, List.setIfInBounds_toArray, List.set_cons_zero, List.set_cons_succ]
          refine' wpAnyH_take (i := 4) (oi := ⟨some 20, _, _, _, _, _⟩) (v := _) rfl (by kernel_rfl) (by kernel_rfl) (by kernel_rfl) (fun _ _ _ h => h) (Or.inl ⟨by rfl, ?y4⟩) hS0 ?r4
          case y4 => (intro w' hSw; subst hSw; have e3 := HEQ.out; go_simp; try rfl)
          try simp only [Act.put, List.setIfInBounds_toArray, List.set_cons_zero, List.set_cons_succ]
          refine' wpAnyH_take (i := 5) (oi := ⟨some 21, _, _, _, _, _⟩) (v := _) rfl (by kernel_rfl) (by kernel_rfl) (by kernel_rfl) (fun _ _ _ h => h) (Or.inl ⟨by rfl, ?y5⟩) hS0 ?r5
          case y5 => (intro w' hSw; subst hSw; have e3 := HEQ.out; go_simp; try rfl)
          try simp only [Act.put, List.setIfInBounds_toArray, List.set_cons_zero, List.set_cons_succ]
          refine' wpAnyH_take (i := 6) (oi := ⟨some 22, _, _, _, _, _⟩) (v := _) rfl (by kernel_rfl) (by kernel_rfl) (by kernel_rfl) (fun _ _ _ h => h) (Or.inl ⟨by rfl, ?y6⟩) hS0 ?r6
          case y6 => (intro w' hSw; subst hSw; have e3 := HEQ.out; go_simp; try rfl)
          try simp only [Act.put, List.setIfInBounds_toArray, List.set_cons_zero, List.set_cons_succ]
          refine' wpAnyH_take (i := 3) (oi := ⟨some 19, _, _, _, _, _⟩) (v := .agg C1.toArray) rfl (by kernel_rfl) (by kernel_rfl) (by kernel_rfl) (fun _ _ _ h => h) (yieldsIf_load_mid (by rfl) 39 _ rfl b (o + i * 32) rfl C1 _ (fun X hX => by subst hX; exact HLD1.out) Tryd.underlying39 rfl HI1.out) hS0 ?r3
          try simp only [Act.put, List.setIfInBounds_toArray, List.set_cons_zero, List.set_cons_succ]
          refine' wpAnyH_take (i := 7) (oi := ⟨some 23, _, _, _, _, _⟩) (v := .agg C2.toArray) rfl (by kernel_rfl) (by kernel_rfl) (by kernel_rfl) (fun _ _ _ h => h) (yieldsIf_load_mid (by rfl) 39 _ rfl b' (o' + i * 32) rfl C2 _ (fun X hX => by subst hX; exact HLD2.out) Tryd.underlying39 rfl HI2.out) hS0 ?r7
          try simp only [Act.put, List.setIfInBounds_toArray, List.set_cons_zero, List.set_cons_succ]
          refine' wpAnyH_take (i := 8) (oi := ⟨some 24, _, _, _, _, _⟩) (v := _) rfl (by kernel_rfl) (by kernel_rfl) (by kernel_rfl) (fun _ _ _ h => h) (Or.inl ⟨by rfl, ?y8⟩) hS0 ?r8
          case y8 => (intro w' hSw; subst hSw; have e3 := HEQ.out; go_simp; try rfl)
          try simp only [Act.put, List.setIfInBounds_toArray, List.set_cons_zero, List.set_cons_succ]
          refine wpAnyH_done (by kernel_rfl) ?_ _
          go_wp2
          go_ret
          refine ⟨ret_bool ?_, HB0.out⟩
          rw [HQ.out, eq_comm, decide_eq_false_iff_not]
          intro h
          exact of_decide_eq_false Hq.out (by simp only [h])
        · go_wp2_with fail
          refine wp_region_held_drew (S := fun X => X = wr.drew) hfo rfl (fun hS0 => ?_)
          generalize wr.drew = Z0 at *
          refine' wpAnyH_take (i := 0) (oi := ⟨some 16, _, _, _, _, _⟩) (v := _) rfl (by kernel_rfl) (by kernel_rfl) (by kernel_rfl) (fun _ _ _ h => h) (Or.inl ⟨by rfl, ?y0B⟩) hS0 ?r0B
          case y0B => (intro w' hSw; subst hSw; have e3 := HEQ.out; go_simp; try rfl)
          try simp only [Act.put, List.setIfInBounds_toArray, List.set_cons_zero, List.set_cons_succ]
          refine' wpAnyH_take (i := 1) (oi := ⟨some 17, _, _, _, _, _⟩) (v := _) rfl (by kernel_rfl) (by kernel_rfl) (by kernel_rfl) (fun _ _ _ h => h) (Or.inl ⟨by rfl, ?y1B⟩) hS0 ?r1B
          case y1B => (intro w' hSw; subst hSw; have e3 := HEQ.out; go_simp; try rfl)
          try simp only [Act.put, List.setIfInBounds_toArray, List.set_cons_zero, List.set_cons_succ]
          refine' wpAnyH_take (i := 2) (oi := ⟨some 18, _, _, _, _, _⟩) (v := _) rfl (by kernel_rfl) (by kernel_rfl) (by kernel_rfl) (fun _ _ _ h => h) (Or.inl ⟨by rfl, ?y2B⟩) hS0 ?r2B
          case y2B => (intro w' hSw; subst hSw; have e3 := HEQ.out; go_simp; try rfl)
          try simp only [Act.put, List.setIfInBounds_toArray, List.set_cons_zero, List.set_cons_succ]
          refine' wpAnyH_take (i := 4) (oi := ⟨some 20, _, _, _, _, _⟩) (v := _) rfl (by kernel_rfl) (by kernel_rfl) (by kernel_rfl) (fun _ _ _ h => h) (Or.inl ⟨by rfl, ?y4B⟩) hS0 ?r4B
          case y4B => (intro w' hSw; subst hSw; have e3 := HEQ.out; go_simp; try rfl)
          try simp only [Act.put, List.setIfInBounds_toArray, List.set_cons_zero, List.set_cons_succ]
          refine' wpAnyH_take (i := 5) (oi := ⟨some 21, _, _, _, _, _⟩) (v := _) rfl (by kernel_rfl) (by kernel_rfl) (by kernel_rfl) (fun _ _ _ h => h) (Or.inl ⟨by rfl, ?y5B⟩) hS0 ?r5B
          case y5B => (intro w' hSw; subst hSw; have e3 := HEQ.out; go_simp; try rfl)
          try simp only [Act.put, List.setIfInBounds_toArray, List.set_cons_zero, List.set_cons_succ]
          refine' wpAnyH_take (i := 6) (oi := ⟨some 22, _, _, _, _, _⟩) (v := _) rfl (by kernel_rfl) (by kernel_rfl) (by kernel_rfl) (fun _ _ _ h => h) (Or.inl ⟨by rfl, ?y6B⟩) hS0 ?r6B
          case y6B => (intro w' hSw; subst hSw; have e3 := HEQ.out; go_simp; try rfl)
          try simp only [Act.put, List.setIfInBounds_toArray, List.set_cons_zero, List.set_cons_succ]
          refine' wpAnyH_take (i := 3) (oi := ⟨some 19, _, _, _, _, _⟩) (v := .agg C1.toArray) rfl (by kernel_rfl) (by kernel_rfl) (by kernel_rfl) (fun _ _ _ h => h) (yieldsIf_load_mid (by rfl) 39 _ rfl b (o + i * 32) rfl C1 _ (fun X hX => by subst hX; exact HLD1.out) Tryd.underlying39 rfl HI1.out) hS0 ?r3B
          try simp only [Act.put, List.setIfInBounds_toArray, List.set_cons_zero, List.set_cons_succ]
          refine' wpAnyH_take (i := 7) (oi := ⟨some 23, _, _, _, _, _⟩) (v := .agg C2.toArray) rfl (by kernel_rfl) (by kernel_rfl) (by kernel_rfl) (fun _ _ _ h => h) (yieldsIf_load_mid (by rfl) 39 _ rfl b' (o' + i * 32) rfl C2 _ (fun X hX => by subst hX; exact HLD2.out) Tryd.underlying39 rfl HI2.out) hS0 ?r7B
          try simp only [Act.put, List.setIfInBounds_toArray, List.set_cons_zero, List.set_cons_succ]
          refine' wpAnyH_take (i := 8) (oi := ⟨some 24, _, _, _, _, _⟩) (v := _) rfl (by kernel_rfl) (by kernel_rfl) (by kernel_rfl) (fun _ _ _ h => h) (Or.inl ⟨by rfl, ?y8B⟩) hS0 ?r8B
          case y8B => (intro w' hSw; subst hSw; have e3 := HEQ.out; go_simp; try rfl)
          try simp only [Act.put, List.setIfInBounds_toArray, List.set_cons_zero, List.set_cons_succ]
          refine wpAnyH_done (by kernel_rfl) ?_ _
          go_wp2
          refine ⟨⟨i + 1, by go_num, by omega, fun k hk hki => ?_, HB0.out⟩, by simp [intOf]; omega⟩
          rcases Nat.lt_or_ge k i with h | h
          · exact HA.out k hk h
          · obtain rfl : k = i := by omega
            exact of_decide_eq_true Hq.out
      · obtain rfl : i = L.length := by omega
        go_wp2
        go_ret
        refine ⟨ret_bool ?_, HB.out⟩
        rw [HQ.out, eq_comm, decide_eq_true_iff]
        exact List.ext_getElem HLen.out fun k h1 h2 => HA.out k h1 h1
  · have hb : ((L.length : Int) != (M.length : Int)) = true := by rw [bne_iff_ne]; omega
    have HLen := Lib.hid hlen
    clear hlen
    go_enter Tryd.func30, Tryd.ntmps30
    go_wp2
    go_ret
    refine ⟨ret_bool ?_, Below.refl _ _⟩
    rw [HQ.out, eq_comm, decide_eq_false_iff_not]
    intro h
    exact HLen.out (by rw [h])

set_option maxHeartbeats 1600000 in
theorem refSame_any (v u : Value) (L M : List (List UInt8)) (w : World) (hL : Sh w v L) (hM : Sh w u M) (hl : L.length ≤ 1000000) (hm : M.length ≤ 1000000) :
    Calls Tryd.prog 15 #[v, u] w fun e w' => e = .returned (.bool (decide (L = M))) ∧ Below w.heap.size w w' := by
  have hfo : Tryd.prog.follows .mixedOrders = true := by kernel_rfl
  have HL := Lib.hid hL
  have HM := Lib.hid hM
  obtain ⟨_, A, c, rfl, _, _⟩ := hL
  obtain ⟨_, B, c', rfl, _, _⟩ := hM
  obtain ⟨Q, hQ⟩ : ∃ Q : Bool, Q = decide (L = M) := ⟨_, rfl⟩
  have HQ := Lib.hid hQ
  rw [← hQ]
  clear hQ
  by_cases hlen : L.length = M.length
  · have hb : ((L.length : Int) != (M.length : Int)) = false := by rw [hlen]; simp
    have HLen := Lib.hid hlen
    clear hlen
    go_enter Tryd.func15, Tryd.ntmps15
    go_wp2
    go_loopw [5] (fun z wr => ∃ i : Nat, z = .int .i64 (i : Int) ∧ i ≤ L.length ∧ (∀ k (h : k < L.length), k < i → L[k] = M[k]'(by rw [← HLen.out]; exact h)) ∧ Below w.heap.size w wr) (fun z _ => L.length - (intOf z).toNat)
    case atStart => exact ⟨0, rfl, Nat.zero_le _, fun k _ h => absurd h (by omega), Below.refl _ _⟩
    case round =>
      obtain ⟨i, rfl, hi, hall, hbw⟩ := hrel
      have HA := Lib.hid hall
      have HB := Lib.hid hbw
      clear hall hbw
      by_cases hlt : i < L.length
      · have hlt2 : i < M.length := by have := HLen.out; omega
        have HX := Lib.hid (show ∀ j, L[i] = j → L[i] = j from fun _ h => h)
        have h32a := HL.out.all _ (List.getElem_mem hlt)
        have h32b := HM.out.all _ (List.getElem_mem hlt2)
        obtain ⟨b, o, rfl, k0⟩ := HL.out.at_ i hlt
        obtain ⟨b', o', rfl, k2⟩ := HM.out.at_ i hlt2
        have k0' : wr.drew.rangeAt b (o + i * 32) (hcells L[i]) := fun j x hx => (HB.out.cell (World.block_lt_of_cell? w _ (k0 j x hx))).trans (k0 j x hx)
        have k2' : wr.drew.rangeAt b' (o' + i * 32) (hcells (M[i]'hlt2)) := fun j x hx => (HB.out.cell (World.block_lt_of_cell? w _ (k2 j x hx))).trans (k2 j x hx)
        have HLD1 := Lib.hid k0'
        have HLD2 := Lib.hid k2'
        have HI1 := Lib.hid (hc_facts h32a).1
        have HI2 := Lib.hid (hc_facts h32b).1
        have HEQ := Lib.hid (hash_eq L[i] (M[i]'hlt2) h32a h32b)
        rw [← hcells_arr, ← hcells_arr] at HEQ
        have HD := Lib.hid (show L[i] = M[i]'hlt2 ↔ L[i] = M[i]'hlt2 from Iff.rfl)
        obtain ⟨q, hq⟩ : ∃ q : Bool, decide (L[i] = M[i]'hlt2) = q := ⟨_, rfl⟩
        rw [hq] at HEQ
        have Hq := Lib.hid hq
        generalize hcells L[i] = C1 at HLD1 HEQ HI1
        generalize hcells (M[i]'hlt2) = C2 at HLD2 HEQ HI2
        have HB0 := Lib.hid HB.out.drew
        clear k0 k2 k0' k2' hq HD HX h32a h32b
        have hi1 : (i : Int) < (L.length : Int) := by omega
        have hi2 : (i : Int) < (M.length : Int) := by omega
        cases q
        · go_wp2_with fail
          refine wp_region_held_drew (S := fun X => X = wr.drew) hfo rfl (fun hS0 => ?_)
          generalize wr.drew = Z0 at *
          refine' wpAnyH_take (i := 0) (oi := ⟨some 17, _, _, _, _, _⟩) (v := _) rfl (by kernel_rfl) (by kernel_rfl) (by kernel_rfl) (fun _ _ _ h => h) (Or.inl ⟨by rfl, ?y0⟩) hS0 ?r0
          case y0 => (intro w' hSw; subst hSw; have e3 := HEQ.out; go_simp; try rfl)
          try simp only [Act.put, List.setIfInBounds_toArray, List.set_cons_zero, List.set_cons_succ]
          refine' wpAnyH_take (i := 1) (oi := ⟨some 18, _, _, _, _, _⟩) (v := _) rfl (by kernel_rfl) (by kernel_rfl) (by kernel_rfl) (fun _ _ _ h => h) (Or.inl ⟨by rfl, ?y1⟩) hS0 ?r1
          case y1 => (intro w' hSw; subst hSw; have e3 := HEQ.out; go_simp; try rfl)
          try simp only [Act.put, List.setIfInBounds_toArray, List.set_cons_zero, List.set_cons_succ]
          refine' wpAnyH_take (i := 2) (oi := ⟨some 19, _, _, _, _, _⟩) (v := _) rfl (by kernel_rfl) (by kernel_rfl) (by kernel_rfl) (fun _ _ _ h => h) (Or.inl ⟨by rfl, ?y2⟩) hS0 ?r2
          case y2 => (intro w' hSw; subst hSw; have e3 := HEQ.out; go_simp; try rfl)
          try simp only [Act.put, List.setIfInBounds_toArray, List.set_cons_zero, List.set_cons_succ]
          refine' wpAnyH_take (i := 4) (oi := ⟨some 21, _, _, _, _, _⟩) (v := _) rfl (by kernel_rfl) (by kernel_rfl) (by kernel_rfl) (fun _ _ _ h => h) (Or.inl ⟨by rfl, ?y4⟩) hS0 ?r4
          case y4 => (intro w' hSw; subst hSw; have e3 := HEQ.out; go_simp; try rfl)
          try simp only [Act.put, List.setIfInBounds_toArray, List.set_cons_zero, List.set_cons_succ]
          refine' wpAnyH_take (i := 5) (oi := ⟨some 22, _, _, _, _, _⟩) (v := _) rfl (by kernel_rfl) (by kernel_rfl) (by kernel_rfl) (fun _ _ _ h => h) (Or.inl ⟨by rfl, ?y5⟩) hS0 ?r5
          case y5 => (intro w' hSw; subst hSw; have e3 := HEQ.out; go_simp; try rfl)
          try simp only [Act.put, List.setIfInBounds_toArray, List.set_cons_zero, List.set_cons_succ]
          refine' wpAnyH_take (i := 6) (oi := ⟨some 23, _, _, _, _, _⟩) (v := _) rfl (by kernel_rfl) (by kernel_rfl) (by kernel_rfl) (fun _ _ _ h => h) (Or.inl ⟨by rfl, ?y6⟩) hS0 ?r6
          case y6 => (intro w' hSw; subst hSw; have e3 := HEQ.out; go_simp; try rfl)
          try simp only [Act.put, List.setIfInBounds_toArray, List.set_cons_zero, List.set_cons_succ]
          refine' wpAnyH_take (i := 3) (oi := ⟨some 20, _, _, _, _, _⟩) (v := .agg C1.toArray) rfl (by kernel_rfl) (by kernel_rfl) (by kernel_rfl) (fun _ _ _ h => h) (yieldsIf_load_mid (by rfl) 39 _ rfl b (o + i * 32) rfl C1 _ (fun X hX => by subst hX; exact HLD1.out) Tryd.underlying39 rfl HI1.out) hS0 ?r3
          try simp only [Act.put, List.setIfInBounds_toArray, List.set_cons_zero, List.set_cons_succ]
          refine' wpAnyH_take (i := 7) (oi := ⟨some 24, _, _, _, _, _⟩) (v := .agg C2.toArray) rfl (by kernel_rfl) (by kernel_rfl) (by kernel_rfl) (fun _ _ _ h => h) (yieldsIf_load_mid (by rfl) 39 _ rfl b' (o' + i * 32) rfl C2 _ (fun X hX => by subst hX; exact HLD2.out) Tryd.underlying39 rfl HI2.out) hS0 ?r7
          try simp only [Act.put, List.setIfInBounds_toArray, List.set_cons_zero, List.set_cons_succ]
          refine' wpAnyH_take (i := 8) (oi := ⟨some 25, _, _, _, _, _⟩) (v := _) rfl (by kernel_rfl) (by kernel_rfl) (by kernel_rfl) (fun _ _ _ h => h) (Or.inl ⟨by rfl, ?y8⟩) hS0 ?r8
          case y8 => (intro w' hSw; subst hSw; have e3 := HEQ.out; go_simp; try rfl)
          try simp only [Act.put, List.setIfInBounds_toArray, List.set_cons_zero, List.set_cons_succ]
          refine wpAnyH_done (by kernel_rfl) ?_ _
          go_wp2
          go_ret
          refine ⟨ret_bool ?_, HB0.out⟩
          rw [HQ.out, eq_comm, decide_eq_false_iff_not]
          intro h
          exact of_decide_eq_false Hq.out (by simp only [h])
        · go_wp2_with fail
          refine wp_region_held_drew (S := fun X => X = wr.drew) hfo rfl (fun hS0 => ?_)
          generalize wr.drew = Z0 at *
          refine' wpAnyH_take (i := 0) (oi := ⟨some 17, _, _, _, _, _⟩) (v := _) rfl (by kernel_rfl) (by kernel_rfl) (by kernel_rfl) (fun _ _ _ h => h) (Or.inl ⟨by rfl, ?y0B⟩) hS0 ?r0B
          case y0B => (intro w' hSw; subst hSw; have e3 := HEQ.out; go_simp; try rfl)
          try simp only [Act.put, List.setIfInBounds_toArray, List.set_cons_zero, List.set_cons_succ]
          refine' wpAnyH_take (i := 1) (oi := ⟨some 18, _, _, _, _, _⟩) (v := _) rfl (by kernel_rfl) (by kernel_rfl) (by kernel_rfl) (fun _ _ _ h => h) (Or.inl ⟨by rfl, ?y1B⟩) hS0 ?r1B
          case y1B => (intro w' hSw; subst hSw; have e3 := HEQ.out; go_simp; try rfl)
          try simp only [Act.put, List.setIfInBounds_toArray, List.set_cons_zero, List.set_cons_succ]
          refine' wpAnyH_take (i := 2) (oi := ⟨some 19, _, _, _, _, _⟩) (v := _) rfl (by kernel_rfl) (by kernel_rfl) (by kernel_rfl) (fun _ _ _ h => h) (Or.inl ⟨by rfl, ?y2B⟩) hS0 ?r2B
          case y2B => (intro w' hSw; subst hSw; have e3 := HEQ.out; go_simp; try rfl)
          try simp only [Act.put, List.setIfInBounds_toArray, List.set_cons_zero, List.set_cons_succ]
          refine' wpAnyH_take (i := 4) (oi := ⟨some 21, _, _, _, _, _⟩) (v := _) rfl (by kernel_rfl) (by kernel_rfl) (by kernel_rfl) (fun _ _ _ h => h) (Or.inl ⟨by rfl, ?y4B⟩) hS0 ?r4B
          case y4B => (intro w' hSw; subst hSw; have e3 := HEQ.out; go_simp; try rfl)
          try simp only [Act.put, List.setIfInBounds_toArray, List.set_cons_zero, List.set_cons_succ]
          refine' wpAnyH_take (i := 5) (oi := ⟨some 22, _, _, _, _, _⟩) (v := _) rfl (by kernel_rfl) (by kernel_rfl) (by kernel_rfl) (fun _ _ _ h => h) (Or.inl ⟨by rfl, ?y5B⟩) hS0 ?r5B
          case y5B => (intro w' hSw; subst hSw; have e3 := HEQ.out; go_simp; try rfl)
          try simp only [Act.put, List.setIfInBounds_toArray, List.set_cons_zero, List.set_cons_succ]
          refine' wpAnyH_take (i := 6) (oi := ⟨some 23, _, _, _, _, _⟩) (v := _) rfl (by kernel_rfl) (by kernel_rfl) (by kernel_rfl) (fun _ _ _ h => h) (Or.inl ⟨by rfl, ?y6B⟩) hS0 ?r6B
          case y6B => (intro w' hSw; subst hSw; have e3 := HEQ.out; go_simp; try rfl)
          try simp only [Act.put, List.setIfInBounds_toArray, List.set_cons_zero, List.set_cons_succ]
          refine' wpAnyH_take (i := 3) (oi := ⟨some 20, _, _, _, _, _⟩) (v := .agg C1.toArray) rfl (by kernel_rfl) (by kernel_rfl) (by kernel_rfl) (fun _ _ _ h => h) (yieldsIf_load_mid (by rfl) 39 _ rfl b (o + i * 32) rfl C1 _ (fun X hX => by subst hX; exact HLD1.out) Tryd.underlying39 rfl HI1.out) hS0 ?r3B
          try simp only [Act.put, List.setIfInBounds_toArray, List.set_cons_zero, List.set_cons_succ]
          refine' wpAnyH_take (i := 7) (oi := ⟨some 24, _, _, _, _, _⟩) (v := .agg C2.toArray) rfl (by kernel_rfl) (by kernel_rfl) (by kernel_rfl) (fun _ _ _ h => h) (yieldsIf_load_mid (by rfl) 39 _ rfl b' (o' + i * 32) rfl C2 _ (fun X hX => by subst hX; exact HLD2.out) Tryd.underlying39 rfl HI2.out) hS0 ?r7B
          try simp only [Act.put, List.setIfInBounds_toArray, List.set_cons_zero, List.set_cons_succ]
          refine' wpAnyH_take (i := 8) (oi := ⟨some 25, _, _, _, _, _⟩) (v := _) rfl (by kernel_rfl) (by kernel_rfl) (by kernel_rfl) (fun _ _ _ h => h) (Or.inl ⟨by rfl, ?y8B⟩) hS0 ?r8B
          case y8B => (intro w' hSw; subst hSw; have e3 := HEQ.out; go_simp; try rfl)
          try simp only [Act.put, List.setIfInBounds_toArray, List.set_cons_zero, List.set_cons_succ]
          refine wpAnyH_done (by kernel_rfl) ?_ _
          go_wp2
          refine ⟨⟨i + 1, by go_num, by omega, fun k hk hki => ?_, HB0.out⟩, by simp [intOf]; omega⟩
          rcases Nat.lt_or_ge k i with h | h
          · exact HA.out k hk h
          · obtain rfl : k = i := by omega
            exact of_decide_eq_true Hq.out
      · obtain rfl : i = L.length := by omega
        go_wp2
        go_ret
        refine ⟨ret_bool ?_, HB.out⟩
        rw [HQ.out, eq_comm, decide_eq_true_iff]
        exact List.ext_getElem HLen.out fun k h1 h2 => HA.out k h1 h1
  · have hb : ((L.length : Int) != (M.length : Int)) = true := by rw [bne_iff_ne]; omega
    have HLen := Lib.hid hlen
    clear hlen
    go_enter Tryd.func15, Tryd.ntmps15
    go_wp2
    go_ret
    refine ⟨ret_bool ?_, Below.refl _ _⟩
    rw [HQ.out, eq_comm, decide_eq_false_iff_not]
    intro h
    exact HLen.out (by rw [h])
end Go.Proofs.YtdbhffkfkklehaaDoor

/-
  The walks of Leaves, Copy, Same of a tree, and of slices.Clone at hashes.
-/
namespace Go.Proofs.YtdbhffkfkklehaaDoor
open Go.RowKit
set_option linter.unusedVariables false
set_option linter.unusedSimpArgs false
set_option maxRecDepth 100000

set_option maxHeartbeats 800000 in
theorem clone_hs (a : Addr) (n c : Nat) (L : List (List UInt8)) (w : World) (h : Sh w (.slice (some a) n c) L) (hl : L.length ≤ 100000) :
    Calls Tryd.prog 35 #[.slice (some a) n c] w fun e w' => ∃ v', e = .returned v' ∧ OwnH w' w.heap.size v' L ∧ Below w.heap.size w w' := by
  obtain ⟨i0, hi, hz0, hz1, hz2⟩ := info_parts info_hash
  have heq := fun (w : World) (a : Option Addr) (n c : Nat) => Lib.run_eql_slice_nil (P := Tryd.prog) w 27 39 a n c 0 0 Tryd.underlying27
  have hn := h.sizes.1
  subst hn
  go_enter Tryd.func35, Tryd.ntmps35
  have hO : OwnH (w.alloc (.cells #[] 39)) w.heap.size (.slice (some ⟨w.heap.size, 0, none⟩) 0 0) [] := ⟨fun _ h => (by cases h), World.ownsRow_made w #[] 0 (Nat.le_refl _) (by decide) rfl⟩
  have hS := h.alloc (.cells #[] 39)
  have hlen : ([] : List (List UInt8)).length + L.length ≤ 1000000 := by simp; omega
  have hal : w.heap.size ≤ (w.alloc (.cells #[] 39)).heap.size := by simp
  have hbl : Below w.heap.size w (w.alloc (.cells #[] 39)) := (Below.refl _ _).alloc (Nat.le_refl _) _
  go_wp2_with (at_builtin; refine wpList_append_hs _ rfl _ _ 27 rfl w.heap.size i0 Tryd.underlying27 hi hz0 hz1 hz2 _ [] rfl hO _ L rfl hS hlen hal ?_)
  intro v2 w2 ho2 hb2
  have HO := Lib.hid (show OwnH w2 w.heap.size v2 L by simpa using ho2)
  have HB := Lib.hid (hbl.trans hb2)
  clear ho2 hb2
  go_wp2
  go_ret
  exact ⟨_, rfl, HO.out, HB.out⟩

set_option maxHeartbeats 800000 in
theorem leaves_tree (w : World) (g : Nat) (H : Nat → List UInt8) (h : Tr w g H) :
    Calls Tryd.prog 23 #[.pointer (some ⟨g, 0, none⟩)] w fun e w' => ∃ v', e = .returned v' ∧ OwnH w' w.heap.size v' (leavesOf H) ∧ Below w.heap.size w w' := by
  go_enter Tryd.func23, Tryd.ntmps23
  go_wp2_with fail
  refine (none_tree w h).mono ?_
  rintro e w1 ⟨rfl, rfl⟩
  go_wp2_with fail
  refine (clone_hs ⟨g, 2049, none⟩ 64 64 (leavesOf H) _ h.leaves (by rw [leavesOf_length]; decide)).mono ?_
  rintro e w2 ⟨v2, rfl, ho, hb⟩
  have HO := Lib.hid ho
  have HB := Lib.hid hb
  clear ho hb
  go_wp2
  go_ret
  exact ⟨_, rfl, HO.out, HB.out⟩
theorem leaves_no (w : World) (p : Value) (h : NoTr w p) :
    Calls Tryd.prog 23 #[p] w fun e w' => e = .returned (.slice none 0 0) ∧ w = w' := by
  have hsh : ∃ q, p = .pointer q := by rcases h with rfl | ⟨g, rfl, _⟩ <;> exact ⟨_, rfl⟩
  obtain ⟨q, rfl⟩ := hsh
  go_enter Tryd.func23, Tryd.ntmps23
  go_wp2_with fail
  refine (none_no w _ h).mono ?_
  rintro e w1 ⟨rfl, rfl⟩
  go_wp2
  go_ret
  exact ⟨rfl, rfl⟩
theorem copy_no (w : World) (p : Value) (h : NoTr w p) :
    Calls Tryd.prog 13 #[p] w fun e w' => e = .returned (.pointer none) ∧ w = w' := by
  have hsh : ∃ q, p = .pointer q := by rcases h with rfl | ⟨g, rfl, _⟩ <;> exact ⟨_, rfl⟩
  obtain ⟨q, rfl⟩ := hsh
  go_enter Tryd.func13, Tryd.ntmps13
  go_wp2_with fail
  refine (none_no w _ h).mono ?_
  rintro e w1 ⟨rfl, rfl⟩
  go_wp2
  go_ret
  exact ⟨rfl, rfl⟩

set_option maxHeartbeats 1600000 in
theorem same_tree (w : World) (g k : Nat) (H J : Nat → List UInt8) (h : Tr w g H) (hk : Tr w k J) :
    Calls Tryd.prog 14 #[.pointer (some ⟨g, 0, none⟩), .pointer (some ⟨k, 0, none⟩)] w fun e w' => e = .returned (.bool (decide (leavesOf H = leavesOf J))) ∧ Below w.heap.size w w' := by
  have hfo : Tryd.prog.follows .mixedOrders = true := by kernel_rfl
  have HT := Lib.hid h.drew
  have HK := Lib.hid hk.drew
  have HD := Lib.hid (show Below w.heap.size w w.drew from (Below.refl _ _).drew)
  obtain ⟨Q, hQ⟩ : ∃ Q : Bool, decide (leavesOf H = leavesOf J) = Q := ⟨_, rfl⟩
  have HQ := Lib.hid hQ
  rw [hQ]
  clear hQ
  go_enter Tryd.func14, Tryd.ntmps14
  go_wp2_with fail
  refine (none_tree w h).mono ?_
  rintro e w1 ⟨rfl, rfl⟩
  go_wp2_with fail
  refine (none_tree w hk).mono ?_
  rintro e w1 ⟨rfl, rfl⟩
  go_wp2_with fail
  clear h hk
  refine wp_region_held_drew (S := fun X => World.grownBy w.drew X none) hfo (grown_refl _ _) (fun hS0 => ?_)
  generalize w.drew = Z0 at *
  refine' wpAnyH_take (i := 0) (oi := ⟨some 17, _, _, _, _, _⟩) (v := _) rfl (by kernel_rfl) (by kernel_rfl) (by kernel_rfl) (fun _ _ _ h => h) (Or.inl ⟨by rfl, ?y0⟩) hS0 ?r0
  case y0 => (intro w' hSw; go_simp; try rfl)
  try simp only [Act.put, List.setIfInBounds_toArray, List.set_cons_zero, List.set_cons_succ]
  refine' wpAnyH_take (i := 1) (oi := ⟨some 18, _, _, _, _, _⟩) (v := _) rfl (by kernel_rfl) (by kernel_rfl) (by kernel_rfl) (fun _ _ _ h => h) (Or.inl ⟨by rfl, ?y1⟩) hS0 ?r1
  case y1 => (intro w' hSw; go_simp; try rfl)
  try simp only [Act.put, List.setIfInBounds_toArray, List.set_cons_zero, List.set_cons_succ]
  refine' wpAnyH_take (i := 2) (oi := ⟨some 19, _, _, _, _, _⟩) (v := _) rfl (by kernel_rfl) (by kernel_rfl) (by kernel_rfl) (fun _ _ _ h => h) (Or.inl ⟨by rfl, ?y2⟩) hS0 ?r2
  case y2 => (intro w' hSw; go_simp; try rfl)
  try simp only [Act.put, List.setIfInBounds_toArray, List.set_cons_zero, List.set_cons_succ]
  refine' wpAnyH_take (i := 3) (oi := ⟨some 20, _, _, _, _, _⟩) (v := _) rfl (by kernel_rfl) (by kernel_rfl) (by kernel_rfl) (fun _ _ _ h => h) (Or.inl ⟨by rfl, ?y3⟩) hS0 ?r3
  case y3 => (intro w' hSw; go_simp; try rfl)
  try simp only [Act.put, List.setIfInBounds_toArray, List.set_cons_zero, List.set_cons_succ]
  refine' wpAnyH_take (i := 4) (oi := ⟨some 21, _, _, _, _, _⟩) (v := _) rfl (by kernel_rfl) (by kernel_rfl) (by kernel_rfl) (fun _ _ _ h => h) (Or.inl ⟨by rfl, ?y4⟩) hS0 ?r4
  case y4 => (intro w' hSw; go_simp; try rfl)
  try simp only [Act.put, List.setIfInBounds_toArray, List.set_cons_zero, List.set_cons_succ]
  refine' wpAnyH_take (i := 5) (oi := ⟨some 22, _, _, _, _, _⟩) (v := _) rfl (by kernel_rfl) (by kernel_rfl) (by kernel_rfl) (fun _ _ _ h => h) (Or.inl ⟨by rfl, ?y5⟩) hS0 ?r5
  case y5 => (intro w' hSw; go_simp; try rfl)
  try simp only [Act.put, List.setIfInBounds_toArray, List.set_cons_zero, List.set_cons_succ]
  refine' wpAnyH_take (i := 6) (oi := ⟨some 23, _, _, _, _, _⟩) (v := _) rfl (by kernel_rfl) (by kernel_rfl) (by kernel_rfl) (fun _ _ _ h => h) (Or.inl ⟨by rfl, ?y6⟩) hS0 ?r6
  case y6 => (intro w' hSw; go_simp; try rfl)
  try simp only [Act.put, List.setIfInBounds_toArray, List.set_cons_zero, List.set_cons_succ]
  refine' wpAnyH_take (i := 7) (oi := ⟨some 24, _, _, _, _, _⟩) (v := _) rfl (by kernel_rfl) (by kernel_rfl) (by kernel_rfl) (fun _ _ _ h => h) (Or.inl ⟨by rfl, ?y7⟩) hS0 ?r7
  case y7 => (intro w' hSw; go_simp; try rfl)
  try simp only [Act.put, List.setIfInBounds_toArray, List.set_cons_zero, List.set_cons_succ]
  refine held_one (i := 8) (by kernel_rfl) rfl (fun K hK => ?_)
  go_simp
  refine (equalH_any _ _ (leavesOf H) (leavesOf J) Z0 HT.out.leaves HK.out.leaves (by rw [leavesOf_length]; decide) (by rw [leavesOf_length]; decide)).mono ?_
  rintro e Z1 ⟨rfl, hb1⟩
  have hS1 := hS0.trans (grown_of_below hb1 none)
  refine hK.out _ _ hS1 (fun _ => ?_)
  clear hK K
  try simp only [Act.put, List.setIfInBounds_toArray, List.set_cons_zero, List.set_cons_succ]
  refine' wpAnyH_take (i := 9) (oi := ⟨some 4, _, _, _, _, _⟩) (v := _) rfl (by kernel_rfl) (by kernel_rfl) (by kernel_rfl) (fun _ _ _ h => h) (Or.inl ⟨by rfl, ?y9⟩) hS1 ?r9
  case y9 => (intro w' hSw; go_simp; try rfl)
  try simp only [Act.put, List.setIfInBounds_toArray, List.set_cons_zero, List.set_cons_succ]
  refine wpAnyH_done (by kernel_rfl) ?_ _
  have HB := Lib.hid (HD.out.trans (hb1.mono HD.out.size))
  clear hb1
  go_wp2
  go_ret
  exact ⟨ret_bool (HQ.out), HB.out⟩
theorem same_no (w : World) (p q : Value) (hp : NoTr w p) (hq : NoTr w q) :
    Calls Tryd.prog 14 #[p, q] w fun e w' => e = .returned (.bool true) ∧ w = w' := by
  have hsh : ∃ q, p = .pointer q := by rcases hp with rfl | ⟨g, rfl, _⟩ <;> exact ⟨_, rfl⟩
  obtain ⟨p, rfl⟩ := hsh
  have hsh : ∃ p, q = .pointer p := by rcases hq with rfl | ⟨g, rfl, _⟩ <;> exact ⟨_, rfl⟩
  obtain ⟨q, rfl⟩ := hsh
  go_enter Tryd.func14, Tryd.ntmps14
  go_wp2_with fail
  refine (none_no w _ hp).mono ?_
  rintro e w1 ⟨rfl, rfl⟩
  go_wp2_with fail
  refine (none_no w _ hp).mono ?_
  rintro e w1 ⟨rfl, rfl⟩
  go_wp2_with fail
  refine (none_no w _ hq).mono ?_
  rintro e w1 ⟨rfl, rfl⟩
  go_wp2
  go_ret
  exact ⟨rfl, rfl⟩
theorem same_one (w : World) (p : Value) (g : Nat) (H : Nat → List UInt8) (hp : NoTr w p) (h : Tr w g H) :
    Calls Tryd.prog 14 #[p, .pointer (some ⟨g, 0, none⟩)] w fun e w' => e = .returned (.bool false) ∧ w = w' := by
  have hsh : ∃ q, p = .pointer q := by rcases hp with rfl | ⟨g, rfl, _⟩ <;> exact ⟨_, rfl⟩
  obtain ⟨p, rfl⟩ := hsh
  go_enter Tryd.func14, Tryd.ntmps14
  go_wp2_with fail
  refine (none_no w _ hp).mono ?_
  rintro e w1 ⟨rfl, rfl⟩
  go_wp2_with fail
  refine (none_no w _ hp).mono ?_
  rintro e w1 ⟨rfl, rfl⟩
  go_wp2_with fail
  refine (none_tree w h).mono ?_
  rintro e w1 ⟨rfl, rfl⟩
  go_wp2
  go_ret
  exact ⟨rfl, rfl⟩
theorem same_two (w : World) (p : Value) (g : Nat) (H : Nat → List UInt8) (hp : NoTr w p) (h : Tr w g H) :
    Calls Tryd.prog 14 #[.pointer (some ⟨g, 0, none⟩), p] w fun e w' => e = .returned (.bool false) ∧ w = w' := by
  have hsh : ∃ q, p = .pointer q := by rcases hp with rfl | ⟨g, rfl, _⟩ <;> exact ⟨_, rfl⟩
  obtain ⟨p, rfl⟩ := hsh
  go_enter Tryd.func14, Tryd.ntmps14
  go_wp2_with fail
  refine (none_tree w h).mono ?_
  rintro e w1 ⟨rfl, rfl⟩
  go_wp2_with fail
  refine (none_no w _ hp).mono ?_
  rintro e w1 ⟨rfl, rfl⟩
  go_wp2_with fail
  refine (none_tree w h).mono ?_
  rintro e w1 ⟨rfl, rfl⟩
  go_wp2
  go_ret
  exact ⟨rfl, rfl⟩
end Go.Proofs.YtdbhffkfkklehaaDoor

/-
  The walk of Copy of a tree.
-/
namespace Go.Proofs.YtdbhffkfkklehaaDoor
open Go.RowKit
set_option linter.unusedVariables false
set_option linter.unusedSimpArgs false
set_option maxRecDepth 100000

theorem fill_fold (off : Nat) : ∀ (C : List Value) (k : Nat) (cs : Array Value), off + k + C.length ≤ cs.size → ∀ i,
    ((C.zipIdx k).foldl (fun (cs : Array Value) (p : Value × Nat) => cs.setIfInBounds (off + p.2) p.1) cs)[i]? = if off + k ≤ i ∧ i < off + k + C.length then C[i - (off + k)]? else cs[i]?
  | [], k, cs, h, i => by rw [if_neg (by intro hh; have := hh.2; simp at this; omega)]; rfl
  | c :: C, k, cs, h, i => by
    simp only [List.length_cons] at h
    rw [List.zipIdx_cons, List.foldl_cons, fill_fold off C (k + 1) _ (by simp; omega) i]
    simp only [List.length_cons]
    by_cases e : i = off + k
    · subst e
      rw [if_neg (by omega), if_pos (by omega), Array.getElem?_setIfInBounds_self_of_lt (by omega), Nat.sub_self]; rfl
    · by_cases e2 : off + (k + 1) ≤ i ∧ i < off + (k + 1) + C.length
      · rw [if_pos e2, if_pos (by omega), show i - (off + k) = (i - (off + (k + 1))) + 1 by omega, List.getElem?_cons_succ]
      · rw [if_neg e2, if_neg (by omega), Array.getElem?_setIfInBounds_ne (by omega)]
def zeroT : Array Value := (Value.bool false :: List.replicate 4096 (.int .u8 0)).toArray
theorem tree_zero : (Tryd.prog.info? 43).map (fun i => i.zero) = some (some (.agg zeroT)) := by kernel_rfl
theorem tree_places : (Tryd.prog.underlying 43).map (fun d => match d with | .struct fields => fields.toList.mapM (fun f => (Tryd.prog.info? f.type).map fun i => (f.offset, i.size)) | _ => none) = some (some [(0, 1), (1, 4096)]) := by kernel_rfl
theorem zeroT_size : zeroT.size = 4097 := by simp [zeroT]
theorem built_tree (parts : List (Nat × Value)) : Tryd.prog.built 43 parts = Instr.fill (fun x => ([(0, 1), (1, 4096)] : List (Nat × Nat)).toArray[x]?) zeroT parts := by
  unfold Program.built
  obtain ⟨it, hi, hz⟩ := Option.map_eq_some_iff.1 tree_zero
  obtain ⟨d, hd, hp⟩ := Option.map_eq_some_iff.1 tree_places
  rw [hi, hd]
  cases d <;> simp only at hp <;> try (cases hp; done)
  simp only [hz, hp]
  rfl
theorem built_new : Tryd.prog.built 43 [(0, .bool true)] = some (treeRow true (fun _ => zero32)) := by
  rw [built_tree]
  kernel_rfl
theorem built_zero : Tryd.prog.built 43 [] = some (treeRow false (fun _ => zero32)) := by
  rw [built_tree]
  kernel_rfl
theorem fill_step (place : Nat → Option (Nat × Nat)) (cells : Array Value) (i : Nat) (v : Value) (rest : List (Nat × Value)) (off size : Nat) (hp : place i = some (off, size)) (h1 : v.cells.size = size) (h2 : off + size ≤ cells.size) :
    Instr.fill place cells ((i, v) :: rest) = Instr.fill place (v.cells.zipIdx.foldl (fun cs (p : Value × Nat) => cs.setIfInBounds (off + p.2) p.1) cells) rest := by
  rw [Instr.fill, hp]
  dsimp only
  rw [if_neg (by simp [h1]; omega)]
theorem built_all (C : List Value) (hC : C.length = 4096) : Tryd.prog.built 43 [(0, .bool true), (1, .agg C.toArray)] = some (Value.bool true :: C).toArray := by
  rw [built_tree, fill_step _ _ 0 _ _ 0 1 rfl rfl (by rw [zeroT_size]; omega)]
  have e : (Value.cells (.bool true)).zipIdx.foldl (fun (cs : Array Value) (p : Value × Nat) => cs.setIfInBounds (0 + p.2) p.1) zeroT = zeroT.setIfInBounds 0 (.bool true) := by
    simp [Value.cells]
  rw [e]
  generalize hz : zeroT.setIfInBounds 0 (.bool true) = Z
  have hzs : Z.size = 4097 := by rw [← hz, Array.size_setIfInBounds, zeroT_size]
  have hz0 : Z[0]? = some (.bool true) := by rw [← hz, Array.getElem?_setIfInBounds_self_of_lt (by rw [zeroT_size]; omega)]
  clear hz e
  rw [fill_step _ _ 1 _ _ 1 4096 rfl (by simp [Value.cells, hC]) (by rw [hzs]; omega)]
  show some _ = some _
  congr 1
  rw [show Value.cells (.agg C.toArray) = C.toArray from rfl]
  rw [← Array.foldl_toList, Array.toList_zipIdx]
  apply Array.ext_getElem?
  intro i
  rw [fill_fold 1 C 0 Z (by rw [hzs, hC]; omega) i, hC]
  rcases Nat.eq_zero_or_pos i with rfl | hp
  · rw [if_neg (by omega), hz0]; rfl
  · by_cases hi : i < 4097
    · rw [if_pos (by omega), List.getElem?_toArray]
      obtain ⟨j, rfl⟩ : ∃ j, i = j + 1 := ⟨i - 1, by omega⟩
      rw [List.getElem?_cons_succ, show j + 1 - (1 + 0) = j by omega]
    · rw [if_neg (by omega), Array.getElem?_eq_none (by omega), Array.getElem?_eq_none (by simp [hC]; omega)]
theorem info_nodes : (Tryd.prog.info? 41).map (·.size) = some 4096 := by kernel_rfl
theorem Tr.cells {w : World} {g : Nat} {H : Nat → List UInt8} (h : Tr w g H) : w.rangeAt g 1 (hcs (nodesL H)) := by
  intro j v hv
  rw [h.row.cell, treeRow, List.getElem?_toArray, show 1 + j = j + 1 by omega, List.getElem?_cons_succ, hv]

set_option maxHeartbeats 1600000 in
theorem copy_tree (w : World) (g : Nat) (H : Nat → List UInt8) (h : Tr w g H) :
    Calls Tryd.prog 13 #[.pointer (some ⟨g, 0, none⟩)] w fun e w' => ∃ g', e = .returned (.pointer (some ⟨g', 0, none⟩)) ∧ w.heap.size ≤ g' ∧ Tr w' g' H ∧ Below w.heap.size w w' := by
  go_enter Tryd.func13, Tryd.ntmps13
  go_wp2_with fail
  refine (none_tree w h).mono ?_
  rintro e w1 ⟨rfl, rfl⟩
  have hR := h.cells
  have hC : (hcs (nodesL H)).length = 4096 := by rw [hcs_length _ h.len.all, nodesL_length]
  have hil : (Tryd.prog.info? 41).map (·.size) = some (hcs (nodesL H)).length := by rw [info_nodes, hC]
  have HT := Lib.hid (show Tr (w.alloc (.cells (Value.bool true :: hcs (nodesL H)).toArray 43)) w.heap.size H from ⟨h.len, Blk.new w _ _⟩)
  generalize hcs (nodesL H) = C at hR hC hil HT
  have HBU := Lib.hid (built_all C hC)
  go_wp2_with (first | (refine wpList_load_mid rfl 41 _ rfl g 1 rfl C _ hR Tryd.underlying41 rfl hil ?_) | (refine wpList_build_to rfl 43 _ rfl (Value.bool true :: C).toArray ?hbc ?_; case hbc => exact Eq.trans (by kernel_rfl) HBU.out))
  go_ret
  exact ⟨_, rfl, Nat.le_refl _, HT.out, (Below.refl _ _).alloc (Nat.le_refl _) _⟩
end Go.Proofs.YtdbhffkfkklehaaDoor

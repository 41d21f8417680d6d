/-
  slices.Equal and the document's Same, at hashes.
-/
import Derived.Test.YtdbhffkfkklehaaDoorMkLook
namespace Go.Proofs.YtdbhffkfkklehaaDoor
open Go.RowKit
set_option linter.unusedVariables false
set_option linter.unusedSimpArgs false
set_option maxRecDepth 100000

set_option maxHeartbeats 1600000 in
theorem equalH_any (v u : Value) (L M : List (List UInt8)) (w : World) (hL : Sh w v L) (hM : Sh w u M) (hl : L.length ≤ 1000000) (hm : M.length ≤ 1000000) :
    Calls Tryd.prog 30 #[v, u] w fun e w' => e = .returned (.bool (decide (L = M))) ∧ Below w.heap.size w w' := by
  have hfo : Tryd.prog.follows .mixedOrders = true := by kernel_rfl
  have HL := Lib.hid hL
  have HM := Lib.hid hM
  obtain ⟨_, A, c, rfl, _, _⟩ := hL
  obtain ⟨_, B, c', rfl, _, _⟩ := hM
  obtain ⟨Q, hQ⟩ : ∃ Q : Bool, Q = decide (L = M) := ⟨_, rfl⟩
  have HQ := Lib.hid hQ
  rw [← hQ]
  clear hQ
  by_cases hlen : L.length = M.length
  · have hb : ((L.length : Int) != (M.length : Int)) = false := by rw [hlen]; simp
    have HLen := Lib.hid hlen
    clear hlen
    go_enter Tryd.func30, Tryd.ntmps30
    go_wp2
    go_loopw [13] (fun z wr => ∃ i : Nat, z = .int .i64 (i : Int) ∧ i ≤ L.length ∧ (∀ k (h : k < L.length), k < i → L[k] = M[k]'(by rw [← HLen.out]; exact h)) ∧ Below w.heap.size w wr) (fun z _ => L.length - (intOf z).toNat)
    case atStart => exact ⟨0, rfl, Nat.zero_le _, fun k _ h => absurd h (by omega), Below.refl _ _⟩
    case round =>
      obtain ⟨i, rfl, hi, hall, hbw⟩ := hrel
      have HA := Lib.hid hall
      have HB := Lib.hid hbw
      clear hall hbw
      by_cases hlt : i < L.length
      · have hlt2 : i < M.length := by have := HLen.out; omega
        have HX := Lib.hid (show ∀ j, L[i] = j → L[i] = j from fun _ h => h)
        have h32a := HL.out.all _ (List.getElem_mem hlt)
        have h32b := HM.out.all _ (List.getElem_mem hlt2)
        obtain ⟨b, o, rfl, k0⟩ := HL.out.at_ i hlt
        obtain ⟨b', o', rfl, k2⟩ := HM.out.at_ i hlt2
        have k0' : wr.drew.rangeAt b (o + i * 32) (hcells L[i]) := fun j x hx => (HB.out.cell (World.block_lt_of_cell? w _ (k0 j x hx))).trans (k0 j x hx)
        have k2' : wr.drew.rangeAt b' (o' + i * 32) (hcells (M[i]'hlt2)) := fun j x hx => (HB.out.cell (World.block_lt_of_cell? w _ (k2 j x hx))).trans (k2 j x hx)
        have HLD1 := Lib.hid k0'
        have HLD2 := Lib.hid k2'
        have HI1 := Lib.hid (hc_facts h32a).1
        have HI2 := Lib.hid (hc_facts h32b).1
        have HEQ := Lib.hid (hash_eq L[i] (M[i]'hlt2) h32a h32b)
        rw [← hcells_arr, ← hcells_arr] at HEQ
        have HD := Lib.hid (show L[i] = M[i]'hlt2 ↔ L[i] = M[i]'hlt2 from Iff.rfl)
        obtain ⟨q, hq⟩ : ∃ q : Bool, decide (L[i] = M[i]'hlt2) = q := ⟨_, rfl⟩
        rw [hq] at HEQ
        have Hq := Lib.hid hq
        generalize hcells L[i] = C1 at HLD1 HEQ HI1
        generalize hcells (M[i]'hlt2) = C2 at HLD2 HEQ HI2
        have HB0 := Lib.hid HB.out.drew
        clear k0 k2 k0' k2' hq HD HX h32a h32b
        have hi1 : (i : Int) < (L.length : Int) := by omega
        have hi2 : (i : Int) < (M.length : Int) := by omega
        cases q
        · go_wp2_with fail
          refine wp_region_held_drew (S := fun X => X = wr.drew) hfo rfl (fun hS0 => ?_)
          generalize wr.drew = Z0 at *
          refine' wpAnyH_take (i := 0) (oi := ⟨some 16, _, _, _, _, _⟩) (v := _) rfl (by kernel_rfl) (by kernel_rfl) (by kernel_rfl) (fun _ _ _ h => h) (Or.inl ⟨by rfl, ?y0⟩) hS0 ?r0
          case y0 => (intro w' hSw; subst hSw; have e3 := HEQ.out; go_simp; try rfl)
          try simp only [Act.put, List.setIfInBounds_toArray, List.set_cons_zero, List.set_cons_succ]
          refine' wpAnyH_take (i := 1) (oi := ⟨some 17, _, _, _, _, _⟩) (v := _) rfl (by kernel_rfl) (by kernel_rfl) (by kernel_rfl) (fun _ _ _ h => h) (Or.inl ⟨by rfl, ?y1⟩) hS0 ?r1
          case y1 => (intro w' hSw; subst hSw; have e3 := HEQ.out; go_simp; try rfl)
          try simp only [Act.put, List.setIfInBounds_toArray, List.set_cons_zero, List.set_cons_succ]
          refine' wpAnyH_take (i := 2) (oi := ⟨some 18, _, _, _, _, _⟩) (v := _) rfl (by kernel_rfl) (by kernel_rfl) (by kernel_rfl) (fun _ _ _ h => h) (Or.inl ⟨by rfl, ?y2⟩) hS0 ?r2
          case y2 => (intro w' hSw; subst hSw; have e3 := HEQ.out; go_simp; try rfl)
          try simp only [Act.put, List.setIfInBounds_toArray, List.set_cons_zero, List.set_cons_succ]
          refine' wpAnyH_take (i := 4) (oi := ⟨some 20, _, _, _, _, _⟩) (v := _) rfl (by kernel_rfl) (by kernel_rfl) (by kernel_rfl) (fun _ _ _ h => h) (Or.inl ⟨by rfl, ?y4⟩) hS0 ?r4
          case y4 => (intro w' hSw; subst hSw; have e3 := HEQ.out; go_simp; try rfl)
          try simp only [Act.put, List.setIfInBounds_toArray, List.set_cons_zero, List.set_cons_succ]
          refine' wpAnyH_take (i := 5) (oi := ⟨some 21, _, _, _, _, _⟩) (v := _) rfl (by kernel_rfl) (by kernel_rfl) (by kernel_rfl) (fun _ _ _ h => h) (Or.inl ⟨by rfl, ?y5⟩) hS0 ?r5
          case y5 => (intro w' hSw; subst hSw; have e3 := HEQ.out; go_simp; try rfl)
          try simp only [Act.put, List.setIfInBounds_toArray, List.set_cons_zero, List.set_cons_succ]
          refine' wpAnyH_take (i := 6) (oi := ⟨some 22, _, _, _, _, _⟩) (v := _) rfl (by kernel_rfl) (by kernel_rfl) (by kernel_rfl) (fun _ _ _ h => h) (Or.inl ⟨by rfl, ?y6⟩) hS0 ?r6
          case y6 => (intro w' hSw; subst hSw; have e3 := HEQ.out; go_simp; try rfl)
          try simp only [Act.put, List.setIfInBounds_toArray, List.set_cons_zero, List.set_cons_succ]
          refine' wpAnyH_take (i := 3) (oi := ⟨some 19, _, _, _, _, _⟩) (v := .agg C1.toArray) rfl (by kernel_rfl) (by kernel_rfl) (by kernel_rfl) (fun _ _ _ h => h) (yieldsIf_load_mid (by rfl) 39 _ rfl b (o + i * 32) rfl C1 _ (fun X hX => by subst hX; exact HLD1.out) Tryd.underlying39 rfl HI1.out) hS0 ?r3
          try simp only [Act.put, List.setIfInBounds_toArray, List.set_cons_zero, List.set_cons_succ]
          refine' wpAnyH_take (i := 7) (oi := ⟨some 23, _, _, _, _, _⟩) (v := .agg C2.toArray) rfl (by kernel_rfl) (by kernel_rfl) (by kernel_rfl) (fun _ _ _ h => h) (yieldsIf_load_mid (by rfl) 39 _ rfl b' (o' + i * 32) rfl C2 _ (fun X hX => by subst hX; exact HLD2.out) Tryd.underlying39 rfl HI2.out) hS0 ?r7
          try simp only [Act.put, List.setIfInBounds_toArray, List.set_cons_zero, List.set_cons_succ]
          refine' wpAnyH_take (i := 8) (oi := ⟨some 24, _, _, _, _, _⟩) (v := _) rfl (by kernel_rfl) (by kernel_rfl) (by kernel_rfl) (fun _ _ _ h => h) (Or.inl ⟨by rfl, ?y8⟩) hS0 ?r8
          case y8 => (intro w' hSw; subst hSw; have e3 := HEQ.out; go_simp; try rfl)
          try simp only [Act.put, List.setIfInBounds_toArray, List.set_cons_zero, List.set_cons_succ]
          refine wpAnyH_done (by kernel_rfl) ?_ _
          go_wp2
          go_ret
          refine ⟨ret_bool ?_, HB0.out⟩
          rw [HQ.out, eq_comm, decide_eq_false_iff_not]
          intro h
          exact of_decide_eq_false Hq.out (by simp only [h])
        · go_wp2_with fail
          refine wp_region_held_drew (S := fun X => X = wr.drew) hfo rfl (fun hS0 => ?_)
          generalize wr.drew = Z0 at *
          refine' wpAnyH_take (i := 0) (oi := ⟨some 16, _, _, _, _, _⟩) (v := _) rfl (by kernel_rfl) (by kernel_rfl) (by kernel_rfl) (fun _ _ _ h => h) (Or.inl ⟨by rfl, ?y0B⟩) hS0 ?r0B
          case y0B => (intro w' hSw; subst hSw; have e3 := HEQ.out; go_simp; try rfl)
          try simp only [Act.put, List.setIfInBounds_toArray, List.set_cons_zero, List.set_cons_succ]
          refine' wpAnyH_take (i := 1) (oi := ⟨some 17, _, _, _, _, _⟩) (v := _) rfl (by kernel_rfl) (by kernel_rfl) (by kernel_rfl) (fun _ _ _ h => h) (Or.inl ⟨by rfl, ?y1B⟩) hS0 ?r1B
          case y1B => (intro w' hSw; subst hSw; have e3 := HEQ.out; go_simp; try rfl)
          try simp only [Act.put, List.setIfInBounds_toArray, List.set_cons_zero, List.set_cons_succ]
          refine' wpAnyH_take (i := 2) (oi := ⟨some 18, _, _, _, _, _⟩) (v := _) rfl (by kernel_rfl) (by kernel_rfl) (by kernel_rfl) (fun _ _ _ h => h) (Or.inl ⟨by rfl, ?y2B⟩) hS0 ?r2B
          case y2B => (intro w' hSw; subst hSw; have e3 := HEQ.out; go_simp; try rfl)
          try simp only [Act.put, List.setIfInBounds_toArray, List.set_cons_zero, List.set_cons_succ]
          refine' wpAnyH_take (i := 4) (oi := ⟨some 20, _, _, _, _, _⟩) (v := _) rfl (by kernel_rfl) (by kernel_rfl) (by kernel_rfl) (fun _ _ _ h => h) (Or.inl ⟨by rfl, ?y4B⟩) hS0 ?r4B
          case y4B => (intro w' hSw; subst hSw; have e3 := HEQ.out; go_simp; try rfl)
          try simp only [Act.put, List.setIfInBounds_toArray, List.set_cons_zero, List.set_cons_succ]
          refine' wpAnyH_take (i := 5) (oi := ⟨some 21, _, _, _, _, _⟩) (v := _) rfl (by kernel_rfl) (by kernel_rfl) (by kernel_rfl) (fun _ _ _ h => h) (Or.inl ⟨by rfl, ?y5B⟩) hS0 ?r5B
          case y5B => (intro w' hSw; subst hSw; have e3 := HEQ.out; go_simp; try rfl)
          try simp only [Act.put, List.setIfInBounds_toArray, List.set_cons_zero, List.set_cons_succ]
          refine' wpAnyH_take (i := 6) (oi := ⟨some 22, _, _, _, _, _⟩) (v := _) rfl (by kernel_rfl) (by kernel_rfl) (by kernel_rfl) (fun _ _ _ h => h) (Or.inl ⟨by rfl, ?y6B⟩) hS0 ?r6B
          case y6B => (intro w' hSw; subst hSw; have e3 := HEQ.out; go_simp; try rfl)
          try simp only [Act.put, List.setIfInBounds_toArray, List.set_cons_zero, List.set_cons_succ]
          refine' wpAnyH_take (i := 3) (oi := ⟨some 19, _, _, _, _, _⟩) (v := .agg C1.toArray) rfl (by kernel_rfl) (by kernel_rfl) (by kernel_rfl) (fun _ _ _ h => h) (yieldsIf_load_mid (by rfl) 39 _ rfl b (o + i * 32) rfl C1 _ (fun X hX => by subst hX; exact HLD1.out) Tryd.underlying39 rfl HI1.out) hS0 ?r3B
          try simp only [Act.put, List.setIfInBounds_toArray, List.set_cons_zero, List.set_cons_succ]
          refine' wpAnyH_take (i := 7) (oi := ⟨some 23, _, _, _, _, _⟩) (v := .agg C2.toArray) rfl (by kernel_rfl) (by kernel_rfl) (by kernel_rfl) (fun _ _ _ h => h) (yieldsIf_load_mid (by rfl) 39 _ rfl b' (o' + i * 32) rfl C2 _ (fun X hX => by subst hX; exact HLD2.out) Tryd.underlying39 rfl HI2.out) hS0 ?r7B
          try simp only [Act.put, List.setIfInBounds_toArray, List.set_cons_zero, List.set_cons_succ]
          refine' wpAnyH_take (i := 8) (oi := ⟨some 24, _, _, _, _, _⟩) (v := _) rfl (by kernel_rfl) (by kernel_rfl) (by kernel_rfl) (fun _ _ _ h => h) (Or.inl ⟨by rfl, ?y8B⟩) hS0 ?r8B
          case y8B => (intro w' hSw; subst hSw; have e3 := HEQ.out; go_simp; try rfl)
          try simp only [Act.put, List.setIfInBounds_toArray, List.set_cons_zero, List.set_cons_succ]
          refine wpAnyH_done (by kernel_rfl) ?_ _
          go_wp2
          refine ⟨⟨i + 1, by go_num, by omega, fun k hk hki => ?_, HB0.out⟩, by simp [intOf]; omega⟩
          rcases Nat.lt_or_ge k i with h | h
          · exact HA.out k hk h
          · obtain rfl : k = i := by omega
            exact of_decide_eq_true Hq.out
      · obtain rfl : i = L.length := by omega
        go_wp2
        go_ret
        refine ⟨ret_bool ?_, HB.out⟩
        rw [HQ.out, eq_comm, decide_eq_true_iff]
        exact List.ext_getElem HLen.out fun k h1 h2 => HA.out k h1 h1
  · have hb : ((L.length : Int) != (M.length : Int)) = true := by rw [bne_iff_ne]; omega
    have HLen := Lib.hid hlen
    clear hlen
    go_enter Tryd.func30, Tryd.ntmps30
    go_wp2
    go_ret
    refine ⟨ret_bool ?_, Below.refl _ _⟩
    rw [HQ.out, eq_comm, decide_eq_false_iff_not]
    intro h
    exact HLen.out (by rw [h])

set_option maxHeartbeats 1600000 in
theorem refSame_any (v u : Value) (L M : List (List UInt8)) (w : World) (hL : Sh w v L) (hM : Sh w u M) (hl : L.length ≤ 1000000) (hm : M.length ≤ 1000000) :
    Calls Tryd.prog 15 #[v, u] w fun e w' => e = .returned (.bool (decide (L = M))) ∧ Below w.heap.size w w' := by
  have hfo : Tryd.prog.follows .mixedOrders = true := by kernel_rfl
  have HL := Lib.hid hL
  have HM := Lib.hid hM
  obtain ⟨_, A, c, rfl, _, _⟩ := hL
  obtain ⟨_, B, c', rfl, _, _⟩ := hM
  obtain ⟨Q, hQ⟩ : ∃ Q : Bool, Q = decide (L = M) := ⟨_, rfl⟩
  have HQ := Lib.hid hQ
  rw [← hQ]
  clear hQ
  by_cases hlen : L.length = M.length
  · have hb : ((L.length : Int) != (M.length : Int)) = false := by rw [hlen]; simp
    have HLen := Lib.hid hlen
    clear hlen
    go_enter Tryd.func15, Tryd.ntmps15
    go_wp2
    go_loopw [5] (fun z wr => ∃ i : Nat, z = .int .i64 (i : Int) ∧ i ≤ L.length ∧ (∀ k (h : k < L.length), k < i → L[k] = M[k]'(by rw [← HLen.out]; exact h)) ∧ Below w.heap.size w wr) (fun z _ => L.length - (intOf z).toNat)
    case atStart => exact ⟨0, rfl, Nat.zero_le _, fun k _ h => absurd h (by omega), Below.refl _ _⟩
    case round =>
      obtain ⟨i, rfl, hi, hall, hbw⟩ := hrel
      have HA := Lib.hid hall
      have HB := Lib.hid hbw
      clear hall hbw
      by_cases hlt : i < L.length
      · have hlt2 : i < M.length := by have := HLen.out; omega
        have HX := Lib.hid (show ∀ j, L[i] = j → L[i] = j from fun _ h => h)
        have h32a := HL.out.all _ (List.getElem_mem hlt)
        have h32b := HM.out.all _ (List.getElem_mem hlt2)
        obtain ⟨b, o, rfl, k0⟩ := HL.out.at_ i hlt
        obtain ⟨b', o', rfl, k2⟩ := HM.out.at_ i hlt2
        have k0' : wr.drew.rangeAt b (o + i * 32) (hcells L[i]) := fun j x hx => (HB.out.cell (World.block_lt_of_cell? w _ (k0 j x hx))).trans (k0 j x hx)
        have k2' : wr.drew.rangeAt b' (o' + i * 32) (hcells (M[i]'hlt2)) := fun j x hx => (HB.out.cell (World.block_lt_of_cell? w _ (k2 j x hx))).trans (k2 j x hx)
        have HLD1 := Lib.hid k0'
        have HLD2 := Lib.hid k2'
        have HI1 := Lib.hid (hc_facts h32a).1
        have HI2 := Lib.hid (hc_facts h32b).1
        have HEQ := Lib.hid (hash_eq L[i] (M[i]'hlt2) h32a h32b)
        rw [← hcells_arr, ← hcells_arr] at HEQ
        have HD := Lib.hid (show L[i] = M[i]'hlt2 ↔ L[i] = M[i]'hlt2 from Iff.rfl)
        obtain ⟨q, hq⟩ : ∃ q : Bool, decide (L[i] = M[i]'hlt2) = q := ⟨_, rfl⟩
        rw [hq] at HEQ
        have Hq := Lib.hid hq
        generalize hcells L[i] = C1 at HLD1 HEQ HI1
        generalize hcells (M[i]'hlt2) = C2 at HLD2 HEQ HI2
        have HB0 := Lib.hid HB.out.drew
        clear k0 k2 k0' k2' hq HD HX h32a h32b
        have hi1 : (i : Int) < (L.length : Int) := by omega
        have hi2 : (i : Int) < (M.length : Int) := by omega
        cases q
        · go_wp2_with fail
          refine wp_region_held_drew (S := fun X => X = wr.drew) hfo rfl (fun hS0 => ?_)
          generalize wr.drew = Z0 at *
          refine' wpAnyH_take (i := 0) (oi := ⟨some 17, _, _, _, _, _⟩) (v := _) rfl (by kernel_rfl) (by kernel_rfl) (by kernel_rfl) (fun _ _ _ h => h) (Or.inl ⟨by rfl, ?y0⟩) hS0 ?r0
          case y0 => (intro w' hSw; subst hSw; have e3 := HEQ.out; go_simp; try rfl)
          try simp only [Act.put, List.setIfInBounds_toArray, List.set_cons_zero, List.set_cons_succ]
          refine' wpAnyH_take (i := 1) (oi := ⟨some 18, _, _, _, _, _⟩) (v := _) rfl (by kernel_rfl) (by kernel_rfl) (by kernel_rfl) (fun _ _ _ h => h) (Or.inl ⟨by rfl, ?y1⟩) hS0 ?r1
          case y1 => (intro w' hSw; subst hSw; have e3 := HEQ.out; go_simp; try rfl)
          try simp only [Act.put, List.setIfInBounds_toArray, List.set_cons_zero, List.set_cons_succ]
          refine' wpAnyH_take (i := 2) (oi := ⟨some 19, _, _, _, _, _⟩) (v := _) rfl (by kernel_rfl) (by kernel_rfl) (by kernel_rfl) (fun _ _ _ h => h) (Or.inl ⟨by rfl, ?y2⟩) hS0 ?r2
          case y2 => (intro w' hSw; subst hSw; have e3 := HEQ.out; go_simp; try rfl)
          try simp only [Act.put, List.setIfInBounds_toArray, List.set_cons_zero, List.set_cons_succ]
          refine' wpAnyH_take (i := 4) (oi := ⟨some 21, _, _, _, _, _⟩) (v := _) rfl (by kernel_rfl) (by kernel_rfl) (by kernel_rfl) (fun _ _ _ h => h) (Or.inl ⟨by rfl, ?y4⟩) hS0 ?r4
          case y4 => (intro w' hSw; subst hSw; have e3 := HEQ.out; go_simp; try rfl)
          try simp only [Act.put, List.setIfInBounds_toArray, List.set_cons_zero, List.set_cons_succ]
          refine' wpAnyH_take (i := 5) (oi := ⟨some 22, _, _, _, _, _⟩) (v := _) rfl (by kernel_rfl) (by kernel_rfl) (by kernel_rfl) (fun _ _ _ h => h) (Or.inl ⟨by rfl, ?y5⟩) hS0 ?r5
          case y5 => (intro w' hSw; subst hSw; have e3 := HEQ.out; go_simp; try rfl)
          try simp only [Act.put, List.setIfInBounds_toArray, List.set_cons_zero, List.set_cons_succ]
          refine' wpAnyH_take (i := 6) (oi := ⟨some 23, _, _, _, _, _⟩) (v := _) rfl (by kernel_rfl) (by kernel_rfl) (by kernel_rfl) (fun _ _ _ h => h) (Or.inl ⟨by rfl, ?y6⟩) hS0 ?r6
          case y6 => (intro w' hSw; subst hSw; have e3 := HEQ.out; go_simp; try rfl)
          try simp only [Act.put, List.setIfInBounds_toArray, List.set_cons_zero, List.set_cons_succ]
          refine' wpAnyH_take (i := 3) (oi := ⟨some 20, _, _, _, _, _⟩) (v := .agg C1.toArray) rfl (by kernel_rfl) (by kernel_rfl) (by kernel_rfl) (fun _ _ _ h => h) (yieldsIf_load_mid (by rfl) 39 _ rfl b (o + i * 32) rfl C1 _ (fun X hX => by subst hX; exact HLD1.out) Tryd.underlying39 rfl HI1.out) hS0 ?r3
          try simp only [Act.put, List.setIfInBounds_toArray, List.set_cons_zero, List.set_cons_succ]
          refine' wpAnyH_take (i := 7) (oi := ⟨some 24, _, _, _, _, _⟩) (v := .agg C2.toArray) rfl (by kernel_rfl) (by kernel_rfl) (by kernel_rfl) (fun _ _ _ h => h) (yieldsIf_load_mid (by rfl) 39 _ rfl b' (o' + i * 32) rfl C2 _ (fun X hX => by subst hX; exact HLD2.out) Tryd.underlying39 rfl HI2.out) hS0 ?r7
          try simp only [Act.put, List.setIfInBounds_toArray, List.set_cons_zero, List.set_cons_succ]
          refine' wpAnyH_take (i := 8) (oi := ⟨some 25, _, _, _, _, _⟩) (v := _) rfl (by kernel_rfl) (by kernel_rfl) (by kernel_rfl) (fun _ _ _ h => h) (Or.inl ⟨by rfl, ?y8⟩) hS0 ?r8
          case y8 => (intro w' hSw; subst hSw; have e3 := HEQ.out; go_simp; try rfl)
          try simp only [Act.put, List.setIfInBounds_toArray, List.set_cons_zero, List.set_cons_succ]
          refine wpAnyH_done (by kernel_rfl) ?_ _
          go_wp2
          go_ret
          refine ⟨ret_bool ?_, HB0.out⟩
          rw [HQ.out, eq_comm, decide_eq_false_iff_not]
          intro h
          exact of_decide_eq_false Hq.out (by simp only [h])
        · go_wp2_with fail
          refine wp_region_held_drew (S := fun X => X = wr.drew) hfo rfl (fun hS0 => ?_)
          generalize wr.drew = Z0 at *
          refine' wpAnyH_take (i := 0) (oi := ⟨some 17, _, _, _, _, _⟩) (v := _) rfl (by kernel_rfl) (by kernel_rfl) (by kernel_rfl) (fun _ _ _ h => h) (Or.inl ⟨by rfl, ?y0B⟩) hS0 ?r0B
          case y0B => (intro w' hSw; subst hSw; have e3 := HEQ.out; go_simp; try rfl)
          try simp only [Act.put, List.setIfInBounds_toArray, List.set_cons_zero, List.set_cons_succ]
          refine' wpAnyH_take (i := 1) (oi := ⟨some 18, _, _, _, _, _⟩) (v := _) rfl (by kernel_rfl) (by kernel_rfl) (by kernel_rfl) (fun _ _ _ h => h) (Or.inl ⟨by rfl, ?y1B⟩) hS0 ?r1B
          case y1B => (intro w' hSw; subst hSw; have e3 := HEQ.out; go_simp; try rfl)
          try simp only [Act.put, List.setIfInBounds_toArray, List.set_cons_zero, List.set_cons_succ]
          refine' wpAnyH_take (i := 2) (oi := ⟨some 19, _, _, _, _, _⟩) (v := _) rfl (by kernel_rfl) (by kernel_rfl) (by kernel_rfl) (fun _ _ _ h => h) (Or.inl ⟨by rfl, ?y2B⟩) hS0 ?r2B
          case y2B => (intro w' hSw; subst hSw; have e3 := HEQ.out; go_simp; try rfl)
          try simp only [Act.put, List.setIfInBounds_toArray, List.set_cons_zero, List.set_cons_succ]
          refine' wpAnyH_take (i := 4) (oi := ⟨some 21, _, _, _, _, _⟩) (v := _) rfl (by kernel_rfl) (by kernel_rfl) (by kernel_rfl) (fun _ _ _ h => h) (Or.inl ⟨by rfl, ?y4B⟩) hS0 ?r4B
          case y4B => (intro w' hSw; subst hSw; have e3 := HEQ.out; go_simp; try rfl)
          try simp only [Act.put, List.setIfInBounds_toArray, List.set_cons_zero, List.set_cons_succ]
          refine' wpAnyH_take (i := 5) (oi := ⟨some 22, _, _, _, _, _⟩) (v := _) rfl (by kernel_rfl) (by kernel_rfl) (by kernel_rfl) (fun _ _ _ h => h) (Or.inl ⟨by rfl, ?y5B⟩) hS0 ?r5B
          case y5B => (intro w' hSw; subst hSw; have e3 := HEQ.out; go_simp; try rfl)
          try simp only [Act.put, List.setIfInBounds_toArray, List.set_cons_zero, List.set_cons_succ]
          refine' wpAnyH_take (i := 6) (oi := ⟨some 23, _, _, _, _, _⟩) (v := _) rfl (by kernel_rfl) (by kernel_rfl) (by kernel_rfl) (fun _ _ _ h => h) (Or.inl ⟨by rfl, ?y6B⟩) hS0 ?r6B
          case y6B => (intro w' hSw; subst hSw; have e3 := HEQ.out; go_simp; try rfl)
          try simp only [Act.put, List.setIfInBounds_toArray, List.set_cons_zero, List.set_cons_succ]
          refine' wpAnyH_take (i := 3) (oi := ⟨some 20, _, _, _, _, _⟩) (v := .agg C1.toArray) rfl (by kernel_rfl) (by kernel_rfl) (by kernel_rfl) (fun _ _ _ h => h) (yieldsIf_load_mid (by rfl) 39 _ rfl b (o + i * 32) rfl C1 _ (fun X hX => by subst hX; exact HLD1.out) Tryd.underlying39 rfl HI1.out) hS0 ?r3B
          try simp only [Act.put, List.setIfInBounds_toArray, List.set_cons_zero, List.set_cons_succ]
          refine' wpAnyH_take (i := 7) (oi := ⟨some 24, _, _, _, _, _⟩) (v := .agg C2.toArray) rfl (by kernel_rfl) (by kernel_rfl) (by kernel_rfl) (fun _ _ _ h => h) (yieldsIf_load_mid (by rfl) 39 _ rfl b' (o' + i * 32) rfl C2 _ (fun X hX => by subst hX; exact HLD2.out) Tryd.underlying39 rfl HI2.out) hS0 ?r7B
          try simp only [Act.put, List.setIfInBounds_toArray, List.set_cons_zero, List.set_cons_succ]
          refine' wpAnyH_take (i := 8) (oi := ⟨some 25, _, _, _, _, _⟩) (v := _) rfl (by kernel_rfl) (by kernel_rfl) (by kernel_rfl) (fun _ _ _ h => h) (Or.inl ⟨by rfl, ?y8B⟩) hS0 ?r8B
          case y8B => (intro w' hSw; subst hSw; have e3 := HEQ.out; go_simp; try rfl)
          try simp only [Act.put, List.setIfInBounds_toArray, List.set_cons_zero, List.set_cons_succ]
          refine wpAnyH_done (by kernel_rfl) ?_ _
          go_wp2
          refine ⟨⟨i + 1, by go_num, by omega, fun k hk hki => ?_, HB0.out⟩, by simp [intOf]; omega⟩
          rcases Nat.lt_or_ge k i with h | h
          · exact HA.out k hk h
          · obtain rfl : k = i := by omega
            exact of_decide_eq_true Hq.out
      · obtain rfl : i = L.length := by omega
        go_wp2
        go_ret
        refine ⟨ret_bool ?_, HB.out⟩
        rw [HQ.out, eq_comm, decide_eq_true_iff]
        exact List.ext_getElem HLen.out fun k h1 h2 => HA.out k h1 h1
  · have hb : ((L.length : Int) != (M.length : Int)) = true := by rw [bne_iff_ne]; omega
    have HLen := Lib.hid hlen
    clear hlen
    go_enter Tryd.func15, Tryd.ntmps15
    go_wp2
    go_ret
    refine ⟨ret_bool ?_, Below.refl _ _⟩
    rw [HQ.out, eq_comm, decide_eq_false_iff_not]
    intro h
    exact HLen.out (by rw [h])
end Go.Proofs.YtdbhffkfkklehaaDoor

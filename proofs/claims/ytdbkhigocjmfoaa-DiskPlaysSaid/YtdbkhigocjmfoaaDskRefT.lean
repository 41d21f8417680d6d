/-
  The document's Cut, Remove.
-/
import Derived.Test.YtdbkhigocjmfoaaDskRefS
namespace Go.Proofs.Ytdbkhigocjmfoaa
open Go.RowKit
open DskM
set_option linter.unusedVariables false
set_option linter.unusedSimpArgs false
set_option maxRecDepth 20000
attribute [local go_sem] Oper.semAt_some
section
variable {w w' : World} {q : Nat} {v : Value} {S : Ds} {R : List Fr}
theorem trans_q {T : Nat → Prop} {a b c : World} (h : Keep T a b) (k : Keep T b c) : Keep T a c := h.trans k (fun _ h => h) (fun _ _ h => h)
set_option maxHeartbeats 4000000 in
theorem cut_ref (h : Rd w q v S R) (hf : Fit S (pl R)) (s : ByteArray) (n : Int) {r : Int × Ds × List Fp} (hr : cutS S (pl R) s.data.toList n = r) :
    Calls Try.prog 43 #[.pointer (some ⟨q, 0, none⟩), .string s, .int .i64 n] w (RRes w q v R r) := by
  have hfo : Try.prog.follows .mixedOrders = true := by kernel_rfl
  have hl : R.length ≤ 64 := by have := hf.few; rw [pl_len] at this; exact this
  have hfi := find_ref h hl s
  by_cases h0 : n < 0
  · have hn0 : decide (n < 0) = true := decide_eq_true h0
    have HR := Lib.hid (show r = (2, S, pl R) by rw [← hr]; unfold cutS; rw [if_neg (fun h => absurd h.2 (by omega))])
    have H := Lib.hid h
    rcases find_cases hf.rise s.data.toList with ⟨hm, e2, e1⟩ | ⟨hm, hn, hi, e2, e1⟩ | ⟨hm, k, hk, hp, hnm, hn, hi, e2, e1⟩
    · rw [e1, e2] at hfi
      have HFI := Lib.hid hfi
      clear h hf hm hr e1 e2 h0 hfi
      go_enter Try.func43, Try.ntmps43
      go_wp2_with fail
      refine HFI.out.mono ?_
      rintro e w1 ⟨rfl, hb1⟩
      go_wp2
      go_ret
      rw [HR.out]; exact RRes.same H.out hb1 _
    · rw [e1, e2] at hfi
      have HFI := Lib.hid hfi
      clear h hf hm hr e1 e2 hn hi h0 hfi
      go_enter Try.func43, Try.ntmps43
      go_wp2_with fail
      refine HFI.out.mono ?_
      rintro e w1 ⟨rfl, hb1⟩
      go_wp2
      go_ret
      rw [HR.out]; exact RRes.same H.out hb1 _
    · rw [e1, e2] at hfi
      have HFI := Lib.hid hfi
      clear h hf hm hr e1 e2 hi hp hnm hn h0 hfi
      go_enter Try.func43, Try.ntmps43
      go_wp2_with fail
      refine HFI.out.mono ?_
      rintro e w1 ⟨rfl, hb1⟩
      go_wp2
      go_ret
      rw [HR.out]; exact RRes.same H.out hb1 _
  · have hn0 : decide (n < 0) = false := decide_eq_false h0
    obtain ⟨m, rfl⟩ : ∃ m : Nat, n = (m : Int) := ⟨n.toNat, by omega⟩
    rcases find_cases hf.rise s.data.toList with ⟨hm, e2, e1⟩ | ⟨hm, hn, hi, e2, e1⟩ | ⟨hm, k, hk, hp, hnm, hn, hi, e2, e1⟩
    · have HR := Lib.hid (show r = (2, S, pl R) by rw [← hr]; unfold cutS; rw [if_neg (fun h => absurd h.1 (by rw [hm]; simp))])
      have H := Lib.hid h
      rw [e1, e2] at hfi
      have HFI := Lib.hid hfi
      clear h hf hm hr e1 e2 h0 hfi
      go_enter Try.func43, Try.ntmps43
      go_wp2_with fail
      refine HFI.out.mono ?_
      rintro e w1 ⟨rfl, hb1⟩
      go_wp2
      go_ret
      rw [HR.out]; exact RRes.same H.out hb1 _
    · have HR := Lib.hid (show r = (6, S, pl R) by rw [← hr]; unfold cutS; rw [if_pos ⟨hm, by omega⟩, hn])
      have H := Lib.hid h
      rw [e1, e2] at hfi
      have HFI := Lib.hid hfi
      clear h hf hm hr e1 e2 hn hi h0 hfi
      go_enter Try.func43, Try.ntmps43
      go_wp2_with fail
      refine HFI.out.mono ?_
      rintro e w1 ⟨rfl, hb1⟩
      go_wp2
      go_ret
      rw [HR.out]; exact RRes.same H.out hb1 _
    · have hr2 : r = if (R[k].bs.length : Int) < (m : Int) then (2, S, pl R) else writeS S (setP (pl R) (R[k].nm, R[k].bs.take m, min R[k].la m)) (pl R) (pl R) := by rw [← hr]; unfold cutS; rw [if_pos ⟨hm, by omega⟩, hn]; rfl
      rw [e1, e2] at hfi
      have HFI := Lib.hid hfi
      obtain ⟨g, c, rfl, hc1, hc2, _, _⟩ := h.row.form (by omega)
      obtain ⟨A1, c1, eV, hbc, z0, z1, z2, z3, zf⟩ := h.fileAt hk
      have hkI : (k : Int) < (R.length : Int) := by omega
      have hk0 : (0 : Int) ≤ (k : Int) := by omega
      have h64 : (k : Int) < 64 := by omega
      have H := Lib.hid h
      have HF := Lib.hid hf
      have HI := Lib.hid (And.intro hi (And.intro hp (And.intro hnm hn)))
      have HZ := Lib.hid (show ∀ X, Below w.heap.size w X → X.cell? ⟨q, 0, none⟩ = some (.slice (some ⟨g, 0, none⟩) R.length c) ∧ X.cell? ⟨g, k * 3 + 1, none⟩ = some (.slice A1 R[k].bs.length c1) from fun X hX => ⟨(hX.cell (World.block_lt_of_cell? _ _ z0)).trans z0, (hX.cell (World.block_lt_of_cell? _ _ z2)).trans z2⟩)
      by_cases hlt : (R[k].bs.length : Int) < (m : Int)
      · have hltN : R[k].bs.length < m := by omega
        have hd : decide (R[k].bs.length < m) = true := decide_eq_true hltN
        have HR := Lib.hid (show r = (2, S, pl R) by rw [hr2, if_pos hlt])
        clear h hf hm hr hr2 e1 e2 hi hp hnm hn hfi z0 z1 z2 z3 zf hlt h0
        go_enter Try.func43, Try.ntmps43
        go_wp2_with fail
        refine HFI.out.mono ?_
        rintro e w1 ⟨rfl, hb1⟩
        obtain ⟨y0, y1⟩ := HZ.out w1 hb1
        go_wp2
        go_ret
        rw [HR.out]; exact RRes.same H.out hb1 _
      · have hd : decide ((R[k].bs.length : Int) < (m : Int)) = false := decide_eq_false hlt
        have hmb : m ≤ R[k].bs.length := by omega
        have hmc : m ≤ c1 := by omega
        have HR := Lib.hid (show r = ((if wOk S = true then 0 else 8), wS S, if wOk S = true then setP (pl R) (R[k].nm, R[k].bs.take m, min R[k].la m) else if wLast S = true then pl R else pl R) by rw [← writeS_w, hr2, if_neg hlt])
        have EV := Lib.hid eV
        clear h hf hm hr hr2 e1 e2 hi hp hnm hn hfi z0 z1 z2 z3 zf hlt h0 eV
        go_enter Try.func43, Try.ntmps43
        go_wp2_with fail
        refine HFI.out.mono ?_
        rintro e w1 ⟨rfl, hb1⟩
        obtain ⟨y0, y1⟩ := HZ.out w1 hb1
        have HB1 := Lib.hid hb1
        clear HFI hb1
        have hwr := write_ref (H.out.below HB1.out) HF.out
        cases hwo : wOk S with
        | true =>
          rw [hwo] at hwr HR
          rw [if_pos rfl, if_pos rfl] at HR
          have HWR := Lib.hid hwr
          clear hwr hwo
          go_wp2_with fail
          refine HWR.out.mono ?_
          rintro e w2 ⟨rfl, h2, k2⟩
          have H2 := Lib.hid h2
          have HK2 := Lib.hid k2
          have HB2 := Lib.hid (show Below w2.heap.size w2 w2.drew from (Below.refl _ _).drew)
          obtain ⟨A1, c1, e1, hb1, x0, x1, x2, x3, xf⟩ := (h2.below HB2.out).fileAt hk
          obtain ⟨rfl, rfl⟩ : A1 = _ ∧ c1 = _ := by have e := EV.out; rw [e1] at e; injection e with a1 a2 a3; exact ⟨a1, a3⟩
          have HC := Lib.hid (show ∀ X, Below w2.drew.heap.size w2.drew X → X.cell? ⟨q, 0, none⟩ = some (.slice (some ⟨g, 0, none⟩) R.length c) ∧ X.cell? ⟨g, k * 3 + 1, none⟩ = some (.slice A1 R[k].bs.length c1) from fun X hX => ⟨(hX.cell (World.block_lt_of_cell? _ _ x0)).trans x0, (hX.cell (World.block_lt_of_cell? _ _ x2)).trans x2⟩)
          have X2 := Lib.hid (And.intro x0 (And.intro x2 (And.intro x3 xf)))
          clear h2 k2 HWR x0 x1 x2 x3 xf y0 y1
          go_wp2_with fail
          refine tail_begin 17 (S := fun X => Below w2.drew.heap.size w2.drew X) hfo (by kernel_rfl) (Below.refl _ _) (fun hS0 => ?_)
          refine' tail_take (i := 0) (oi := ⟨some 49, _, _, _, _, _⟩) (v := _) rfl (by kernel_rfl) (by kernel_rfl) (by decide) (fun _ _ _ h => h) (Or.inl ⟨by rfl, ?y0⟩) hS0 ?r0
          case y0 => (intro w' hSw; obtain ⟨s0, s1⟩ := HC.out w' hSw; go_simp; try rfl)
          try simp only [Act.put, List.setIfInBounds_toArray, List.set_cons_zero, List.set_cons_succ]
          refine' tail_take (i := 1) (oi := ⟨some 50, _, _, _, _, _⟩) (v := _) rfl (by kernel_rfl) (by kernel_rfl) (by decide) (fun _ _ _ h => h) (Or.inl ⟨by rfl, ?y1⟩) hS0 ?r1
          case y1 => (intro w' hSw; obtain ⟨s0, s1⟩ := HC.out w' hSw; go_simp; try rfl)
          try simp only [Act.put, List.setIfInBounds_toArray, List.set_cons_zero, List.set_cons_succ]
          refine' tail_take (i := 2) (oi := ⟨some 51, _, _, _, _, _⟩) (v := _) rfl (by kernel_rfl) (by kernel_rfl) (by decide) (fun _ _ _ h => h) (Or.inl ⟨by rfl, ?y2⟩) hS0 ?r2
          case y2 => (intro w' hSw; obtain ⟨s0, s1⟩ := HC.out w' hSw; go_simp; try rfl)
          try simp only [Act.put, List.setIfInBounds_toArray, List.set_cons_zero, List.set_cons_succ]
          refine' tail_take (i := 3) (oi := ⟨some 52, _, _, _, _, _⟩) (v := _) rfl (by kernel_rfl) (by kernel_rfl) (by decide) (fun _ _ _ h => h) (Or.inl ⟨by rfl, ?y3⟩) hS0 ?r3
          case y3 => (intro w' hSw; obtain ⟨s0, s1⟩ := HC.out w' hSw; go_simp; try rfl)
          try simp only [Act.put, List.setIfInBounds_toArray, List.set_cons_zero, List.set_cons_succ]
          refine' tail_take (i := 4) (oi := ⟨some 53, _, _, _, _, _⟩) (v := _) rfl (by kernel_rfl) (by kernel_rfl) (by decide) (fun _ _ _ h => h) (Or.inl ⟨by rfl, ?y4⟩) hS0 ?r4
          case y4 => (intro w' hSw; obtain ⟨s0, s1⟩ := HC.out w' hSw; go_simp; try rfl)
          try simp only [Act.put, List.setIfInBounds_toArray, List.set_cons_zero, List.set_cons_succ]
          refine' tail_take (i := 5) (oi := ⟨some 54, _, _, _, _, _⟩) (v := _) rfl (by kernel_rfl) (by kernel_rfl) (by decide) (fun _ _ _ h => h) (Or.inl ⟨by rfl, ?y5⟩) hS0 ?r5
          case y5 => (intro w' hSw; obtain ⟨s0, s1⟩ := HC.out w' hSw; go_simp; try rfl)
          try simp only [Act.put, List.setIfInBounds_toArray, List.set_cons_zero, List.set_cons_succ]
          refine' tail_take (i := 6) (oi := ⟨some 55, _, _, _, _, _⟩) (v := _) rfl (by kernel_rfl) (by kernel_rfl) (by decide) (fun _ _ _ h => h) (Or.inl ⟨by rfl, ?y6⟩) hS0 ?r6
          case y6 => (intro w' hSw; obtain ⟨s0, s1⟩ := HC.out w' hSw; go_simp; try rfl)
          try simp only [Act.put, List.setIfInBounds_toArray, List.set_cons_zero, List.set_cons_succ]
          refine' tail_take (i := 7) (oi := ⟨some 56, _, _, _, _, _⟩) (v := _) rfl (by kernel_rfl) (by kernel_rfl) (by decide) (fun _ _ _ h => h) (Or.inl ⟨by rfl, ?y7⟩) hS0 ?r7
          case y7 => (intro w' hSw; obtain ⟨s0, s1⟩ := HC.out w' hSw; go_simp; try rfl)
          try simp only [Act.put, List.setIfInBounds_toArray, List.set_cons_zero, List.set_cons_succ]
          refine' tail_take (i := 8) (oi := ⟨some 57, _, _, _, _, _⟩) (v := _) rfl (by kernel_rfl) (by kernel_rfl) (by decide) (fun _ _ _ h => h) (Or.inl ⟨by rfl, ?y8⟩) hS0 ?r8
          case y8 => (intro w' hSw; obtain ⟨s0, s1⟩ := HC.out w' hSw; go_simp; try rfl)
          try simp only [Act.put, List.setIfInBounds_toArray, List.set_cons_zero, List.set_cons_succ]
          refine' tail_take (i := 9) (oi := ⟨some 58, _, _, _, _, _⟩) (v := _) rfl (by kernel_rfl) (by kernel_rfl) (by decide) (fun _ _ _ h => h) (Or.inl ⟨by rfl, ?y9⟩) hS0 ?r9
          case y9 => (intro w' hSw; obtain ⟨s0, s1⟩ := HC.out w' hSw; go_simp; try rfl)
          try simp only [Act.put, List.setIfInBounds_toArray, List.set_cons_zero, List.set_cons_succ]
          refine' tail_take (i := 10) (oi := ⟨some 59, _, _, _, _, _⟩) (v := _) rfl (by kernel_rfl) (by kernel_rfl) (by decide) (fun _ _ _ h => h) (Or.inl ⟨by rfl, ?y10⟩) hS0 ?r10
          case y10 => (intro w' hSw; obtain ⟨s0, s1⟩ := HC.out w' hSw; go_simp; try rfl)
          try simp only [Act.put, List.setIfInBounds_toArray, List.set_cons_zero, List.set_cons_succ]
          refine' tail_take (i := 11) (oi := ⟨some 60, _, _, _, _, _⟩) (v := _) rfl (by kernel_rfl) (by kernel_rfl) (by decide) (fun _ _ _ h => h) (Or.inl ⟨by rfl, ?y11⟩) hS0 ?r11
          case y11 => (intro w' hSw; obtain ⟨s0, s1⟩ := HC.out w' hSw; go_simp; try rfl)
          try simp only [Act.put, List.setIfInBounds_toArray, List.set_cons_zero, List.set_cons_succ]
          refine' tail_take (i := 12) (oi := ⟨some 61, _, _, _, _, _⟩) (v := _) rfl (by kernel_rfl) (by kernel_rfl) (by decide) (fun _ _ _ h => h) (Or.inl ⟨by rfl, ?y12⟩) hS0 ?r12
          case y12 => (intro w' hSw; obtain ⟨s0, s1⟩ := HC.out w' hSw; go_simp; try rfl)
          try simp only [Act.put, List.setIfInBounds_toArray, List.set_cons_zero, List.set_cons_succ]
          refine' tail_take (i := 13) (oi := ⟨some 62, _, _, _, _, _⟩) (v := _) rfl (by kernel_rfl) (by kernel_rfl) (by decide) (fun _ _ _ h => h) (Or.inl ⟨by rfl, ?y13⟩) hS0 ?r13
          case y13 => (intro w' hSw; obtain ⟨s0, s1⟩ := HC.out w' hSw; go_simp; try rfl)
          try simp only [Act.put, List.setIfInBounds_toArray, List.set_cons_zero, List.set_cons_succ]
          refine' tail_take (i := 14) (oi := ⟨some 63, _, _, _, _, _⟩) (v := _) rfl (by kernel_rfl) (by kernel_rfl) (by decide) (fun _ _ _ h => h) (Or.inl ⟨by rfl, ?y14⟩) hS0 ?r14
          case y14 => (intro w' hSw; obtain ⟨s0, s1⟩ := HC.out w' hSw; go_simp; try rfl)
          try simp only [Act.put, List.setIfInBounds_toArray, List.set_cons_zero, List.set_cons_succ]
          refine' tail_take (i := 15) (oi := ⟨some 64, _, _, _, _, _⟩) (v := _) rfl (by kernel_rfl) (by kernel_rfl) (by decide) (fun _ _ _ h => h) (Or.inl ⟨by rfl, ?y15⟩) hS0 ?r15
          case y15 => (intro w' hSw; obtain ⟨s0, s1⟩ := HC.out w' hSw; go_simp; try rfl)
          try simp only [Act.put, List.setIfInBounds_toArray, List.set_cons_zero, List.set_cons_succ]
          refine' tail_take (i := 16) (oi := ⟨some 65, _, _, _, _, _⟩) (v := _) rfl (by kernel_rfl) (by kernel_rfl) (by decide) (fun _ _ _ h => h) (Or.inl ⟨by rfl, ?y16⟩) hS0 ?r16
          case y16 => (intro w' hSw; obtain ⟨s0, s1⟩ := HC.out w' hSw; go_simp; try rfl)
          try simp only [Act.put, List.setIfInBounds_toArray, List.set_cons_zero, List.set_cons_succ]
          have xf1 := X2.out.2.2.2 (k * 3 + 1)
          have x2 := X2.out.2.1
          have hF3 := Rd.set1 (H2.out.below HB2.out) hk ⟨R[k].nm, R[k].bs.take m, R[k].la, .slice A1 m c1⟩ rfl rfl (by have := (H2.out.below HB2.out).byt _ (List.getElem_mem hk); rw [EV.out] at this; exact this.front m hmb)
          have hk3 := trans_q (trans_q (trans_q (Keep.of_below (S := fun i => i = q ∨ g = i) HB1.out) (HK2.out.mono (fun i hi => .inl hi))) (Keep.of_below (S := fun i => i = q ∨ g = i) HB2.out)) (Keep.setCell (S := fun i => i = q ∨ g = i) w2.drew ⟨g, k * 3 + 1, none⟩ (.slice A1 m c1) (.inr rfl))
          refine tail_last (by kernel_rfl) rfl (by kernel_rfl) (fun K hK => ?_)
          go_simp
          refine hK.out _ _ ?_
          clear hK K
          try simp only [Act.put, List.setIfInBounds_toArray, List.set_cons_zero, List.set_cons_succ]
          clear xf1 x2 HC
          simp only [] at hF3
          obtain ⟨W3, hW3⟩ : ∃ W3, W3 = (w2.setCell ⟨g, k * 3 + 1, none⟩ (.slice A1 m c1)).drew := ⟨_, rfl⟩
          rw [← hW3]
          have eW : w2.drew.setCell ⟨g, k * 3 + 1, none⟩ (.slice A1 m c1) = W3 := hW3.symm
          rw [eW] at hF3 hk3
          have y0 : W3.cell? ⟨q, 0, none⟩ = some (.slice (some ⟨g, 0, none⟩) R.length c) := hF3.c0
          obtain ⟨A3, c3, e3, hb3, u0, u1, u2, u3, uf⟩ := hF3.fileAt (k := k) (by rw [List.length_set]; exact hk)
          have y3 : W3.cell? ⟨g, k * 3 + 2, none⟩ = some (.int .i64 (R[k].la : Int)) := by rw [u3, List.getElem_set_self]
          have y4 := uf (k * 3 + 2)
          have HF3 := Lib.hid hF3
          have HK3 := Lib.hid hk3
          clear hF3 hk3 eW hW3 u0 u1 u2 u3 uf
          by_cases hla : m < R[k].la
          · have hd2 : decide (m < R[k].la) = true := decide_eq_true hla
            have HF4 := Lib.hid (Rd.set2 HF3.out (k := k) (by rw [List.length_set]; exact hk) ⟨R[k].nm, R[k].bs.take m, m, .slice A1 m c1⟩ (by rw [List.getElem_set_self]) (by rw [List.getElem_set_self]) (by rw [List.getElem_set_self]))
            have HK4 := Lib.hid (trans_q HK3.out (Keep.setCell (S := fun i => i = q ∨ g = i) W3 ⟨g, k * 3 + 2, none⟩ (.int .i64 (m : Int)) (.inr rfl)))
            have HMIN := Lib.hid (show min R[k].la m = m by omega)
            go_wp2_with fail
            refine (done_ref _ _).mono ?_
            rintro e wd ⟨rfl, rfl⟩
            go_wp2
            go_ret
            rw [HR.out]
            refine ⟨_, _, rfl, HF4.out, ?_, HK4.out.mono (fun i hi => hi.imp id (fun e => by subst e; rfl)), ?_⟩
            · rw [List.set_set, pl_set, HMIN.out, set_pos HF.out.rise _ (by show isP _ R[k].nm = true; rw [HI.out.2.2.1]; exact HI.out.1)]
              show _ = (pl R).set (posP (pl R) R[k].nm) _
              rw [HI.out.2.2.1, HI.out.2.1]
              rfl
            · rw [List.set_set]
              exact RFoot.set hk (fun i hi => .inl (by rw [EV.out]; exact (own_block_front A1 m R[k].bs.length c1 c1).trans hi))
          · have hd2 : decide (m < R[k].la) = false := decide_eq_false hla
            have HMIN := Lib.hid (show min R[k].la m = R[k].la by omega)
            go_wp2_with fail
            refine (done_ref _ _).mono ?_
            rintro e wd ⟨rfl, rfl⟩
            go_wp2
            go_ret
            rw [HR.out]
            refine ⟨_, _, rfl, HF3.out, ?_, HK3.out.mono (fun i hi => hi.imp id (fun e => by subst e; rfl)), ?_⟩
            · rw [pl_set, HMIN.out, set_pos HF.out.rise _ (by show isP _ R[k].nm = true; rw [HI.out.2.2.1]; exact HI.out.1)]
              show _ = (pl R).set (posP (pl R) R[k].nm) _
              rw [HI.out.2.2.1, HI.out.2.1]
              rfl
            · exact RFoot.set hk (fun i hi => .inl (by rw [EV.out]; exact (own_block_front A1 m R[k].bs.length c1 c1).trans hi))
        | false =>
          rw [hwo] at hwr HR
          have HWR := Lib.hid hwr
          clear hwr hwo
          go_wp2_with fail
          refine HWR.out.mono ?_
          rintro e w2 ⟨rfl, h2, k2⟩
          have H2 := Lib.hid h2
          have HK2 := Lib.hid ((Keep.of_below (S := fun i => i = q) HB1.out).trans k2 (fun _ h => h) (fun _ _ h => h))
          clear h2 k2 y0 y1
          go_wp2_with fail
          refine (done_ref _ _).mono ?_
          rintro e wd ⟨rfl, rfl⟩
          go_wp2
          go_ret
          rw [HR.out]
          simp only [Bool.false_eq_true, if_false, ite_self]
          exact RRes.num H2.out HK2.out 8
set_option maxHeartbeats 4000000 in
theorem remove_ref (h : Rd w q v S R) (hf : Fit S (pl R)) (s : ByteArray) {r : Int × Ds × List Fp} (hr : removeS S (pl R) s.data.toList = r) :
    Calls Try.prog 45 #[.pointer (some ⟨q, 0, none⟩), .string s] w (RRes w q v R r) := by
  have hfo : Try.prog.follows .mixedOrders = true := by kernel_rfl
  have hl : R.length ≤ 64 := by have := hf.few; rw [pl_len] at this; exact this
  have hfi := find_ref h hl s
  rcases find_cases hf.rise s.data.toList with ⟨hm, e2, e1⟩ | ⟨hm, hn, hi, e2, e1⟩ | ⟨hm, k, hk, hp, hnm, hn, hi, e2, e1⟩
  · have HR := Lib.hid (show r = (2, S, pl R) by rw [← hr]; unfold removeS; rw [if_neg (by rw [hm]; simp)])
    have H := Lib.hid h
    rw [e1, e2] at hfi
    have HFI := Lib.hid hfi
    clear h hf hm hr e1 e2 hfi
    go_enter Try.func45, Try.ntmps45
    go_wp2_with fail
    refine HFI.out.mono ?_
    rintro e w1 ⟨rfl, hb1⟩
    go_wp2
    go_ret
    rw [HR.out]; exact RRes.same H.out hb1 _
  · have HR := Lib.hid (show r = (6, S, pl R) by rw [← hr]; unfold removeS; rw [if_pos hm, hn])
    have H := Lib.hid h
    rw [e1, e2] at hfi
    have HFI := Lib.hid hfi
    clear h hf hm hr e1 e2 hn hi hfi
    go_enter Try.func45, Try.ntmps45
    go_wp2_with fail
    refine HFI.out.mono ?_
    rintro e w1 ⟨rfl, hb1⟩
    go_wp2
    go_ret
    rw [HR.out]; exact RRes.same H.out hb1 _
  · have HR := Lib.hid (show r = ((if wOk S = true then 0 else 8), wS S, if wOk S = true then delP (pl R) s.data.toList else if wLast S = true then pl R else pl R) by rw [← hr, ← writeS_w]; unfold removeS; rw [if_pos hm, hn])
    rw [e1, e2] at hfi
    have HFI := Lib.hid hfi
    have H := Lib.hid h
    have HF := Lib.hid hf
    have HI := Lib.hid (And.intro hi (And.intro hp (And.intro hnm hn)))
    have HDR := Lib.hid (fun W (S2 : Ds) (hW : Rd W q v S2 R) => drop_ref hW hl k hk)
    clear h hf hm hr e1 e2 hi hp hnm hn hfi
    go_enter Try.func45, Try.ntmps45
    go_wp2_with fail
    refine HFI.out.mono ?_
    rintro e w1 ⟨rfl, hb1⟩
    have HB1 := Lib.hid hb1
    clear HFI hb1
    have hwr := write_ref (H.out.below HB1.out) HF.out
    cases hwo : wOk S with
    | true =>
      rw [hwo] at hwr HR
      rw [if_pos rfl, if_pos rfl] at HR
      have HWR := Lib.hid hwr
      clear hwr hwo
      go_wp2_with fail
      refine HWR.out.mono ?_
      rintro e w2 ⟨rfl, h2, k2⟩
      have H2 := Lib.hid h2
      have HK2 := Lib.hid k2
      clear h2 k2
      go_wp2_with fail
      refine (HDR.out w2 _ H2.out).mono ?_
      rintro e w3 ⟨rfl, v3, h3, k3, hv3⟩
      have H3 := Lib.hid h3
      have HK3 := Lib.hid (trans_q (trans_q (Keep.of_below (S := fun i => i = q) HB1.out) HK2.out) k3)
      have HV3 := Lib.hid (show ∀ i, v3.ownBlock = some i → w.heap.size ≤ i from fun i hi => by have := hv3 i hi; have := HB1.out.size; have := HK2.out.size; omega)
      clear h3 k3 hv3
      go_wp2_with fail
      refine (done_ref _ _).mono ?_
      rintro e wd ⟨rfl, rfl⟩
      go_wp2
      go_ret
      rw [HR.out]
      refine ⟨_, _, rfl, H3.out, ?_, HK3.out.mono (fun i hi => .inl hi), RFoot.sub HV3.out (fun f hf => ?_)⟩
      · show _ = delP (pl R) s.data.toList
        rw [del_pos HF.out.rise _ HI.out.1, HI.out.2.1, pl_app, pl_take, pl_drop]
      · rcases List.mem_append.1 hf with h | h
        · exact List.mem_of_mem_take h
        · exact List.mem_of_mem_drop h
    | false =>
      rw [hwo] at hwr HR
      have HWR := Lib.hid hwr
      clear hwr hwo
      go_wp2_with fail
      refine HWR.out.mono ?_
      rintro e w2 ⟨rfl, h2, k2⟩
      have H2 := Lib.hid h2
      have HK2 := Lib.hid ((Keep.of_below (S := fun i => i = q) HB1.out).trans k2 (fun _ h => h) (fun _ _ h => h))
      clear h2 k2
      go_wp2_with fail
      refine (done_ref _ _).mono ?_
      rintro e wd ⟨rfl, rfl⟩
      go_wp2
      go_ret
      rw [HR.out]
      simp only [Bool.false_eq_true, if_false, ite_self]
      exact RRes.num H2.out HK2.out 8
end
end Go.Proofs.Ytdbkhigocjmfoaa

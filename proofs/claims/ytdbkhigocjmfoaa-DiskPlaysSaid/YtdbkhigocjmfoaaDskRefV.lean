/-
  The document's Append of a file that is not there.
-/
import Derived.Test.YtdbkhigocjmfoaaDskRefU
namespace Go.Proofs.Ytdbkhigocjmfoaa
open Go.RowKit
open DskM
set_option linter.unusedVariables false
set_option linter.unusedSimpArgs false
set_option maxRecDepth 20000
attribute [local go_sem] Oper.semAt_some
section
variable {w w' : World} {q : Nat} {v : Value} {S : Ds} {R : List Fr}
/-- Written behind what was there. -/
theorem keep_fresh {T : Nat → Prop} {a b : World} {g : Nat} (h : Keep T a b) (hg : a.heap.size ≤ g) (j : Nat) (u : Value) : Keep T a (b.setCell ⟨g, j, none⟩ u) :=
  h.trans (Keep.setCell (S := fun i => i = g) b ⟨g, j, none⟩ u rfl) (fun _ h => h) (fun i hi e => by have e : i = g := e; omega)
set_option maxHeartbeats 8000000 in
theorem refApp_new (h : Rd w q v S R) (hf : Fit S (pl R)) (s : ByteArray) (bv : Value) (b : List UInt8) (hs : Sl w bv b) (hm : mayB s.data.toList = true) (hi : isP (pl R) s.data.toList = false) (hno : ¬ S.cap < totalP (pl R) + b.length) (h64 : R.length ≠ 64) {r : Int × Ds × List Fp} (hr : appendS S (pl R) s.data.toList b = r) :
    Calls Try.prog 41 #[.pointer (some ⟨q, 0, none⟩), .string s, bv] w (RRes w q v R r) := by
  have hfo : Try.prog.follows .mixedOrders = true := by kernel_rfl
  have hl : R.length ≤ 64 := by have := hf.few; rw [pl_len] at this; exact this
  obtain ⟨i0b, hib, hz0b, hz1b, hz2b⟩ := info_parts info_u8
  obtain ⟨i0, hif, hz0, hz1, hz2⟩ := info_file'
  obtain ⟨A2, c2, hbv, hbc, _⟩ := id hs
  have hm2 := refMay_any s w
  rw [hm] at hm2
  have HM := Lib.hid hm2
  have H := Lib.hid h
  have HF := Lib.hid hf
  have HS := Lib.hid hs
  have HL := Lib.hid hl
  obtain ⟨k, hk⟩ : ∃ k, posP (pl R) s.data.toList = k := ⟨_, rfl⟩
  have HK := Lib.hid hk
  have HI := Lib.hid hi
  have HAT := Lib.hid (show ∀ W, Below w.heap.size w W → Calls Try.prog 59 #[.pointer (some ⟨q, 0, none⟩), .string s] W fun e w' => e = .returned (.tuple #[.int .i64 (k : Int), .bool false]) ∧ Below W.heap.size W w' from fun W hW => by have := at_any (h.below hW) hl s; rw [hk, hi] at this; exact this)
  obtain ⟨ro, hro⟩ : ∃ ro : Int, ro = (S.cap : Int) - (totalP (pl R) : Int) := ⟨_, rfl⟩
  have HRO := Lib.hid hro
  have HRM := Lib.hid (show ∀ W, Below w.heap.size w W → Calls Try.prog 36 #[.pointer (some ⟨q, 0, none⟩)] W fun e w' => e = .returned (.int .i64 ro) ∧ Below W.heap.size W w' from fun W hW => by rw [hro]; exact room_ref (h.below hW) hl hf.cap hf.room)
  obtain ⟨A, cA, hv, hc1, hc2⟩ := h.row.shape
  have HC0 := Lib.hid (show ∀ W, Below w.heap.size w W → W.cell? ⟨q, 0, none⟩ = some (.slice A R.length cA) from fun W hW => by have := (h.below hW).c0; rw [hv] at this; exact this)
  have HR := Lib.hid (show r = ((if wOk S = true then 0 else 8), wS S, if wOk S = true then addP (pl R) s.data.toList b else if wLast S = true then addP (pl R) s.data.toList b else pl R) by
    rw [← hr, ← writeS_w]; unfold appendS; rw [if_pos hm, if_neg (fun e => e.elim hno (fun e => h64 (by rw [← pl_len]; exact e.2)))])
  have HKS := Lib.hid (fun W (hk : Keep (fun i => i = q) w W) => h.slq hs hk)
  have hkl : k ≤ R.length := by have := posP_le (pl R) s.data.toList; rw [hk, pl_len] at this; exact this
  have HKL := Lib.hid hkl
  obtain ⟨fr, hfr⟩ : ∃ fr : Fr, fr = ⟨s.data.toList, [], 0, .slice none 0 0⟩ := ⟨_, rfl⟩
  have HFR := Lib.hid hfr
  have hone1 : ∀ f ∈ [fr], f.v.oneCell' = true := by
    intro f hf
    have e : f = fr := by simpa using hf
    rw [e, hfr]
    rfl
  have HONEF := Lib.hid hone1
  clear hone1
  obtain ⟨RR, hRR⟩ : ∃ RR, RR = R.take k ++ [fr] ++ R.drop k := ⟨_, rfl⟩
  have HRR := Lib.hid hRR
  have htk : (R.take k).length = k := by rw [List.length_take]; omega
  have hRl : RR.length = R.length + 1 := by rw [hRR]; simp; omega
  have HKK := Lib.hid (show k < RR.length by omega)
  obtain ⟨nn, hnn⟩ : ∃ nn, nn = RR.length := ⟨_, rfl⟩
  have HNN := Lib.hid hnn
  have hgm : RR[k]'(HKK.out) = fr := by subst hRR; exact get_mid _ _ _ htk _
  have HG0 := Lib.hid hgm
  have HF0 := Lib.hid (show fr ∈ RR by rw [hRR]; simp)
  obtain ⟨bl, hbl⟩ : ∃ bl, bl = (RR[k]'(HKK.out)).bs.length := ⟨_, rfl⟩
  have HBL := Lib.hid hbl
  have HLN := Lib.hid (show fr.bs.length + b.length ≤ 1000000000 by have := hf.cap; rw [hfr]; simp; omega)
  have HSZR := Lib.hid (show (R.take k).length + 1 ≤ 65 ∧ (R.take k).length + 1 + (R.drop k).length ≤ 65 by rw [List.length_drop]; omega)
  have hkI : (k : Int) < (nn : Int) := by omega
  have hk0 : (0 : Int) ≤ (k : Int) := by omega
  have h64k : (k : Int) ≤ 64 := by omega
  have hkc : k ≤ cA := by omega
  have hklI : (k : Int) ≤ (R.length : Int) := by omega
  have HPL := Lib.hid (show pl (RR.set k ⟨fr.nm, fr.bs ++ b, fr.la, .nilFunc⟩) = addP (pl R) s.data.toList b by
    rw [addP_new hf.rise _ b hi hk, hRR, set_mid _ _ _ _ htk, pl_app, pl_app, pl_take, pl_drop, hfr]; rfl)
  have hd : decide (ro < (b.length : Int)) = false := decide_eq_false (by omega)
  have hd64 : decide (64 ≤ R.length) = false := decide_eq_false (by omega)
  have h64N : ¬ 64 ≤ R.length := by omega
  have h64I : ¬ (64 : Int) ≤ (R.length : Int) := by omega
  have HV := Lib.hid hv
  have HONE := Lib.hid h.one
  subst hbv
  clear h hf hs hm hm2 hr hro hno hk hi hc1 hl hbc hbl hfr hnn hkl hRR htk hRl hgm h64 hv
  go_enter Try.func41, Try.ntmps41
  go_wp2_with fail
  refine HM.out.mono ?_
  rintro e w1 ⟨rfl, hb1⟩
  have HB1 := Lib.hid hb1
  clear HM hb1
  go_wp2_with fail
  refine (HAT.out w1 HB1.out).mono ?_
  rintro e w2 ⟨rfl, hb2⟩
  have HB2 := Lib.hid (HB1.out.trans (hb2.mono HB1.out.size))
  clear HB1 HAT hb2
  go_wp2_with fail
  refine (HRM.out w2 HB2.out).mono ?_
  rintro e w3 ⟨rfl, hb3⟩
  have HB3 := Lib.hid (HB2.out.trans (hb3.mono HB2.out.size))
  clear HB2 HRM hb3
  have z0 := HC0.out w3 HB3.out
  have hwr := write_ref (H.out.below HB3.out) HF.out
  cases hwo : wOk S with
  | true =>
    rw [hwo] at hwr HR
    rw [if_pos rfl, if_pos rfl] at HR
    have HWR := Lib.hid hwr
    clear hwr hwo
    go_wp2_with fail
    refine HWR.out.mono ?_
    rintro e w4 ⟨rfl, h4, k4⟩
    have hb4 : Below w4.heap.size w4 w4.drew := (Below.refl _ _).drew
    have HD4 := Lib.hid (h4.below hb4)
    have HKW := Lib.hid (trans_q (trans_q (Keep.of_below (S := fun i => i = q ∨ v.ownBlock = some i) HB3.out) (k4.mono (fun i hi => .inl hi))) (Keep.of_below hb4))
    have HSZ4 := Lib.hid (show w.heap.size ≤ w4.drew.heap.size from Nat.le_trans HB3.out.size (Nat.le_trans k4.size hb4.size))
    have HSB4 := Lib.hid ((HKS.out w4 (trans_q (Keep.of_below (S := fun i => i = q) HB3.out) k4)).below hb4)
    have HC9 := Lib.hid (show ∀ X, Below w4.drew.heap.size w4.drew X → X.cell? ⟨q, 0, none⟩ = some (.slice A R.length cA) from fun X hX => by have := (HD4.out.below hX).c0; rw [HV.out] at this; exact this)
    clear h4 k4 hb4 z0 HWR HC0
    go_wp2_with fail
    refine tail_begin 21 (S := fun X => Below w4.drew.heap.size w4.drew X) hfo (by kernel_rfl) (Below.refl _ _) (fun hS0 => ?_)
    generalize w4.drew = W0 at hS0 HD4 HKW HSZ4 HSB4 HC9 ⊢
    refine' tail_take (i := 0) (oi := ⟨some 48, _, _, _, _, _⟩) (v := _) rfl (by kernel_rfl) (by kernel_rfl) (by decide) (fun _ _ _ h => h) (Or.inl ⟨by rfl, ?y0a⟩) hS0 ?r0a
    case y0a => (intro w' hSw; have s0 := HC9.out w' hSw; go_simp; try rfl)
    try simp only [Act.put, List.setIfInBounds_toArray, List.set_cons_zero, List.set_cons_succ]
    refine' tail_take (i := 1) (oi := ⟨some 49, _, _, _, _, _⟩) (v := _) rfl (by kernel_rfl) (by kernel_rfl) (by decide) (fun _ _ _ h => h) (Or.inl ⟨by rfl, ?y1a⟩) hS0 ?r1a
    case y1a => (intro w' hSw; have s0 := HC9.out w' hSw; go_simp; try rfl)
    try simp only [Act.put, List.setIfInBounds_toArray, List.set_cons_zero, List.set_cons_succ]
    refine' tail_take (i := 2) (oi := ⟨some 50, _, _, _, _, _⟩) (v := _) rfl (by kernel_rfl) (by kernel_rfl) (by decide) (fun _ _ _ h => h) (Or.inl ⟨by rfl, ?y2a⟩) hS0 ?r2a
    case y2a => (intro w' hSw; have s0 := HC9.out w' hSw; go_simp; try rfl)
    try simp only [Act.put, List.setIfInBounds_toArray, List.set_cons_zero, List.set_cons_succ]
    refine' tail_take (i := 3) (oi := ⟨some 51, _, _, _, _, _⟩) (v := _) rfl (by kernel_rfl) (by kernel_rfl) (by decide) (fun _ _ _ h => h) (Or.inl ⟨by rfl, ?y3a⟩) hS0 ?r3a
    case y3a => (intro w' hSw; have s0 := HC9.out w' hSw; go_simp; try rfl)
    try simp only [Act.put, List.setIfInBounds_toArray, List.set_cons_zero, List.set_cons_succ]
    refine' tail_take (i := 4) (oi := ⟨some 52, _, _, _, _, _⟩) (v := _) rfl (by kernel_rfl) (by kernel_rfl) (by decide) (fun _ _ _ h => h) (Or.inl ⟨by rfl, ?y4a⟩) hS0 ?r4a
    case y4a => (intro w' hSw; have s0 := HC9.out w' hSw; go_simp; try rfl)
    try simp only [Act.put, List.setIfInBounds_toArray, List.set_cons_zero, List.set_cons_succ]
    refine' tail_take (i := 5) (oi := ⟨some 53, _, _, _, _, _⟩) (v := _) rfl (by kernel_rfl) (by kernel_rfl) (by decide) (fun _ _ _ h => h) (Or.inl ⟨by rfl, ?y5a⟩) hS0 ?r5a
    case y5a => (intro w' hSw; have s0 := HC9.out w' hSw; go_simp; try rfl)
    try simp only [Act.put, List.setIfInBounds_toArray, List.set_cons_zero, List.set_cons_succ]
    refine' tail_take (i := 6) (oi := ⟨some 54, _, _, _, _, _⟩) (v := _) rfl (by kernel_rfl) (by kernel_rfl) (by decide) (fun _ _ _ h => h) (Or.inl ⟨by rfl, ?y6a⟩) hS0 ?r6a
    case y6a => (intro w' hSw; have s0 := HC9.out w' hSw; go_simp; try rfl)
    try simp only [Act.put, List.setIfInBounds_toArray, List.set_cons_zero, List.set_cons_succ]
    refine' tail_take (i := 8) (oi := ⟨some 56, _, _, _, _, _⟩) (v := _) rfl (by kernel_rfl) (by kernel_rfl) (by decide) (fun _ _ _ h => h) (Or.inl ⟨by rfl, ?y8a⟩) hS0 ?r8a
    case y8a => (intro w' hSw; have s0 := HC9.out w' hSw; go_simp; try rfl)
    try simp only [Act.put, List.setIfInBounds_toArray, List.set_cons_zero, List.set_cons_succ]
    refine' tail_take (i := 9) (oi := ⟨some 57, _, _, _, _, _⟩) (v := _) rfl (by kernel_rfl) (by kernel_rfl) (by decide) (fun _ _ _ h => h) (Or.inl ⟨by rfl, ?y9a⟩) hS0 ?r9a
    case y9a => (intro w' hSw; have s0 := HC9.out w' hSw; go_simp; try rfl)
    try simp only [Act.put, List.setIfInBounds_toArray, List.set_cons_zero, List.set_cons_succ]
    refine' tail_take (i := 12) (oi := ⟨some 60, _, _, _, _, _⟩) (v := _) rfl (by kernel_rfl) (by kernel_rfl) (by decide) (fun _ _ _ h => h) (Or.inl ⟨by rfl, ?y12a⟩) hS0 ?r12a
    case y12a => (intro w' hSw; have s0 := HC9.out w' hSw; go_simp; try rfl)
    try simp only [Act.put, List.setIfInBounds_toArray, List.set_cons_zero, List.set_cons_succ]
    refine' tail_take (i := 13) (oi := ⟨some 61, _, _, _, _, _⟩) (v := _) rfl (by kernel_rfl) (by kernel_rfl) (by decide) (fun _ _ _ h => h) (Or.inl ⟨by rfl, ?y13a⟩) hS0 ?r13a
    case y13a => (intro w' hSw; have s0 := HC9.out w' hSw; go_simp; try rfl)
    try simp only [Act.put, List.setIfInBounds_toArray, List.set_cons_zero, List.set_cons_succ]
    refine' tail_take (i := 14) (oi := ⟨some 62, _, _, _, _, _⟩) (v := _) rfl (by kernel_rfl) (by kernel_rfl) (by decide) (fun _ _ _ h => h) (Or.inl ⟨by rfl, ?y14a⟩) hS0 ?r14a
    case y14a => (intro w' hSw; have s0 := HC9.out w' hSw; go_simp; try rfl)
    try simp only [Act.put, List.setIfInBounds_toArray, List.set_cons_zero, List.set_cons_succ]
    refine' tail_take (i := 15) (oi := ⟨some 63, _, _, _, _, _⟩) (v := _) rfl (by kernel_rfl) (by kernel_rfl) (by decide) (fun _ _ _ h => h) (Or.inl ⟨by rfl, ?y15a⟩) hS0 ?r15a
    case y15a => (intro w' hSw; have s0 := HC9.out w' hSw; go_simp; try rfl)
    try simp only [Act.put, List.setIfInBounds_toArray, List.set_cons_zero, List.set_cons_succ]
    refine' tail_take (i := 16) (oi := ⟨some 64, _, _, _, _, _⟩) (v := _) rfl (by kernel_rfl) (by kernel_rfl) (by decide) (fun _ _ _ h => h) (Or.inl ⟨by rfl, ?y16a⟩) hS0 ?r16a
    case y16a => (intro w' hSw; have s0 := HC9.out w' hSw; go_simp; try rfl)
    try simp only [Act.put, List.setIfInBounds_toArray, List.set_cons_zero, List.set_cons_succ]
    refine' tail_take (i := 17) (oi := ⟨some 65, _, _, _, _, _⟩) (v := _) rfl (by kernel_rfl) (by kernel_rfl) (by decide) (fun _ _ _ h => h) (Or.inl ⟨by rfl, ?y17a⟩) hS0 ?r17a
    case y17a => (intro w' hSw; have s0 := HC9.out w' hSw; go_simp; try rfl)
    try simp only [Act.put, List.setIfInBounds_toArray, List.set_cons_zero, List.set_cons_succ]
    have slR : SlF W0 (.slice A R.length cA) R := by have := HD4.out.row.sl; rw [HV.out] at this; exact this
    have sl54 : SlF W0 (.slice A k cA) (R.take k) := slR.front k HKL.out
    have sl65 := slR.behind' k HKL.out
    generalize (if cA = k then A else A.map (·.add (k * 3))) = A65 at sl65 ⊢
    clear slR
    refine tail_two (i := 7) (j := 10) (by kernel_rfl) rfl rfl (by decide) (by decide) (fun K hK => ?_) (fun K hK => ?_)
    · refine step_append_files W0 rfl (.const (.slice none 0 0)) (.tmp 54) 31 rfl 0 i0 Try.underlying31 hif hz0 hz1 hz2 _ _ rfl OwnF.nil _ (R.take k) rfl sl54 (fun f hf => HONE.out f (List.mem_of_mem_take hf)) (by have := HSZR.out; simp only [List.length_nil]; omega) (Nat.zero_le _) ?_
      intro v6 W6 ho6 hgr6 hloc6
      rw [List.nil_append] at ho6
      have hS6 : Below W0.heap.size W0 W6 := (Below.refl _ _).grown hgr6 (Nat.le_refl _) (fun i hi => by cases hi)
      have hf6 : ∀ i, v6.ownBlock = some i → W0.heap.size ≤ i := fun i hi => by
        rcases hloc6 with e | e
        · rw [e] at hi; cases hi
        · rw [e] at hi; cases hi; exact Nat.le_refl _
      clear hgr6 hloc6 sl54
      refine hK.out _ _ hS6 (fun _ => ?_)
      clear hK K
      try simp only [Act.put, List.setIfInBounds_toArray, List.set_cons_zero, List.set_cons_succ]
      have hSc : Below W0.heap.size W0 (W6.alloc (.cells #[.string s, .slice none 0 0, .int .i64 0] 73)) := hS6.alloc hS6.size _
      have hs58 : SlF (W6.alloc (.cells #[.string s, .slice none 0 0, .int .i64 0] 73)) (.slice (some ⟨W6.heap.size, 0, none⟩) 1 1) [fr] := by rw [HFR.out]; exact SlF.one W6 s (.slice none 0 0) [] 0
      have HO6 := Lib.hid (ho6.alloc (.cells #[.string s, .slice none 0 0, .int .i64 0] 73))
      clear ho6
      refine tail_one (i := 10) (by kernel_rfl) rfl (by decide) (fun K hK => ?_)
      go_simp
      refine hK.out _ _ hSc (fun _ => ?_)
      clear hK K
      try simp only [Act.put, List.setIfInBounds_toArray, List.set_cons_zero, List.set_cons_succ]
      generalize hWc : W6.alloc (.cells #[.string s, .slice none 0 0, .int .i64 0] 73) = Wc at hSc hs58 HO6 ⊢
      clear hWc hS6
      refine tail_one (i := 11) (by kernel_rfl) rfl (by decide) (fun K hK => ?_)
      refine step_append_files Wc rfl (.tmp 55) (.tmp 58) 31 rfl 0 i0 Try.underlying31 hif hz0 hz1 hz2 _ _ rfl HO6.out _ [fr] rfl hs58 HONEF.out (by have := HSZR.out; simp only [List.length_singleton]; omega) (Nat.zero_le _) ?_
      intro v7 W7 ho7 hgr7 hloc7
      have hS7 : Below W0.heap.size W0 W7 := hSc.grown hgr7 hSc.size hf6
      have hf7 : ∀ i, v7.ownBlock = some i → W0.heap.size ≤ i := fun i hi => by
        rcases hloc7 with e | e
        · rw [e] at hi; exact hf6 i hi
        · rw [e] at hi; cases hi; exact hSc.size
      have HO7 := Lib.hid ho7
      clear hgr7 hloc7 ho7 HO6 hs58 hf6
      refine hK.out _ _ hS7 (fun _ => ?_)
      clear hK K
      try simp only [Act.put, List.setIfInBounds_toArray, List.set_cons_zero, List.set_cons_succ]
      refine tail_one (i := 18) (by kernel_rfl) rfl (by decide) (fun K hK => ?_)
      refine step_append_files W7 rfl (.tmp 59) (.tmp 65) 31 rfl 0 i0 Try.underlying31 hif hz0 hz1 hz2 _ _ rfl HO7.out _ (R.drop k) rfl (sl65.below hS7) (fun f hf => HONE.out f (List.mem_of_mem_drop hf)) (by have := HSZR.out; rw [List.length_append, List.length_singleton]; omega) (Nat.zero_le _) ?_
      intro v8 W8 ho8 hgr8 hloc8
      rw [← HRR.out] at ho8
      have hS8 : Below W0.heap.size W0 W8 := hS7.grown hgr8 hS7.size hf7
      have hf8 : ∀ i, v8.ownBlock = some i → W0.heap.size ≤ i := fun i hi => by
        rcases hloc8 with e | e
        · rw [e] at hi; exact hf7 i hi
        · rw [e] at hi; cases hi; exact hS7.size
      obtain ⟨g, c, hv8, _⟩ := ho8.form (by have := HKK.out; omega)
      rw [← HNN.out] at hv8
      subst hv8
      have HO8 := Lib.hid ho8
      have HF8 := Lib.hid hf8
      clear hgr8 hloc8 ho8 HO7 hf7 hf8
      refine hK.out _ _ hS8 (fun _ => ?_)
      clear hK K
      try simp only [Act.put, List.setIfInBounds_toArray, List.set_cons_zero, List.set_cons_succ]
      refine' tail_take (i := 19) (oi := ⟨some 67, _, _, _, _, _⟩) (v := _) rfl (by kernel_rfl) (by kernel_rfl) (by decide) (fun _ _ _ h => h) (Or.inl ⟨by rfl, ?y19aA⟩) hS8 ?r19aA
      case y19aA => (intro w' hSw; have s0 := HC9.out w' hSw; go_simp; try rfl)
      try simp only [Act.put, List.setIfInBounds_toArray, List.set_cons_zero, List.set_cons_succ]
      refine' tail_take (i := 20) (oi := ⟨some 68, _, _, _, _, _⟩) (v := _) rfl (by kernel_rfl) (by kernel_rfl) (by decide) (fun _ _ _ h => h) (Or.inl ⟨by rfl, ?y20aA⟩) hS8 ?r20aA
      case y20aA => (intro w' hSw; have s0 := HC9.out w' hSw; go_simp; try rfl)
      try simp only [Act.put, List.setIfInBounds_toArray, List.set_cons_zero, List.set_cons_succ]
      have hR8 := HD4.out.below hS8
      have fz := hR8.blk.frozen 0
      have fc := hR8.c0
      rw [HV.out] at fc
      have hk8 : Keep (fun i => i = q) W8 (W8.setCell ⟨q, 0, none⟩ (.slice (some ⟨g, 0, none⟩) nn c)) := Keep.setCell _ _ _ rfl
      have hfin8 : Rd (W8.setCell ⟨q, 0, none⟩ (.slice (some ⟨g, 0, none⟩) nn c)) q (.slice (some ⟨g, 0, none⟩) nn c) (wS S) RR := ⟨hR8.blk.set_ 0 _, HO8.out.kept hk8 (fun i hi e => by have := HF8.out i hi; have := HD4.out.blk.lt; omega), fun f hf => by
        rw [HRR.out] at hf
        rcases List.mem_append.1 hf with hf | hf
        · rcases List.mem_append.1 hf with hf | hf
          · exact (hR8.byt f (List.mem_of_mem_take hf)).kept hk8 (fun i hi e => (hR8.bytq (List.mem_of_mem_take hf) i hi).1 e)
          · obtain rfl : f = fr := by simpa using hf
            rw [HFR.out]; exact Own.nil
        · exact (hR8.byt f (List.mem_of_mem_drop hf)).kept hk8 (fun i hi e => (hR8.bytq (List.mem_of_mem_drop hf) i hi).1 e)⟩
      have hsl8 := hR8.slq (HSB4.out.below hS8) hk8
      have hks8 : Keep (fun i => i = q ∨ v.ownBlock = some i) w (W8.setCell ⟨q, 0, none⟩ (.slice (some ⟨g, 0, none⟩) nn c)) := trans_q (trans_q HKW.out (Keep.of_below hS8)) (hk8.mono (fun i hi => .inl hi))
      refine tail_last (by kernel_rfl) rfl (by kernel_rfl) (fun K hK => ?_)
      go_simp
      refine hK.out _ _ ?_
      clear hK K
      try simp only [Act.put, List.setIfInBounds_toArray, List.set_cons_zero, List.set_cons_succ]
      clear fz fc HC9
      obtain ⟨w5, hw5⟩ : ∃ w5, w5 = W8.setCell ⟨q, 0, none⟩ (.slice (some ⟨g, 0, none⟩) nn c) := ⟨_, rfl⟩
      have e5 : w5.heap.size = W8.heap.size := by rw [hw5]; simp
      have HSZ := Lib.hid (show w.heap.size ≤ w5.heap.size by have := HSZ4.out; have := hS8.size; omega)
      clear e5
      have HFG := Lib.hid (show ∀ i, (Value.slice (some ⟨g, 0, none⟩) nn c).ownBlock = some i → w.heap.size ≤ i from fun i hi => Nat.le_trans HSZ4.out (HF8.out i hi))
      rw [← hw5] at hfin8 hsl8 hks8
      rw [← hw5]
      have H5 := Lib.hid hfin8
      have HSB := Lib.hid hsl8
      have HK5 := Lib.hid hks8
      clear hfin8 hsl8 hks8 hR8 hk8 hw5 hS8 hS7 hSc
      obtain ⟨A1, c1, eV, hbV, x0, x1, x2, x3, xf⟩ := (H5.out.below (show Below w5.heap.size w5 w5.drew from (Below.refl _ _).drew)).fileAt HKK.out
      have HC := Lib.hid (show ∀ X, Below w5.drew.heap.size w5.drew X → X.cell? ⟨q, 0, none⟩ = some (.slice (some ⟨g, 0, none⟩) nn c) ∧ X.cell? ⟨g, k * 3 + 1, none⟩ = some (.slice A1 bl c1) from fun X hX => ⟨(hX.cell (World.block_lt_of_cell? _ _ x0)).trans (x0.trans (congrArg (fun z => some (Value.slice (some ⟨g, 0, none⟩) z c)) HNN.out.symm)), (hX.cell (World.block_lt_of_cell? _ _ x2)).trans (x2.trans (congrArg (fun z => some (Value.slice A1 z c1)) HBL.out.symm))⟩)
      have EV := Lib.hid (show fr.v = Value.slice A1 bl c1 from (congrArg Fr.v HG0.out.symm).trans (eV.trans (congrArg (fun z => Value.slice A1 z c1) HBL.out.symm)))
      have XF := Lib.hid xf
      clear x0 x1 x2 x3 xf eV hbV
      go_wp2_with fail
      refine tail_begin 18 (S := fun X => Below w5.drew.heap.size w5.drew X) hfo (by kernel_rfl) (Below.refl _ _) (fun hS0 => ?_)
      refine' tail_take (i := 0) (oi := ⟨some 69, _, _, _, _, _⟩) (v := _) rfl (by kernel_rfl) (by kernel_rfl) (by decide) (fun _ _ _ h => h) (Or.inl ⟨by rfl, ?y0aAz⟩) hS0 ?r0aAz
      case y0aAz => (intro w' hSw; obtain ⟨s0, s1⟩ := HC.out w' hSw; go_simp; try rfl)
      try simp only [Act.put, List.setIfInBounds_toArray, List.set_cons_zero, List.set_cons_succ]
      refine' tail_take (i := 1) (oi := ⟨some 70, _, _, _, _, _⟩) (v := _) rfl (by kernel_rfl) (by kernel_rfl) (by decide) (fun _ _ _ h => h) (Or.inl ⟨by rfl, ?y1aAz⟩) hS0 ?r1aAz
      case y1aAz => (intro w' hSw; obtain ⟨s0, s1⟩ := HC.out w' hSw; go_simp; try rfl)
      try simp only [Act.put, List.setIfInBounds_toArray, List.set_cons_zero, List.set_cons_succ]
      refine' tail_take (i := 2) (oi := ⟨some 71, _, _, _, _, _⟩) (v := _) rfl (by kernel_rfl) (by kernel_rfl) (by decide) (fun _ _ _ h => h) (Or.inl ⟨by rfl, ?y2aAz⟩) hS0 ?r2aAz
      case y2aAz => (intro w' hSw; obtain ⟨s0, s1⟩ := HC.out w' hSw; go_simp; try rfl)
      try simp only [Act.put, List.setIfInBounds_toArray, List.set_cons_zero, List.set_cons_succ]
      refine' tail_take (i := 3) (oi := ⟨some 72, _, _, _, _, _⟩) (v := _) rfl (by kernel_rfl) (by kernel_rfl) (by decide) (fun _ _ _ h => h) (Or.inl ⟨by rfl, ?y3aAz⟩) hS0 ?r3aAz
      case y3aAz => (intro w' hSw; obtain ⟨s0, s1⟩ := HC.out w' hSw; go_simp; try rfl)
      try simp only [Act.put, List.setIfInBounds_toArray, List.set_cons_zero, List.set_cons_succ]
      refine' tail_take (i := 4) (oi := ⟨some 73, _, _, _, _, _⟩) (v := _) rfl (by kernel_rfl) (by kernel_rfl) (by decide) (fun _ _ _ h => h) (Or.inl ⟨by rfl, ?y4aAz⟩) hS0 ?r4aAz
      case y4aAz => (intro w' hSw; obtain ⟨s0, s1⟩ := HC.out w' hSw; go_simp; try rfl)
      try simp only [Act.put, List.setIfInBounds_toArray, List.set_cons_zero, List.set_cons_succ]
      refine' tail_take (i := 5) (oi := ⟨some 74, _, _, _, _, _⟩) (v := _) rfl (by kernel_rfl) (by kernel_rfl) (by decide) (fun _ _ _ h => h) (Or.inl ⟨by rfl, ?y5aAz⟩) hS0 ?r5aAz
      case y5aAz => (intro w' hSw; obtain ⟨s0, s1⟩ := HC.out w' hSw; go_simp; try rfl)
      try simp only [Act.put, List.setIfInBounds_toArray, List.set_cons_zero, List.set_cons_succ]
      refine' tail_take (i := 6) (oi := ⟨some 75, _, _, _, _, _⟩) (v := _) rfl (by kernel_rfl) (by kernel_rfl) (by decide) (fun _ _ _ h => h) (Or.inl ⟨by rfl, ?y6aAz⟩) hS0 ?r6aAz
      case y6aAz => (intro w' hSw; obtain ⟨s0, s1⟩ := HC.out w' hSw; go_simp; try rfl)
      try simp only [Act.put, List.setIfInBounds_toArray, List.set_cons_zero, List.set_cons_succ]
      refine' tail_take (i := 7) (oi := ⟨some 76, _, _, _, _, _⟩) (v := _) rfl (by kernel_rfl) (by kernel_rfl) (by decide) (fun _ _ _ h => h) (Or.inl ⟨by rfl, ?y7aAz⟩) hS0 ?r7aAz
      case y7aAz => (intro w' hSw; obtain ⟨s0, s1⟩ := HC.out w' hSw; go_simp; try rfl)
      try simp only [Act.put, List.setIfInBounds_toArray, List.set_cons_zero, List.set_cons_succ]
      refine' tail_take (i := 8) (oi := ⟨some 77, _, _, _, _, _⟩) (v := _) rfl (by kernel_rfl) (by kernel_rfl) (by decide) (fun _ _ _ h => h) (Or.inl ⟨by rfl, ?y8aAz⟩) hS0 ?r8aAz
      case y8aAz => (intro w' hSw; obtain ⟨s0, s1⟩ := HC.out w' hSw; go_simp; try rfl)
      try simp only [Act.put, List.setIfInBounds_toArray, List.set_cons_zero, List.set_cons_succ]
      refine' tail_take (i := 9) (oi := ⟨some 78, _, _, _, _, _⟩) (v := _) rfl (by kernel_rfl) (by kernel_rfl) (by decide) (fun _ _ _ h => h) (Or.inl ⟨by rfl, ?y9aAz⟩) hS0 ?r9aAz
      case y9aAz => (intro w' hSw; obtain ⟨s0, s1⟩ := HC.out w' hSw; go_simp; try rfl)
      try simp only [Act.put, List.setIfInBounds_toArray, List.set_cons_zero, List.set_cons_succ]
      refine' tail_take (i := 10) (oi := ⟨some 79, _, _, _, _, _⟩) (v := _) rfl (by kernel_rfl) (by kernel_rfl) (by decide) (fun _ _ _ h => h) (Or.inl ⟨by rfl, ?y10aAz⟩) hS0 ?r10aAz
      case y10aAz => (intro w' hSw; obtain ⟨s0, s1⟩ := HC.out w' hSw; go_simp; try rfl)
      try simp only [Act.put, List.setIfInBounds_toArray, List.set_cons_zero, List.set_cons_succ]
      refine' tail_take (i := 11) (oi := ⟨some 80, _, _, _, _, _⟩) (v := _) rfl (by kernel_rfl) (by kernel_rfl) (by decide) (fun _ _ _ h => h) (Or.inl ⟨by rfl, ?y11aAz⟩) hS0 ?r11aAz
      case y11aAz => (intro w' hSw; obtain ⟨s0, s1⟩ := HC.out w' hSw; go_simp; try rfl)
      try simp only [Act.put, List.setIfInBounds_toArray, List.set_cons_zero, List.set_cons_succ]
      refine' tail_take (i := 12) (oi := ⟨some 81, _, _, _, _, _⟩) (v := _) rfl (by kernel_rfl) (by kernel_rfl) (by decide) (fun _ _ _ h => h) (Or.inl ⟨by rfl, ?y12aAz⟩) hS0 ?r12aAz
      case y12aAz => (intro w' hSw; obtain ⟨s0, s1⟩ := HC.out w' hSw; go_simp; try rfl)
      try simp only [Act.put, List.setIfInBounds_toArray, List.set_cons_zero, List.set_cons_succ]
      refine' tail_take (i := 14) (oi := ⟨some 83, _, _, _, _, _⟩) (v := _) rfl (by kernel_rfl) (by kernel_rfl) (by decide) (fun _ _ _ h => h) (Or.inl ⟨by rfl, ?y14aAz⟩) hS0 ?r14aAz
      case y14aAz => (intro w' hSw; obtain ⟨s0, s1⟩ := HC.out w' hSw; go_simp; try rfl)
      try simp only [Act.put, List.setIfInBounds_toArray, List.set_cons_zero, List.set_cons_succ]
      have hob : Own w5.drew 0 5 (.slice A1 bl c1) fr.bs := by have := H5.out.byt fr HF0.out; rw [EV.out] at this; exact this
      refine tail_one (i := 13) (by kernel_rfl) rfl (by decide) (fun K hK => ?_)
      refine step_append_bytesA w5.drew rfl (.const (.slice none 0 0)) (.tmp 81) 38 rfl 0 5 i0b Try.underlying38 hib hz0b hz1b hz2b _ _ rfl Own.nil _ fr.bs rfl hob.sl (by have := HLN.out; simp; omega) (Nat.zero_le _) ?_
      intro v6 W6 ho6 hgr6 hloc6
      rw [List.nil_append] at ho6
      have hS6 : Below w5.drew.heap.size w5.drew W6 := (Below.refl _ _).grown hgr6 (Nat.le_refl _) (fun i hi => by cases hi)
      have hf6 : ∀ i, v6.ownBlock = some i → w5.drew.heap.size ≤ i := fun i hi => by
        rcases hloc6 with e | e
        · rw [e] at hi; cases hi
        · rw [e] at hi; cases hi; exact Nat.le_refl _
      have HO6 := Lib.hid ho6
      obtain ⟨A6, n6, c6, hv6⟩ := ho6.shape
      clear hgr6 hloc6 ho6 hob
      refine hK.out _ _ hS6 (fun _ => ?_)
      clear hK K
      try simp only [Act.put, List.setIfInBounds_toArray, List.set_cons_zero, List.set_cons_succ]
      refine tail_one (i := 15) (by kernel_rfl) rfl (by decide) (fun K hK => ?_)
      refine step_append_bytesA W6 rfl (.tmp 82) (.tmp 83) 38 rfl 0 5 i0b Try.underlying38 hib hz0b hz1b hz2b _ _ rfl HO6.out _ b rfl ((show Sl w5.drew _ b from HSB.out.drew).below hS6) (by have := HLN.out; omega) (Nat.zero_le _) ?_
      intro v7 W7 ho7 hgr7 hloc7
      have hS7 : Below w5.drew.heap.size w5.drew W7 := hS6.grown hgr7 hS6.size hf6
      have hf7 : ∀ i, v7.ownBlock = some i → w5.heap.size ≤ i := fun i hi => by
        rcases hloc7 with e | e
        · rw [e] at hi; exact hf6 i hi
        · rw [e] at hi; cases hi; exact hS6.size
      have HO7 := Lib.hid ho7
      obtain ⟨A7, n7, c7, hv7⟩ : ∃ A n c, v7 = .slice A n c := ho7.shape
      clear hgr7 hloc7 ho7 HO6
      refine hK.out _ _ hS7 (fun _ => ?_)
      clear hK K
      try simp only [Act.put, List.setIfInBounds_toArray, List.set_cons_zero, List.set_cons_succ]
      refine' tail_take (i := 16) (oi := ⟨some 85, _, _, _, _, _⟩) (v := _) rfl (by kernel_rfl) (by kernel_rfl) (by decide) (fun _ _ _ h => h) (Or.inl ⟨by rfl, ?y16aAz⟩) hS7 ?r16aAz
      case y16aAz => (intro w' hSw; obtain ⟨s0, s1⟩ := HC.out w' hSw; go_simp; try rfl)
      try simp only [Act.put, List.setIfInBounds_toArray, List.set_cons_zero, List.set_cons_succ]
      refine' tail_take (i := 17) (oi := ⟨some 86, _, _, _, _, _⟩) (v := _) rfl (by kernel_rfl) (by kernel_rfl) (by decide) (fun _ _ _ h => h) (Or.inl ⟨by rfl, ?y17aAz⟩) hS7 ?r17aAz
      case y17aAz => (intro w' hSw; obtain ⟨s0, s1⟩ := HC.out w' hSw; go_simp; try rfl)
      try simp only [Act.put, List.setIfInBounds_toArray, List.set_cons_zero, List.set_cons_succ]
      have hR7 := H5.out.below ((show Below w5.heap.size w5 w5.drew from (Below.refl _ _).drew).trans hS7)
      obtain ⟨A9, c9, e9, _, _, _, x2, _, xf⟩ := hR7.fileAt HKK.out
      have xf1 := xf (k * 3 + 1)
      have HFIN := Lib.hid (hR7.set1 HKK.out ⟨fr.nm, fr.bs ++ b, fr.la, v7⟩ (show fr.nm = _ from congrArg Fr.nm HG0.out.symm) (show fr.la = _ from congrArg Fr.la HG0.out.symm) HO7.out)
      have HB7 := Lib.hid (show Below w5.heap.size w5 W7 from (show Below w5.heap.size w5 w5.drew from (Below.refl _ _).drew).trans hS7)
      have HF7 := Lib.hid hf7
      rw [hv7]
      rw [hv7] at HFIN HF7
      clear hR7 e9 hf7 hv7 hf6 xf
      refine tail_last (by kernel_rfl) rfl (by kernel_rfl) (fun K hK => ?_)
      go_simp
      refine hK.out _ _ ?_
      clear hK K
      try simp only [Act.put, List.setIfInBounds_toArray, List.set_cons_zero, List.set_cons_succ]
      clear xf1 x2 HC
      go_wp2_with fail
      refine (done_ref _ _).mono ?_
      rintro e wd ⟨rfl, rfl⟩
      go_wp2
      go_ret
      rw [HR.out]
      refine ⟨_, _, rfl, HFIN.out, ?_, ?_, RFoot.new (fun i hi => .inr (HFG.out i hi)) (fun f hf => ?_)⟩
      · rw [← HPL.out, pl_set, pl_set]
        rfl
      · exact keep_fresh (HK5.out.trans (Keep.of_below (S := fun i => i = q ∨ v.ownBlock = some i) HB7.out) (fun _ h => h) (fun _ _ h => h)) (HFG.out g rfl) _ _
      · rcases List.mem_or_eq_of_mem_set hf with hf | rfl
        · rw [HRR.out] at hf
          rcases List.mem_append.1 hf with hf | hf
          · rcases List.mem_append.1 hf with hf | hf
            · exact .inl (List.mem_of_mem_take hf)
            · obtain rfl : f = fr := by simpa using hf
              refine .inr (fun i hi => ?_)
              rw [HFR.out] at hi; cases hi
          · exact .inl (List.mem_of_mem_drop hf)
        · exact .inr (fun i hi => by have := HF7.out i hi; have := HSZ.out; omega)
    · have hSb : Below W0.heap.size W0 (W0.alloc (.cells #[.string s, .slice none 0 0, .int .i64 0] 73)) := (Below.refl _ _).alloc (Nat.le_refl _) _
      have hs58b : SlF (W0.alloc (.cells #[.string s, .slice none 0 0, .int .i64 0] 73)) (.slice (some ⟨W0.heap.size, 0, none⟩) 1 1) [fr] := by rw [HFR.out]; exact SlF.one W0 s (.slice none 0 0) [] 0
      go_simp
      refine hK.out _ _ hSb (fun _ => ?_)
      clear hK K
      try simp only [Act.put, List.setIfInBounds_toArray, List.set_cons_zero, List.set_cons_succ]
      generalize W0.alloc (.cells #[.string s, .slice none 0 0, .int .i64 0] 73) = Wb at hSb hs58b ⊢
      refine tail_one (i := 7) (by kernel_rfl) rfl (by decide) (fun K hK => ?_)
      refine step_append_files Wb rfl (.const (.slice none 0 0)) (.tmp 54) 31 rfl 0 i0 Try.underlying31 hif hz0 hz1 hz2 _ _ rfl OwnF.nil _ (R.take k) rfl (sl54.below hSb) (fun f hf => HONE.out f (List.mem_of_mem_take hf)) (by have := HSZR.out; simp only [List.length_nil]; omega) (Nat.zero_le _) ?_
      intro v6 W6 ho6 hgr6 hloc6
      rw [List.nil_append] at ho6
      have hSc : Below W0.heap.size W0 W6 := hSb.grown hgr6 hSb.size (fun i hi => by cases hi)
      have hbc : Below Wb.heap.size Wb W6 := (Below.refl _ _).grown hgr6 (Nat.le_refl _) (fun i hi => by cases hi)
      have hs58 := hs58b.below hbc
      have hf6 : ∀ i, v6.ownBlock = some i → W0.heap.size ≤ i := fun i hi => by
        rcases hloc6 with e | e
        · rw [e] at hi; cases hi
        · rw [e] at hi; cases hi; exact hSb.size
      have HO6 := Lib.hid ho6
      clear hgr6 hloc6 sl54 ho6 hbc hs58b
      refine hK.out _ _ hSc (fun _ => ?_)
      clear hK K
      try simp only [Act.put, List.setIfInBounds_toArray, List.set_cons_zero, List.set_cons_succ]
      generalize W6 = Wc at hSc hs58 HO6 ⊢
      refine tail_one (i := 11) (by kernel_rfl) rfl (by decide) (fun K hK => ?_)
      refine step_append_files Wc rfl (.tmp 55) (.tmp 58) 31 rfl 0 i0 Try.underlying31 hif hz0 hz1 hz2 _ _ rfl HO6.out _ [fr] rfl hs58 HONEF.out (by have := HSZR.out; simp only [List.length_singleton]; omega) (Nat.zero_le _) ?_
      intro v7 W7 ho7 hgr7 hloc7
      have hS7 : Below W0.heap.size W0 W7 := hSc.grown hgr7 hSc.size hf6
      have hf7 : ∀ i, v7.ownBlock = some i → W0.heap.size ≤ i := fun i hi => by
        rcases hloc7 with e | e
        · rw [e] at hi; exact hf6 i hi
        · rw [e] at hi; cases hi; exact hSc.size
      have HO7 := Lib.hid ho7
      clear hgr7 hloc7 ho7 HO6 hs58 hf6
      refine hK.out _ _ hS7 (fun _ => ?_)
      clear hK K
      try simp only [Act.put, List.setIfInBounds_toArray, List.set_cons_zero, List.set_cons_succ]
      refine tail_one (i := 18) (by kernel_rfl) rfl (by decide) (fun K hK => ?_)
      refine step_append_files W7 rfl (.tmp 59) (.tmp 65) 31 rfl 0 i0 Try.underlying31 hif hz0 hz1 hz2 _ _ rfl HO7.out _ (R.drop k) rfl (sl65.below hS7) (fun f hf => HONE.out f (List.mem_of_mem_drop hf)) (by have := HSZR.out; rw [List.length_append, List.length_singleton]; omega) (Nat.zero_le _) ?_
      intro v8 W8 ho8 hgr8 hloc8
      rw [← HRR.out] at ho8
      have hS8 : Below W0.heap.size W0 W8 := hS7.grown hgr8 hS7.size hf7
      have hf8 : ∀ i, v8.ownBlock = some i → W0.heap.size ≤ i := fun i hi => by
        rcases hloc8 with e | e
        · rw [e] at hi; exact hf7 i hi
        · rw [e] at hi; cases hi; exact hS7.size
      obtain ⟨g, c, hv8, _⟩ := ho8.form (by have := HKK.out; omega)
      rw [← HNN.out] at hv8
      subst hv8
      have HO8 := Lib.hid ho8
      have HF8 := Lib.hid hf8
      clear hgr8 hloc8 ho8 HO7 hf7 hf8
      refine hK.out _ _ hS8 (fun _ => ?_)
      clear hK K
      try simp only [Act.put, List.setIfInBounds_toArray, List.set_cons_zero, List.set_cons_succ]
      refine' tail_take (i := 19) (oi := ⟨some 67, _, _, _, _, _⟩) (v := _) rfl (by kernel_rfl) (by kernel_rfl) (by decide) (fun _ _ _ h => h) (Or.inl ⟨by rfl, ?y19aB⟩) hS8 ?r19aB
      case y19aB => (intro w' hSw; have s0 := HC9.out w' hSw; go_simp; try rfl)
      try simp only [Act.put, List.setIfInBounds_toArray, List.set_cons_zero, List.set_cons_succ]
      refine' tail_take (i := 20) (oi := ⟨some 68, _, _, _, _, _⟩) (v := _) rfl (by kernel_rfl) (by kernel_rfl) (by decide) (fun _ _ _ h => h) (Or.inl ⟨by rfl, ?y20aB⟩) hS8 ?r20aB
      case y20aB => (intro w' hSw; have s0 := HC9.out w' hSw; go_simp; try rfl)
      try simp only [Act.put, List.setIfInBounds_toArray, List.set_cons_zero, List.set_cons_succ]
      have hR8 := HD4.out.below hS8
      have fz := hR8.blk.frozen 0
      have fc := hR8.c0
      rw [HV.out] at fc
      have hk8 : Keep (fun i => i = q) W8 (W8.setCell ⟨q, 0, none⟩ (.slice (some ⟨g, 0, none⟩) nn c)) := Keep.setCell _ _ _ rfl
      have hfin8 : Rd (W8.setCell ⟨q, 0, none⟩ (.slice (some ⟨g, 0, none⟩) nn c)) q (.slice (some ⟨g, 0, none⟩) nn c) (wS S) RR := ⟨hR8.blk.set_ 0 _, HO8.out.kept hk8 (fun i hi e => by have := HF8.out i hi; have := HD4.out.blk.lt; omega), fun f hf => by
        rw [HRR.out] at hf
        rcases List.mem_append.1 hf with hf | hf
        · rcases List.mem_append.1 hf with hf | hf
          · exact (hR8.byt f (List.mem_of_mem_take hf)).kept hk8 (fun i hi e => (hR8.bytq (List.mem_of_mem_take hf) i hi).1 e)
          · obtain rfl : f = fr := by simpa using hf
            rw [HFR.out]; exact Own.nil
        · exact (hR8.byt f (List.mem_of_mem_drop hf)).kept hk8 (fun i hi e => (hR8.bytq (List.mem_of_mem_drop hf) i hi).1 e)⟩
      have hsl8 := hR8.slq (HSB4.out.below hS8) hk8
      have hks8 : Keep (fun i => i = q ∨ v.ownBlock = some i) w (W8.setCell ⟨q, 0, none⟩ (.slice (some ⟨g, 0, none⟩) nn c)) := trans_q (trans_q HKW.out (Keep.of_below hS8)) (hk8.mono (fun i hi => .inl hi))
      refine tail_last (by kernel_rfl) rfl (by kernel_rfl) (fun K hK => ?_)
      go_simp
      refine hK.out _ _ ?_
      clear hK K
      try simp only [Act.put, List.setIfInBounds_toArray, List.set_cons_zero, List.set_cons_succ]
      clear fz fc HC9
      obtain ⟨w5, hw5⟩ : ∃ w5, w5 = W8.setCell ⟨q, 0, none⟩ (.slice (some ⟨g, 0, none⟩) nn c) := ⟨_, rfl⟩
      have e5 : w5.heap.size = W8.heap.size := by rw [hw5]; simp
      have HSZ := Lib.hid (show w.heap.size ≤ w5.heap.size by have := HSZ4.out; have := hS8.size; omega)
      clear e5
      have HFG := Lib.hid (show ∀ i, (Value.slice (some ⟨g, 0, none⟩) nn c).ownBlock = some i → w.heap.size ≤ i from fun i hi => Nat.le_trans HSZ4.out (HF8.out i hi))
      rw [← hw5] at hfin8 hsl8 hks8
      rw [← hw5]
      have H5 := Lib.hid hfin8
      have HSB := Lib.hid hsl8
      have HK5 := Lib.hid hks8
      clear hfin8 hsl8 hks8 hR8 hk8 hw5 hS8 hS7 hSc
      obtain ⟨A1, c1, eV, hbV, x0, x1, x2, x3, xf⟩ := (H5.out.below (show Below w5.heap.size w5 w5.drew from (Below.refl _ _).drew)).fileAt HKK.out
      have HC := Lib.hid (show ∀ X, Below w5.drew.heap.size w5.drew X → X.cell? ⟨q, 0, none⟩ = some (.slice (some ⟨g, 0, none⟩) nn c) ∧ X.cell? ⟨g, k * 3 + 1, none⟩ = some (.slice A1 bl c1) from fun X hX => ⟨(hX.cell (World.block_lt_of_cell? _ _ x0)).trans (x0.trans (congrArg (fun z => some (Value.slice (some ⟨g, 0, none⟩) z c)) HNN.out.symm)), (hX.cell (World.block_lt_of_cell? _ _ x2)).trans (x2.trans (congrArg (fun z => some (Value.slice A1 z c1)) HBL.out.symm))⟩)
      have EV := Lib.hid (show fr.v = Value.slice A1 bl c1 from (congrArg Fr.v HG0.out.symm).trans (eV.trans (congrArg (fun z => Value.slice A1 z c1) HBL.out.symm)))
      have XF := Lib.hid xf
      clear x0 x1 x2 x3 xf eV hbV
      go_wp2_with fail
      refine tail_begin 18 (S := fun X => Below w5.drew.heap.size w5.drew X) hfo (by kernel_rfl) (Below.refl _ _) (fun hS0 => ?_)
      refine' tail_take (i := 0) (oi := ⟨some 69, _, _, _, _, _⟩) (v := _) rfl (by kernel_rfl) (by kernel_rfl) (by decide) (fun _ _ _ h => h) (Or.inl ⟨by rfl, ?y0aBz⟩) hS0 ?r0aBz
      case y0aBz => (intro w' hSw; obtain ⟨s0, s1⟩ := HC.out w' hSw; go_simp; try rfl)
      try simp only [Act.put, List.setIfInBounds_toArray, List.set_cons_zero, List.set_cons_succ]
      refine' tail_take (i := 1) (oi := ⟨some 70, _, _, _, _, _⟩) (v := _) rfl (by kernel_rfl) (by kernel_rfl) (by decide) (fun _ _ _ h => h) (Or.inl ⟨by rfl, ?y1aBz⟩) hS0 ?r1aBz
      case y1aBz => (intro w' hSw; obtain ⟨s0, s1⟩ := HC.out w' hSw; go_simp; try rfl)
      try simp only [Act.put, List.setIfInBounds_toArray, List.set_cons_zero, List.set_cons_succ]
      refine' tail_take (i := 2) (oi := ⟨some 71, _, _, _, _, _⟩) (v := _) rfl (by kernel_rfl) (by kernel_rfl) (by decide) (fun _ _ _ h => h) (Or.inl ⟨by rfl, ?y2aBz⟩) hS0 ?r2aBz
      case y2aBz => (intro w' hSw; obtain ⟨s0, s1⟩ := HC.out w' hSw; go_simp; try rfl)
      try simp only [Act.put, List.setIfInBounds_toArray, List.set_cons_zero, List.set_cons_succ]
      refine' tail_take (i := 3) (oi := ⟨some 72, _, _, _, _, _⟩) (v := _) rfl (by kernel_rfl) (by kernel_rfl) (by decide) (fun _ _ _ h => h) (Or.inl ⟨by rfl, ?y3aBz⟩) hS0 ?r3aBz
      case y3aBz => (intro w' hSw; obtain ⟨s0, s1⟩ := HC.out w' hSw; go_simp; try rfl)
      try simp only [Act.put, List.setIfInBounds_toArray, List.set_cons_zero, List.set_cons_succ]
      refine' tail_take (i := 4) (oi := ⟨some 73, _, _, _, _, _⟩) (v := _) rfl (by kernel_rfl) (by kernel_rfl) (by decide) (fun _ _ _ h => h) (Or.inl ⟨by rfl, ?y4aBz⟩) hS0 ?r4aBz
      case y4aBz => (intro w' hSw; obtain ⟨s0, s1⟩ := HC.out w' hSw; go_simp; try rfl)
      try simp only [Act.put, List.setIfInBounds_toArray, List.set_cons_zero, List.set_cons_succ]
      refine' tail_take (i := 5) (oi := ⟨some 74, _, _, _, _, _⟩) (v := _) rfl (by kernel_rfl) (by kernel_rfl) (by decide) (fun _ _ _ h => h) (Or.inl ⟨by rfl, ?y5aBz⟩) hS0 ?r5aBz
      case y5aBz => (intro w' hSw; obtain ⟨s0, s1⟩ := HC.out w' hSw; go_simp; try rfl)
      try simp only [Act.put, List.setIfInBounds_toArray, List.set_cons_zero, List.set_cons_succ]
      refine' tail_take (i := 6) (oi := ⟨some 75, _, _, _, _, _⟩) (v := _) rfl (by kernel_rfl) (by kernel_rfl) (by decide) (fun _ _ _ h => h) (Or.inl ⟨by rfl, ?y6aBz⟩) hS0 ?r6aBz
      case y6aBz => (intro w' hSw; obtain ⟨s0, s1⟩ := HC.out w' hSw; go_simp; try rfl)
      try simp only [Act.put, List.setIfInBounds_toArray, List.set_cons_zero, List.set_cons_succ]
      refine' tail_take (i := 7) (oi := ⟨some 76, _, _, _, _, _⟩) (v := _) rfl (by kernel_rfl) (by kernel_rfl) (by decide) (fun _ _ _ h => h) (Or.inl ⟨by rfl, ?y7aBz⟩) hS0 ?r7aBz
      case y7aBz => (intro w' hSw; obtain ⟨s0, s1⟩ := HC.out w' hSw; go_simp; try rfl)
      try simp only [Act.put, List.setIfInBounds_toArray, List.set_cons_zero, List.set_cons_succ]
      refine' tail_take (i := 8) (oi := ⟨some 77, _, _, _, _, _⟩) (v := _) rfl (by kernel_rfl) (by kernel_rfl) (by decide) (fun _ _ _ h => h) (Or.inl ⟨by rfl, ?y8aBz⟩) hS0 ?r8aBz
      case y8aBz => (intro w' hSw; obtain ⟨s0, s1⟩ := HC.out w' hSw; go_simp; try rfl)
      try simp only [Act.put, List.setIfInBounds_toArray, List.set_cons_zero, List.set_cons_succ]
      refine' tail_take (i := 9) (oi := ⟨some 78, _, _, _, _, _⟩) (v := _) rfl (by kernel_rfl) (by kernel_rfl) (by decide) (fun _ _ _ h => h) (Or.inl ⟨by rfl, ?y9aBz⟩) hS0 ?r9aBz
      case y9aBz => (intro w' hSw; obtain ⟨s0, s1⟩ := HC.out w' hSw; go_simp; try rfl)
      try simp only [Act.put, List.setIfInBounds_toArray, List.set_cons_zero, List.set_cons_succ]
      refine' tail_take (i := 10) (oi := ⟨some 79, _, _, _, _, _⟩) (v := _) rfl (by kernel_rfl) (by kernel_rfl) (by decide) (fun _ _ _ h => h) (Or.inl ⟨by rfl, ?y10aBz⟩) hS0 ?r10aBz
      case y10aBz => (intro w' hSw; obtain ⟨s0, s1⟩ := HC.out w' hSw; go_simp; try rfl)
      try simp only [Act.put, List.setIfInBounds_toArray, List.set_cons_zero, List.set_cons_succ]
      refine' tail_take (i := 11) (oi := ⟨some 80, _, _, _, _, _⟩) (v := _) rfl (by kernel_rfl) (by kernel_rfl) (by decide) (fun _ _ _ h => h) (Or.inl ⟨by rfl, ?y11aBz⟩) hS0 ?r11aBz
      case y11aBz => (intro w' hSw; obtain ⟨s0, s1⟩ := HC.out w' hSw; go_simp; try rfl)
      try simp only [Act.put, List.setIfInBounds_toArray, List.set_cons_zero, List.set_cons_succ]
      refine' tail_take (i := 12) (oi := ⟨some 81, _, _, _, _, _⟩) (v := _) rfl (by kernel_rfl) (by kernel_rfl) (by decide) (fun _ _ _ h => h) (Or.inl ⟨by rfl, ?y12aBz⟩) hS0 ?r12aBz
      case y12aBz => (intro w' hSw; obtain ⟨s0, s1⟩ := HC.out w' hSw; go_simp; try rfl)
      try simp only [Act.put, List.setIfInBounds_toArray, List.set_cons_zero, List.set_cons_succ]
      refine' tail_take (i := 14) (oi := ⟨some 83, _, _, _, _, _⟩) (v := _) rfl (by kernel_rfl) (by kernel_rfl) (by decide) (fun _ _ _ h => h) (Or.inl ⟨by rfl, ?y14aBz⟩) hS0 ?r14aBz
      case y14aBz => (intro w' hSw; obtain ⟨s0, s1⟩ := HC.out w' hSw; go_simp; try rfl)
      try simp only [Act.put, List.setIfInBounds_toArray, List.set_cons_zero, List.set_cons_succ]
      have hob : Own w5.drew 0 5 (.slice A1 bl c1) fr.bs := by have := H5.out.byt fr HF0.out; rw [EV.out] at this; exact this
      refine tail_one (i := 13) (by kernel_rfl) rfl (by decide) (fun K hK => ?_)
      refine step_append_bytesA w5.drew rfl (.const (.slice none 0 0)) (.tmp 81) 38 rfl 0 5 i0b Try.underlying38 hib hz0b hz1b hz2b _ _ rfl Own.nil _ fr.bs rfl hob.sl (by have := HLN.out; simp; omega) (Nat.zero_le _) ?_
      intro v6 W6 ho6 hgr6 hloc6
      rw [List.nil_append] at ho6
      have hS6 : Below w5.drew.heap.size w5.drew W6 := (Below.refl _ _).grown hgr6 (Nat.le_refl _) (fun i hi => by cases hi)
      have hf6 : ∀ i, v6.ownBlock = some i → w5.drew.heap.size ≤ i := fun i hi => by
        rcases hloc6 with e | e
        · rw [e] at hi; cases hi
        · rw [e] at hi; cases hi; exact Nat.le_refl _
      have HO6 := Lib.hid ho6
      obtain ⟨A6, n6, c6, hv6⟩ := ho6.shape
      clear hgr6 hloc6 ho6 hob
      refine hK.out _ _ hS6 (fun _ => ?_)
      clear hK K
      try simp only [Act.put, List.setIfInBounds_toArray, List.set_cons_zero, List.set_cons_succ]
      refine tail_one (i := 15) (by kernel_rfl) rfl (by decide) (fun K hK => ?_)
      refine step_append_bytesA W6 rfl (.tmp 82) (.tmp 83) 38 rfl 0 5 i0b Try.underlying38 hib hz0b hz1b hz2b _ _ rfl HO6.out _ b rfl ((show Sl w5.drew _ b from HSB.out.drew).below hS6) (by have := HLN.out; omega) (Nat.zero_le _) ?_
      intro v7 W7 ho7 hgr7 hloc7
      have hS7 : Below w5.drew.heap.size w5.drew W7 := hS6.grown hgr7 hS6.size hf6
      have hf7 : ∀ i, v7.ownBlock = some i → w5.heap.size ≤ i := fun i hi => by
        rcases hloc7 with e | e
        · rw [e] at hi; exact hf6 i hi
        · rw [e] at hi; cases hi; exact hS6.size
      have HO7 := Lib.hid ho7
      obtain ⟨A7, n7, c7, hv7⟩ : ∃ A n c, v7 = .slice A n c := ho7.shape
      clear hgr7 hloc7 ho7 HO6
      refine hK.out _ _ hS7 (fun _ => ?_)
      clear hK K
      try simp only [Act.put, List.setIfInBounds_toArray, List.set_cons_zero, List.set_cons_succ]
      refine' tail_take (i := 16) (oi := ⟨some 85, _, _, _, _, _⟩) (v := _) rfl (by kernel_rfl) (by kernel_rfl) (by decide) (fun _ _ _ h => h) (Or.inl ⟨by rfl, ?y16aBz⟩) hS7 ?r16aBz
      case y16aBz => (intro w' hSw; obtain ⟨s0, s1⟩ := HC.out w' hSw; go_simp; try rfl)
      try simp only [Act.put, List.setIfInBounds_toArray, List.set_cons_zero, List.set_cons_succ]
      refine' tail_take (i := 17) (oi := ⟨some 86, _, _, _, _, _⟩) (v := _) rfl (by kernel_rfl) (by kernel_rfl) (by decide) (fun _ _ _ h => h) (Or.inl ⟨by rfl, ?y17aBz⟩) hS7 ?r17aBz
      case y17aBz => (intro w' hSw; obtain ⟨s0, s1⟩ := HC.out w' hSw; go_simp; try rfl)
      try simp only [Act.put, List.setIfInBounds_toArray, List.set_cons_zero, List.set_cons_succ]
      have hR7 := H5.out.below ((show Below w5.heap.size w5 w5.drew from (Below.refl _ _).drew).trans hS7)
      obtain ⟨A9, c9, e9, _, _, _, x2, _, xf⟩ := hR7.fileAt HKK.out
      have xf1 := xf (k * 3 + 1)
      have HFIN := Lib.hid (hR7.set1 HKK.out ⟨fr.nm, fr.bs ++ b, fr.la, v7⟩ (show fr.nm = _ from congrArg Fr.nm HG0.out.symm) (show fr.la = _ from congrArg Fr.la HG0.out.symm) HO7.out)
      have HB7 := Lib.hid (show Below w5.heap.size w5 W7 from (show Below w5.heap.size w5 w5.drew from (Below.refl _ _).drew).trans hS7)
      have HF7 := Lib.hid hf7
      rw [hv7]
      rw [hv7] at HFIN HF7
      clear hR7 e9 hf7 hv7 hf6 xf
      refine tail_last (by kernel_rfl) rfl (by kernel_rfl) (fun K hK => ?_)
      go_simp
      refine hK.out _ _ ?_
      clear hK K
      try simp only [Act.put, List.setIfInBounds_toArray, List.set_cons_zero, List.set_cons_succ]
      clear xf1 x2 HC
      go_wp2_with fail
      refine (done_ref _ _).mono ?_
      rintro e wd ⟨rfl, rfl⟩
      go_wp2
      go_ret
      rw [HR.out]
      refine ⟨_, _, rfl, HFIN.out, ?_, ?_, RFoot.new (fun i hi => .inr (HFG.out i hi)) (fun f hf => ?_)⟩
      · rw [← HPL.out, pl_set, pl_set]
        rfl
      · exact keep_fresh (HK5.out.trans (Keep.of_below (S := fun i => i = q ∨ v.ownBlock = some i) HB7.out) (fun _ h => h) (fun _ _ h => h)) (HFG.out g rfl) _ _
      · rcases List.mem_or_eq_of_mem_set hf with hf | rfl
        · rw [HRR.out] at hf
          rcases List.mem_append.1 hf with hf | hf
          · rcases List.mem_append.1 hf with hf | hf
            · exact .inl (List.mem_of_mem_take hf)
            · obtain rfl : f = fr := by simpa using hf
              refine .inr (fun i hi => ?_)
              rw [HFR.out] at hi; cases hi
          · exact .inl (List.mem_of_mem_drop hf)
        · exact .inr (fun i hi => by have := HF7.out i hi; have := HSZ.out; omega)
  | false =>
    cases hwl : wLast S with
    | true =>
      rw [hwo, hwl] at hwr HR
      simp only [Bool.false_eq_true, if_false, if_true] at HR
      have HWR := Lib.hid hwr
      clear hwr hwo hwl
      go_wp2_with fail
      refine HWR.out.mono ?_
      rintro e w4 ⟨rfl, h4, k4⟩
      have hb4 : Below w4.heap.size w4 w4.drew := (Below.refl _ _).drew
      have HD4 := Lib.hid (h4.below hb4)
      have HKW := Lib.hid (trans_q (trans_q (Keep.of_below (S := fun i => i = q ∨ v.ownBlock = some i) HB3.out) (k4.mono (fun i hi => .inl hi))) (Keep.of_below hb4))
      have HSZ4 := Lib.hid (show w.heap.size ≤ w4.drew.heap.size from Nat.le_trans HB3.out.size (Nat.le_trans k4.size hb4.size))
      have HSB4 := Lib.hid ((HKS.out w4 (trans_q (Keep.of_below (S := fun i => i = q) HB3.out) k4)).below hb4)
      have HC9 := Lib.hid (show ∀ X, Below w4.drew.heap.size w4.drew X → X.cell? ⟨q, 0, none⟩ = some (.slice A R.length cA) from fun X hX => by have := (HD4.out.below hX).c0; rw [HV.out] at this; exact this)
      clear h4 k4 hb4 z0 HWR HC0
      go_wp2_with fail
      refine tail_begin 21 (S := fun X => Below w4.drew.heap.size w4.drew X) hfo (by kernel_rfl) (Below.refl _ _) (fun hS0 => ?_)
      generalize w4.drew = W0 at hS0 HD4 HKW HSZ4 HSB4 HC9 ⊢
      refine' tail_take (i := 0) (oi := ⟨some 48, _, _, _, _, _⟩) (v := _) rfl (by kernel_rfl) (by kernel_rfl) (by decide) (fun _ _ _ h => h) (Or.inl ⟨by rfl, ?y0b⟩) hS0 ?r0b
      case y0b => (intro w' hSw; have s0 := HC9.out w' hSw; go_simp; try rfl)
      try simp only [Act.put, List.setIfInBounds_toArray, List.set_cons_zero, List.set_cons_succ]
      refine' tail_take (i := 1) (oi := ⟨some 49, _, _, _, _, _⟩) (v := _) rfl (by kernel_rfl) (by kernel_rfl) (by decide) (fun _ _ _ h => h) (Or.inl ⟨by rfl, ?y1b⟩) hS0 ?r1b
      case y1b => (intro w' hSw; have s0 := HC9.out w' hSw; go_simp; try rfl)
      try simp only [Act.put, List.setIfInBounds_toArray, List.set_cons_zero, List.set_cons_succ]
      refine' tail_take (i := 2) (oi := ⟨some 50, _, _, _, _, _⟩) (v := _) rfl (by kernel_rfl) (by kernel_rfl) (by decide) (fun _ _ _ h => h) (Or.inl ⟨by rfl, ?y2b⟩) hS0 ?r2b
      case y2b => (intro w' hSw; have s0 := HC9.out w' hSw; go_simp; try rfl)
      try simp only [Act.put, List.setIfInBounds_toArray, List.set_cons_zero, List.set_cons_succ]
      refine' tail_take (i := 3) (oi := ⟨some 51, _, _, _, _, _⟩) (v := _) rfl (by kernel_rfl) (by kernel_rfl) (by decide) (fun _ _ _ h => h) (Or.inl ⟨by rfl, ?y3b⟩) hS0 ?r3b
      case y3b => (intro w' hSw; have s0 := HC9.out w' hSw; go_simp; try rfl)
      try simp only [Act.put, List.setIfInBounds_toArray, List.set_cons_zero, List.set_cons_succ]
      refine' tail_take (i := 4) (oi := ⟨some 52, _, _, _, _, _⟩) (v := _) rfl (by kernel_rfl) (by kernel_rfl) (by decide) (fun _ _ _ h => h) (Or.inl ⟨by rfl, ?y4b⟩) hS0 ?r4b
      case y4b => (intro w' hSw; have s0 := HC9.out w' hSw; go_simp; try rfl)
      try simp only [Act.put, List.setIfInBounds_toArray, List.set_cons_zero, List.set_cons_succ]
      refine' tail_take (i := 5) (oi := ⟨some 53, _, _, _, _, _⟩) (v := _) rfl (by kernel_rfl) (by kernel_rfl) (by decide) (fun _ _ _ h => h) (Or.inl ⟨by rfl, ?y5b⟩) hS0 ?r5b
      case y5b => (intro w' hSw; have s0 := HC9.out w' hSw; go_simp; try rfl)
      try simp only [Act.put, List.setIfInBounds_toArray, List.set_cons_zero, List.set_cons_succ]
      refine' tail_take (i := 6) (oi := ⟨some 54, _, _, _, _, _⟩) (v := _) rfl (by kernel_rfl) (by kernel_rfl) (by decide) (fun _ _ _ h => h) (Or.inl ⟨by rfl, ?y6b⟩) hS0 ?r6b
      case y6b => (intro w' hSw; have s0 := HC9.out w' hSw; go_simp; try rfl)
      try simp only [Act.put, List.setIfInBounds_toArray, List.set_cons_zero, List.set_cons_succ]
      refine' tail_take (i := 8) (oi := ⟨some 56, _, _, _, _, _⟩) (v := _) rfl (by kernel_rfl) (by kernel_rfl) (by decide) (fun _ _ _ h => h) (Or.inl ⟨by rfl, ?y8b⟩) hS0 ?r8b
      case y8b => (intro w' hSw; have s0 := HC9.out w' hSw; go_simp; try rfl)
      try simp only [Act.put, List.setIfInBounds_toArray, List.set_cons_zero, List.set_cons_succ]
      refine' tail_take (i := 9) (oi := ⟨some 57, _, _, _, _, _⟩) (v := _) rfl (by kernel_rfl) (by kernel_rfl) (by decide) (fun _ _ _ h => h) (Or.inl ⟨by rfl, ?y9b⟩) hS0 ?r9b
      case y9b => (intro w' hSw; have s0 := HC9.out w' hSw; go_simp; try rfl)
      try simp only [Act.put, List.setIfInBounds_toArray, List.set_cons_zero, List.set_cons_succ]
      refine' tail_take (i := 12) (oi := ⟨some 60, _, _, _, _, _⟩) (v := _) rfl (by kernel_rfl) (by kernel_rfl) (by decide) (fun _ _ _ h => h) (Or.inl ⟨by rfl, ?y12b⟩) hS0 ?r12b
      case y12b => (intro w' hSw; have s0 := HC9.out w' hSw; go_simp; try rfl)
      try simp only [Act.put, List.setIfInBounds_toArray, List.set_cons_zero, List.set_cons_succ]
      refine' tail_take (i := 13) (oi := ⟨some 61, _, _, _, _, _⟩) (v := _) rfl (by kernel_rfl) (by kernel_rfl) (by decide) (fun _ _ _ h => h) (Or.inl ⟨by rfl, ?y13b⟩) hS0 ?r13b
      case y13b => (intro w' hSw; have s0 := HC9.out w' hSw; go_simp; try rfl)
      try simp only [Act.put, List.setIfInBounds_toArray, List.set_cons_zero, List.set_cons_succ]
      refine' tail_take (i := 14) (oi := ⟨some 62, _, _, _, _, _⟩) (v := _) rfl (by kernel_rfl) (by kernel_rfl) (by decide) (fun _ _ _ h => h) (Or.inl ⟨by rfl, ?y14b⟩) hS0 ?r14b
      case y14b => (intro w' hSw; have s0 := HC9.out w' hSw; go_simp; try rfl)
      try simp only [Act.put, List.setIfInBounds_toArray, List.set_cons_zero, List.set_cons_succ]
      refine' tail_take (i := 15) (oi := ⟨some 63, _, _, _, _, _⟩) (v := _) rfl (by kernel_rfl) (by kernel_rfl) (by decide) (fun _ _ _ h => h) (Or.inl ⟨by rfl, ?y15b⟩) hS0 ?r15b
      case y15b => (intro w' hSw; have s0 := HC9.out w' hSw; go_simp; try rfl)
      try simp only [Act.put, List.setIfInBounds_toArray, List.set_cons_zero, List.set_cons_succ]
      refine' tail_take (i := 16) (oi := ⟨some 64, _, _, _, _, _⟩) (v := _) rfl (by kernel_rfl) (by kernel_rfl) (by decide) (fun _ _ _ h => h) (Or.inl ⟨by rfl, ?y16b⟩) hS0 ?r16b
      case y16b => (intro w' hSw; have s0 := HC9.out w' hSw; go_simp; try rfl)
      try simp only [Act.put, List.setIfInBounds_toArray, List.set_cons_zero, List.set_cons_succ]
      refine' tail_take (i := 17) (oi := ⟨some 65, _, _, _, _, _⟩) (v := _) rfl (by kernel_rfl) (by kernel_rfl) (by decide) (fun _ _ _ h => h) (Or.inl ⟨by rfl, ?y17b⟩) hS0 ?r17b
      case y17b => (intro w' hSw; have s0 := HC9.out w' hSw; go_simp; try rfl)
      try simp only [Act.put, List.setIfInBounds_toArray, List.set_cons_zero, List.set_cons_succ]
      have slR : SlF W0 (.slice A R.length cA) R := by have := HD4.out.row.sl; rw [HV.out] at this; exact this
      have sl54 : SlF W0 (.slice A k cA) (R.take k) := slR.front k HKL.out
      have sl65 := slR.behind' k HKL.out
      generalize (if cA = k then A else A.map (·.add (k * 3))) = A65 at sl65 ⊢
      clear slR
      refine tail_two (i := 7) (j := 10) (by kernel_rfl) rfl rfl (by decide) (by decide) (fun K hK => ?_) (fun K hK => ?_)
      · refine step_append_files W0 rfl (.const (.slice none 0 0)) (.tmp 54) 31 rfl 0 i0 Try.underlying31 hif hz0 hz1 hz2 _ _ rfl OwnF.nil _ (R.take k) rfl sl54 (fun f hf => HONE.out f (List.mem_of_mem_take hf)) (by have := HSZR.out; simp only [List.length_nil]; omega) (Nat.zero_le _) ?_
        intro v6 W6 ho6 hgr6 hloc6
        rw [List.nil_append] at ho6
        have hS6 : Below W0.heap.size W0 W6 := (Below.refl _ _).grown hgr6 (Nat.le_refl _) (fun i hi => by cases hi)
        have hf6 : ∀ i, v6.ownBlock = some i → W0.heap.size ≤ i := fun i hi => by
          rcases hloc6 with e | e
          · rw [e] at hi; cases hi
          · rw [e] at hi; cases hi; exact Nat.le_refl _
        clear hgr6 hloc6 sl54
        refine hK.out _ _ hS6 (fun _ => ?_)
        clear hK K
        try simp only [Act.put, List.setIfInBounds_toArray, List.set_cons_zero, List.set_cons_succ]
        have hSc : Below W0.heap.size W0 (W6.alloc (.cells #[.string s, .slice none 0 0, .int .i64 0] 73)) := hS6.alloc hS6.size _
        have hs58 : SlF (W6.alloc (.cells #[.string s, .slice none 0 0, .int .i64 0] 73)) (.slice (some ⟨W6.heap.size, 0, none⟩) 1 1) [fr] := by rw [HFR.out]; exact SlF.one W6 s (.slice none 0 0) [] 0
        have HO6 := Lib.hid (ho6.alloc (.cells #[.string s, .slice none 0 0, .int .i64 0] 73))
        clear ho6
        refine tail_one (i := 10) (by kernel_rfl) rfl (by decide) (fun K hK => ?_)
        go_simp
        refine hK.out _ _ hSc (fun _ => ?_)
        clear hK K
        try simp only [Act.put, List.setIfInBounds_toArray, List.set_cons_zero, List.set_cons_succ]
        generalize hWc : W6.alloc (.cells #[.string s, .slice none 0 0, .int .i64 0] 73) = Wc at hSc hs58 HO6 ⊢
        clear hWc hS6
        refine tail_one (i := 11) (by kernel_rfl) rfl (by decide) (fun K hK => ?_)
        refine step_append_files Wc rfl (.tmp 55) (.tmp 58) 31 rfl 0 i0 Try.underlying31 hif hz0 hz1 hz2 _ _ rfl HO6.out _ [fr] rfl hs58 HONEF.out (by have := HSZR.out; simp only [List.length_singleton]; omega) (Nat.zero_le _) ?_
        intro v7 W7 ho7 hgr7 hloc7
        have hS7 : Below W0.heap.size W0 W7 := hSc.grown hgr7 hSc.size hf6
        have hf7 : ∀ i, v7.ownBlock = some i → W0.heap.size ≤ i := fun i hi => by
          rcases hloc7 with e | e
          · rw [e] at hi; exact hf6 i hi
          · rw [e] at hi; cases hi; exact hSc.size
        have HO7 := Lib.hid ho7
        clear hgr7 hloc7 ho7 HO6 hs58 hf6
        refine hK.out _ _ hS7 (fun _ => ?_)
        clear hK K
        try simp only [Act.put, List.setIfInBounds_toArray, List.set_cons_zero, List.set_cons_succ]
        refine tail_one (i := 18) (by kernel_rfl) rfl (by decide) (fun K hK => ?_)
        refine step_append_files W7 rfl (.tmp 59) (.tmp 65) 31 rfl 0 i0 Try.underlying31 hif hz0 hz1 hz2 _ _ rfl HO7.out _ (R.drop k) rfl (sl65.below hS7) (fun f hf => HONE.out f (List.mem_of_mem_drop hf)) (by have := HSZR.out; rw [List.length_append, List.length_singleton]; omega) (Nat.zero_le _) ?_
        intro v8 W8 ho8 hgr8 hloc8
        rw [← HRR.out] at ho8
        have hS8 : Below W0.heap.size W0 W8 := hS7.grown hgr8 hS7.size hf7
        have hf8 : ∀ i, v8.ownBlock = some i → W0.heap.size ≤ i := fun i hi => by
          rcases hloc8 with e | e
          · rw [e] at hi; exact hf7 i hi
          · rw [e] at hi; cases hi; exact hS7.size
        obtain ⟨g, c, hv8, _⟩ := ho8.form (by have := HKK.out; omega)
        rw [← HNN.out] at hv8
        subst hv8
        have HO8 := Lib.hid ho8
        have HF8 := Lib.hid hf8
        clear hgr8 hloc8 ho8 HO7 hf7 hf8
        refine hK.out _ _ hS8 (fun _ => ?_)
        clear hK K
        try simp only [Act.put, List.setIfInBounds_toArray, List.set_cons_zero, List.set_cons_succ]
        refine' tail_take (i := 19) (oi := ⟨some 67, _, _, _, _, _⟩) (v := _) rfl (by kernel_rfl) (by kernel_rfl) (by decide) (fun _ _ _ h => h) (Or.inl ⟨by rfl, ?y19bA⟩) hS8 ?r19bA
        case y19bA => (intro w' hSw; have s0 := HC9.out w' hSw; go_simp; try rfl)
        try simp only [Act.put, List.setIfInBounds_toArray, List.set_cons_zero, List.set_cons_succ]
        refine' tail_take (i := 20) (oi := ⟨some 68, _, _, _, _, _⟩) (v := _) rfl (by kernel_rfl) (by kernel_rfl) (by decide) (fun _ _ _ h => h) (Or.inl ⟨by rfl, ?y20bA⟩) hS8 ?r20bA
        case y20bA => (intro w' hSw; have s0 := HC9.out w' hSw; go_simp; try rfl)
        try simp only [Act.put, List.setIfInBounds_toArray, List.set_cons_zero, List.set_cons_succ]
        have hR8 := HD4.out.below hS8
        have fz := hR8.blk.frozen 0
        have fc := hR8.c0
        rw [HV.out] at fc
        have hk8 : Keep (fun i => i = q) W8 (W8.setCell ⟨q, 0, none⟩ (.slice (some ⟨g, 0, none⟩) nn c)) := Keep.setCell _ _ _ rfl
        have hfin8 : Rd (W8.setCell ⟨q, 0, none⟩ (.slice (some ⟨g, 0, none⟩) nn c)) q (.slice (some ⟨g, 0, none⟩) nn c) (wS S) RR := ⟨hR8.blk.set_ 0 _, HO8.out.kept hk8 (fun i hi e => by have := HF8.out i hi; have := HD4.out.blk.lt; omega), fun f hf => by
          rw [HRR.out] at hf
          rcases List.mem_append.1 hf with hf | hf
          · rcases List.mem_append.1 hf with hf | hf
            · exact (hR8.byt f (List.mem_of_mem_take hf)).kept hk8 (fun i hi e => (hR8.bytq (List.mem_of_mem_take hf) i hi).1 e)
            · obtain rfl : f = fr := by simpa using hf
              rw [HFR.out]; exact Own.nil
          · exact (hR8.byt f (List.mem_of_mem_drop hf)).kept hk8 (fun i hi e => (hR8.bytq (List.mem_of_mem_drop hf) i hi).1 e)⟩
        have hsl8 := hR8.slq (HSB4.out.below hS8) hk8
        have hks8 : Keep (fun i => i = q ∨ v.ownBlock = some i) w (W8.setCell ⟨q, 0, none⟩ (.slice (some ⟨g, 0, none⟩) nn c)) := trans_q (trans_q HKW.out (Keep.of_below hS8)) (hk8.mono (fun i hi => .inl hi))
        refine tail_last (by kernel_rfl) rfl (by kernel_rfl) (fun K hK => ?_)
        go_simp
        refine hK.out _ _ ?_
        clear hK K
        try simp only [Act.put, List.setIfInBounds_toArray, List.set_cons_zero, List.set_cons_succ]
        clear fz fc HC9
        obtain ⟨w5, hw5⟩ : ∃ w5, w5 = W8.setCell ⟨q, 0, none⟩ (.slice (some ⟨g, 0, none⟩) nn c) := ⟨_, rfl⟩
        have e5 : w5.heap.size = W8.heap.size := by rw [hw5]; simp
        have HSZ := Lib.hid (show w.heap.size ≤ w5.heap.size by have := HSZ4.out; have := hS8.size; omega)
        clear e5
        have HFG := Lib.hid (show ∀ i, (Value.slice (some ⟨g, 0, none⟩) nn c).ownBlock = some i → w.heap.size ≤ i from fun i hi => Nat.le_trans HSZ4.out (HF8.out i hi))
        rw [← hw5] at hfin8 hsl8 hks8
        rw [← hw5]
        have H5 := Lib.hid hfin8
        have HSB := Lib.hid hsl8
        have HK5 := Lib.hid hks8
        clear hfin8 hsl8 hks8 hR8 hk8 hw5 hS8 hS7 hSc
        obtain ⟨A1, c1, eV, hbV, x0, x1, x2, x3, xf⟩ := (H5.out.below (show Below w5.heap.size w5 w5.drew from (Below.refl _ _).drew)).fileAt HKK.out
        have HC := Lib.hid (show ∀ X, Below w5.drew.heap.size w5.drew X → X.cell? ⟨q, 0, none⟩ = some (.slice (some ⟨g, 0, none⟩) nn c) ∧ X.cell? ⟨g, k * 3 + 1, none⟩ = some (.slice A1 bl c1) from fun X hX => ⟨(hX.cell (World.block_lt_of_cell? _ _ x0)).trans (x0.trans (congrArg (fun z => some (Value.slice (some ⟨g, 0, none⟩) z c)) HNN.out.symm)), (hX.cell (World.block_lt_of_cell? _ _ x2)).trans (x2.trans (congrArg (fun z => some (Value.slice A1 z c1)) HBL.out.symm))⟩)
        have EV := Lib.hid (show fr.v = Value.slice A1 bl c1 from (congrArg Fr.v HG0.out.symm).trans (eV.trans (congrArg (fun z => Value.slice A1 z c1) HBL.out.symm)))
        have XF := Lib.hid xf
        clear x0 x1 x2 x3 xf eV hbV
        go_wp2_with fail
        refine tail_begin 18 (S := fun X => Below w5.drew.heap.size w5.drew X) hfo (by kernel_rfl) (Below.refl _ _) (fun hS0 => ?_)
        refine' tail_take (i := 0) (oi := ⟨some 69, _, _, _, _, _⟩) (v := _) rfl (by kernel_rfl) (by kernel_rfl) (by decide) (fun _ _ _ h => h) (Or.inl ⟨by rfl, ?y0bAz⟩) hS0 ?r0bAz
        case y0bAz => (intro w' hSw; obtain ⟨s0, s1⟩ := HC.out w' hSw; go_simp; try rfl)
        try simp only [Act.put, List.setIfInBounds_toArray, List.set_cons_zero, List.set_cons_succ]
        refine' tail_take (i := 1) (oi := ⟨some 70, _, _, _, _, _⟩) (v := _) rfl (by kernel_rfl) (by kernel_rfl) (by decide) (fun _ _ _ h => h) (Or.inl ⟨by rfl, ?y1bAz⟩) hS0 ?r1bAz
        case y1bAz => (intro w' hSw; obtain ⟨s0, s1⟩ := HC.out w' hSw; go_simp; try rfl)
        try simp only [Act.put, List.setIfInBounds_toArray, List.set_cons_zero, List.set_cons_succ]
        refine' tail_take (i := 2) (oi := ⟨some 71, _, _, _, _, _⟩) (v := _) rfl (by kernel_rfl) (by kernel_rfl) (by decide) (fun _ _ _ h => h) (Or.inl ⟨by rfl, ?y2bAz⟩) hS0 ?r2bAz
        case y2bAz => (intro w' hSw; obtain ⟨s0, s1⟩ := HC.out w' hSw; go_simp; try rfl)
        try simp only [Act.put, List.setIfInBounds_toArray, List.set_cons_zero, List.set_cons_succ]
        refine' tail_take (i := 3) (oi := ⟨some 72, _, _, _, _, _⟩) (v := _) rfl (by kernel_rfl) (by kernel_rfl) (by decide) (fun _ _ _ h => h) (Or.inl ⟨by rfl, ?y3bAz⟩) hS0 ?r3bAz
        case y3bAz => (intro w' hSw; obtain ⟨s0, s1⟩ := HC.out w' hSw; go_simp; try rfl)
        try simp only [Act.put, List.setIfInBounds_toArray, List.set_cons_zero, List.set_cons_succ]
        refine' tail_take (i := 4) (oi := ⟨some 73, _, _, _, _, _⟩) (v := _) rfl (by kernel_rfl) (by kernel_rfl) (by decide) (fun _ _ _ h => h) (Or.inl ⟨by rfl, ?y4bAz⟩) hS0 ?r4bAz
        case y4bAz => (intro w' hSw; obtain ⟨s0, s1⟩ := HC.out w' hSw; go_simp; try rfl)
        try simp only [Act.put, List.setIfInBounds_toArray, List.set_cons_zero, List.set_cons_succ]
        refine' tail_take (i := 5) (oi := ⟨some 74, _, _, _, _, _⟩) (v := _) rfl (by kernel_rfl) (by kernel_rfl) (by decide) (fun _ _ _ h => h) (Or.inl ⟨by rfl, ?y5bAz⟩) hS0 ?r5bAz
        case y5bAz => (intro w' hSw; obtain ⟨s0, s1⟩ := HC.out w' hSw; go_simp; try rfl)
        try simp only [Act.put, List.setIfInBounds_toArray, List.set_cons_zero, List.set_cons_succ]
        refine' tail_take (i := 6) (oi := ⟨some 75, _, _, _, _, _⟩) (v := _) rfl (by kernel_rfl) (by kernel_rfl) (by decide) (fun _ _ _ h => h) (Or.inl ⟨by rfl, ?y6bAz⟩) hS0 ?r6bAz
        case y6bAz => (intro w' hSw; obtain ⟨s0, s1⟩ := HC.out w' hSw; go_simp; try rfl)
        try simp only [Act.put, List.setIfInBounds_toArray, List.set_cons_zero, List.set_cons_succ]
        refine' tail_take (i := 7) (oi := ⟨some 76, _, _, _, _, _⟩) (v := _) rfl (by kernel_rfl) (by kernel_rfl) (by decide) (fun _ _ _ h => h) (Or.inl ⟨by rfl, ?y7bAz⟩) hS0 ?r7bAz
        case y7bAz => (intro w' hSw; obtain ⟨s0, s1⟩ := HC.out w' hSw; go_simp; try rfl)
        try simp only [Act.put, List.setIfInBounds_toArray, List.set_cons_zero, List.set_cons_succ]
        refine' tail_take (i := 8) (oi := ⟨some 77, _, _, _, _, _⟩) (v := _) rfl (by kernel_rfl) (by kernel_rfl) (by decide) (fun _ _ _ h => h) (Or.inl ⟨by rfl, ?y8bAz⟩) hS0 ?r8bAz
        case y8bAz => (intro w' hSw; obtain ⟨s0, s1⟩ := HC.out w' hSw; go_simp; try rfl)
        try simp only [Act.put, List.setIfInBounds_toArray, List.set_cons_zero, List.set_cons_succ]
        refine' tail_take (i := 9) (oi := ⟨some 78, _, _, _, _, _⟩) (v := _) rfl (by kernel_rfl) (by kernel_rfl) (by decide) (fun _ _ _ h => h) (Or.inl ⟨by rfl, ?y9bAz⟩) hS0 ?r9bAz
        case y9bAz => (intro w' hSw; obtain ⟨s0, s1⟩ := HC.out w' hSw; go_simp; try rfl)
        try simp only [Act.put, List.setIfInBounds_toArray, List.set_cons_zero, List.set_cons_succ]
        refine' tail_take (i := 10) (oi := ⟨some 79, _, _, _, _, _⟩) (v := _) rfl (by kernel_rfl) (by kernel_rfl) (by decide) (fun _ _ _ h => h) (Or.inl ⟨by rfl, ?y10bAz⟩) hS0 ?r10bAz
        case y10bAz => (intro w' hSw; obtain ⟨s0, s1⟩ := HC.out w' hSw; go_simp; try rfl)
        try simp only [Act.put, List.setIfInBounds_toArray, List.set_cons_zero, List.set_cons_succ]
        refine' tail_take (i := 11) (oi := ⟨some 80, _, _, _, _, _⟩) (v := _) rfl (by kernel_rfl) (by kernel_rfl) (by decide) (fun _ _ _ h => h) (Or.inl ⟨by rfl, ?y11bAz⟩) hS0 ?r11bAz
        case y11bAz => (intro w' hSw; obtain ⟨s0, s1⟩ := HC.out w' hSw; go_simp; try rfl)
        try simp only [Act.put, List.setIfInBounds_toArray, List.set_cons_zero, List.set_cons_succ]
        refine' tail_take (i := 12) (oi := ⟨some 81, _, _, _, _, _⟩) (v := _) rfl (by kernel_rfl) (by kernel_rfl) (by decide) (fun _ _ _ h => h) (Or.inl ⟨by rfl, ?y12bAz⟩) hS0 ?r12bAz
        case y12bAz => (intro w' hSw; obtain ⟨s0, s1⟩ := HC.out w' hSw; go_simp; try rfl)
        try simp only [Act.put, List.setIfInBounds_toArray, List.set_cons_zero, List.set_cons_succ]
        refine' tail_take (i := 14) (oi := ⟨some 83, _, _, _, _, _⟩) (v := _) rfl (by kernel_rfl) (by kernel_rfl) (by decide) (fun _ _ _ h => h) (Or.inl ⟨by rfl, ?y14bAz⟩) hS0 ?r14bAz
        case y14bAz => (intro w' hSw; obtain ⟨s0, s1⟩ := HC.out w' hSw; go_simp; try rfl)
        try simp only [Act.put, List.setIfInBounds_toArray, List.set_cons_zero, List.set_cons_succ]
        have hob : Own w5.drew 0 5 (.slice A1 bl c1) fr.bs := by have := H5.out.byt fr HF0.out; rw [EV.out] at this; exact this
        refine tail_one (i := 13) (by kernel_rfl) rfl (by decide) (fun K hK => ?_)
        refine step_append_bytesA w5.drew rfl (.const (.slice none 0 0)) (.tmp 81) 38 rfl 0 5 i0b Try.underlying38 hib hz0b hz1b hz2b _ _ rfl Own.nil _ fr.bs rfl hob.sl (by have := HLN.out; simp; omega) (Nat.zero_le _) ?_
        intro v6 W6 ho6 hgr6 hloc6
        rw [List.nil_append] at ho6
        have hS6 : Below w5.drew.heap.size w5.drew W6 := (Below.refl _ _).grown hgr6 (Nat.le_refl _) (fun i hi => by cases hi)
        have hf6 : ∀ i, v6.ownBlock = some i → w5.drew.heap.size ≤ i := fun i hi => by
          rcases hloc6 with e | e
          · rw [e] at hi; cases hi
          · rw [e] at hi; cases hi; exact Nat.le_refl _
        have HO6 := Lib.hid ho6
        obtain ⟨A6, n6, c6, hv6⟩ := ho6.shape
        clear hgr6 hloc6 ho6 hob
        refine hK.out _ _ hS6 (fun _ => ?_)
        clear hK K
        try simp only [Act.put, List.setIfInBounds_toArray, List.set_cons_zero, List.set_cons_succ]
        refine tail_one (i := 15) (by kernel_rfl) rfl (by decide) (fun K hK => ?_)
        refine step_append_bytesA W6 rfl (.tmp 82) (.tmp 83) 38 rfl 0 5 i0b Try.underlying38 hib hz0b hz1b hz2b _ _ rfl HO6.out _ b rfl ((show Sl w5.drew _ b from HSB.out.drew).below hS6) (by have := HLN.out; omega) (Nat.zero_le _) ?_
        intro v7 W7 ho7 hgr7 hloc7
        have hS7 : Below w5.drew.heap.size w5.drew W7 := hS6.grown hgr7 hS6.size hf6
        have hf7 : ∀ i, v7.ownBlock = some i → w5.heap.size ≤ i := fun i hi => by
          rcases hloc7 with e | e
          · rw [e] at hi; exact hf6 i hi
          · rw [e] at hi; cases hi; exact hS6.size
        have HO7 := Lib.hid ho7
        obtain ⟨A7, n7, c7, hv7⟩ : ∃ A n c, v7 = .slice A n c := ho7.shape
        clear hgr7 hloc7 ho7 HO6
        refine hK.out _ _ hS7 (fun _ => ?_)
        clear hK K
        try simp only [Act.put, List.setIfInBounds_toArray, List.set_cons_zero, List.set_cons_succ]
        refine' tail_take (i := 16) (oi := ⟨some 85, _, _, _, _, _⟩) (v := _) rfl (by kernel_rfl) (by kernel_rfl) (by decide) (fun _ _ _ h => h) (Or.inl ⟨by rfl, ?y16bAz⟩) hS7 ?r16bAz
        case y16bAz => (intro w' hSw; obtain ⟨s0, s1⟩ := HC.out w' hSw; go_simp; try rfl)
        try simp only [Act.put, List.setIfInBounds_toArray, List.set_cons_zero, List.set_cons_succ]
        refine' tail_take (i := 17) (oi := ⟨some 86, _, _, _, _, _⟩) (v := _) rfl (by kernel_rfl) (by kernel_rfl) (by decide) (fun _ _ _ h => h) (Or.inl ⟨by rfl, ?y17bAz⟩) hS7 ?r17bAz
        case y17bAz => (intro w' hSw; obtain ⟨s0, s1⟩ := HC.out w' hSw; go_simp; try rfl)
        try simp only [Act.put, List.setIfInBounds_toArray, List.set_cons_zero, List.set_cons_succ]
        have hR7 := H5.out.below ((show Below w5.heap.size w5 w5.drew from (Below.refl _ _).drew).trans hS7)
        obtain ⟨A9, c9, e9, _, _, _, x2, _, xf⟩ := hR7.fileAt HKK.out
        have xf1 := xf (k * 3 + 1)
        have HFIN := Lib.hid (hR7.set1 HKK.out ⟨fr.nm, fr.bs ++ b, fr.la, v7⟩ (show fr.nm = _ from congrArg Fr.nm HG0.out.symm) (show fr.la = _ from congrArg Fr.la HG0.out.symm) HO7.out)
        have HB7 := Lib.hid (show Below w5.heap.size w5 W7 from (show Below w5.heap.size w5 w5.drew from (Below.refl _ _).drew).trans hS7)
        have HF7 := Lib.hid hf7
        rw [hv7]
        rw [hv7] at HFIN HF7
        clear hR7 e9 hf7 hv7 hf6 xf
        refine tail_last (by kernel_rfl) rfl (by kernel_rfl) (fun K hK => ?_)
        go_simp
        refine hK.out _ _ ?_
        clear hK K
        try simp only [Act.put, List.setIfInBounds_toArray, List.set_cons_zero, List.set_cons_succ]
        clear xf1 x2 HC
        go_wp2_with fail
        refine (done_ref _ _).mono ?_
        rintro e wd ⟨rfl, rfl⟩
        go_wp2
        go_ret
        rw [HR.out]
        refine ⟨_, _, rfl, HFIN.out, ?_, ?_, RFoot.new (fun i hi => .inr (HFG.out i hi)) (fun f hf => ?_)⟩
        · rw [← HPL.out, pl_set, pl_set]
          rfl
        · exact keep_fresh (HK5.out.trans (Keep.of_below (S := fun i => i = q ∨ v.ownBlock = some i) HB7.out) (fun _ h => h) (fun _ _ h => h)) (HFG.out g rfl) _ _
        · rcases List.mem_or_eq_of_mem_set hf with hf | rfl
          · rw [HRR.out] at hf
            rcases List.mem_append.1 hf with hf | hf
            · rcases List.mem_append.1 hf with hf | hf
              · exact .inl (List.mem_of_mem_take hf)
              · obtain rfl : f = fr := by simpa using hf
                refine .inr (fun i hi => ?_)
                rw [HFR.out] at hi; cases hi
            · exact .inl (List.mem_of_mem_drop hf)
          · exact .inr (fun i hi => by have := HF7.out i hi; have := HSZ.out; omega)
      · have hSb : Below W0.heap.size W0 (W0.alloc (.cells #[.string s, .slice none 0 0, .int .i64 0] 73)) := (Below.refl _ _).alloc (Nat.le_refl _) _
        have hs58b : SlF (W0.alloc (.cells #[.string s, .slice none 0 0, .int .i64 0] 73)) (.slice (some ⟨W0.heap.size, 0, none⟩) 1 1) [fr] := by rw [HFR.out]; exact SlF.one W0 s (.slice none 0 0) [] 0
        go_simp
        refine hK.out _ _ hSb (fun _ => ?_)
        clear hK K
        try simp only [Act.put, List.setIfInBounds_toArray, List.set_cons_zero, List.set_cons_succ]
        generalize W0.alloc (.cells #[.string s, .slice none 0 0, .int .i64 0] 73) = Wb at hSb hs58b ⊢
        refine tail_one (i := 7) (by kernel_rfl) rfl (by decide) (fun K hK => ?_)
        refine step_append_files Wb rfl (.const (.slice none 0 0)) (.tmp 54) 31 rfl 0 i0 Try.underlying31 hif hz0 hz1 hz2 _ _ rfl OwnF.nil _ (R.take k) rfl (sl54.below hSb) (fun f hf => HONE.out f (List.mem_of_mem_take hf)) (by have := HSZR.out; simp only [List.length_nil]; omega) (Nat.zero_le _) ?_
        intro v6 W6 ho6 hgr6 hloc6
        rw [List.nil_append] at ho6
        have hSc : Below W0.heap.size W0 W6 := hSb.grown hgr6 hSb.size (fun i hi => by cases hi)
        have hbc : Below Wb.heap.size Wb W6 := (Below.refl _ _).grown hgr6 (Nat.le_refl _) (fun i hi => by cases hi)
        have hs58 := hs58b.below hbc
        have hf6 : ∀ i, v6.ownBlock = some i → W0.heap.size ≤ i := fun i hi => by
          rcases hloc6 with e | e
          · rw [e] at hi; cases hi
          · rw [e] at hi; cases hi; exact hSb.size
        have HO6 := Lib.hid ho6
        clear hgr6 hloc6 sl54 ho6 hbc hs58b
        refine hK.out _ _ hSc (fun _ => ?_)
        clear hK K
        try simp only [Act.put, List.setIfInBounds_toArray, List.set_cons_zero, List.set_cons_succ]
        generalize W6 = Wc at hSc hs58 HO6 ⊢
        refine tail_one (i := 11) (by kernel_rfl) rfl (by decide) (fun K hK => ?_)
        refine step_append_files Wc rfl (.tmp 55) (.tmp 58) 31 rfl 0 i0 Try.underlying31 hif hz0 hz1 hz2 _ _ rfl HO6.out _ [fr] rfl hs58 HONEF.out (by have := HSZR.out; simp only [List.length_singleton]; omega) (Nat.zero_le _) ?_
        intro v7 W7 ho7 hgr7 hloc7
        have hS7 : Below W0.heap.size W0 W7 := hSc.grown hgr7 hSc.size hf6
        have hf7 : ∀ i, v7.ownBlock = some i → W0.heap.size ≤ i := fun i hi => by
          rcases hloc7 with e | e
          · rw [e] at hi; exact hf6 i hi
          · rw [e] at hi; cases hi; exact hSc.size
        have HO7 := Lib.hid ho7
        clear hgr7 hloc7 ho7 HO6 hs58 hf6
        refine hK.out _ _ hS7 (fun _ => ?_)
        clear hK K
        try simp only [Act.put, List.setIfInBounds_toArray, List.set_cons_zero, List.set_cons_succ]
        refine tail_one (i := 18) (by kernel_rfl) rfl (by decide) (fun K hK => ?_)
        refine step_append_files W7 rfl (.tmp 59) (.tmp 65) 31 rfl 0 i0 Try.underlying31 hif hz0 hz1 hz2 _ _ rfl HO7.out _ (R.drop k) rfl (sl65.below hS7) (fun f hf => HONE.out f (List.mem_of_mem_drop hf)) (by have := HSZR.out; rw [List.length_append, List.length_singleton]; omega) (Nat.zero_le _) ?_
        intro v8 W8 ho8 hgr8 hloc8
        rw [← HRR.out] at ho8
        have hS8 : Below W0.heap.size W0 W8 := hS7.grown hgr8 hS7.size hf7
        have hf8 : ∀ i, v8.ownBlock = some i → W0.heap.size ≤ i := fun i hi => by
          rcases hloc8 with e | e
          · rw [e] at hi; exact hf7 i hi
          · rw [e] at hi; cases hi; exact hS7.size
        obtain ⟨g, c, hv8, _⟩ := ho8.form (by have := HKK.out; omega)
        rw [← HNN.out] at hv8
        subst hv8
        have HO8 := Lib.hid ho8
        have HF8 := Lib.hid hf8
        clear hgr8 hloc8 ho8 HO7 hf7 hf8
        refine hK.out _ _ hS8 (fun _ => ?_)
        clear hK K
        try simp only [Act.put, List.setIfInBounds_toArray, List.set_cons_zero, List.set_cons_succ]
        refine' tail_take (i := 19) (oi := ⟨some 67, _, _, _, _, _⟩) (v := _) rfl (by kernel_rfl) (by kernel_rfl) (by decide) (fun _ _ _ h => h) (Or.inl ⟨by rfl, ?y19bB⟩) hS8 ?r19bB
        case y19bB => (intro w' hSw; have s0 := HC9.out w' hSw; go_simp; try rfl)
        try simp only [Act.put, List.setIfInBounds_toArray, List.set_cons_zero, List.set_cons_succ]
        refine' tail_take (i := 20) (oi := ⟨some 68, _, _, _, _, _⟩) (v := _) rfl (by kernel_rfl) (by kernel_rfl) (by decide) (fun _ _ _ h => h) (Or.inl ⟨by rfl, ?y20bB⟩) hS8 ?r20bB
        case y20bB => (intro w' hSw; have s0 := HC9.out w' hSw; go_simp; try rfl)
        try simp only [Act.put, List.setIfInBounds_toArray, List.set_cons_zero, List.set_cons_succ]
        have hR8 := HD4.out.below hS8
        have fz := hR8.blk.frozen 0
        have fc := hR8.c0
        rw [HV.out] at fc
        have hk8 : Keep (fun i => i = q) W8 (W8.setCell ⟨q, 0, none⟩ (.slice (some ⟨g, 0, none⟩) nn c)) := Keep.setCell _ _ _ rfl
        have hfin8 : Rd (W8.setCell ⟨q, 0, none⟩ (.slice (some ⟨g, 0, none⟩) nn c)) q (.slice (some ⟨g, 0, none⟩) nn c) (wS S) RR := ⟨hR8.blk.set_ 0 _, HO8.out.kept hk8 (fun i hi e => by have := HF8.out i hi; have := HD4.out.blk.lt; omega), fun f hf => by
          rw [HRR.out] at hf
          rcases List.mem_append.1 hf with hf | hf
          · rcases List.mem_append.1 hf with hf | hf
            · exact (hR8.byt f (List.mem_of_mem_take hf)).kept hk8 (fun i hi e => (hR8.bytq (List.mem_of_mem_take hf) i hi).1 e)
            · obtain rfl : f = fr := by simpa using hf
              rw [HFR.out]; exact Own.nil
          · exact (hR8.byt f (List.mem_of_mem_drop hf)).kept hk8 (fun i hi e => (hR8.bytq (List.mem_of_mem_drop hf) i hi).1 e)⟩
        have hsl8 := hR8.slq (HSB4.out.below hS8) hk8
        have hks8 : Keep (fun i => i = q ∨ v.ownBlock = some i) w (W8.setCell ⟨q, 0, none⟩ (.slice (some ⟨g, 0, none⟩) nn c)) := trans_q (trans_q HKW.out (Keep.of_below hS8)) (hk8.mono (fun i hi => .inl hi))
        refine tail_last (by kernel_rfl) rfl (by kernel_rfl) (fun K hK => ?_)
        go_simp
        refine hK.out _ _ ?_
        clear hK K
        try simp only [Act.put, List.setIfInBounds_toArray, List.set_cons_zero, List.set_cons_succ]
        clear fz fc HC9
        obtain ⟨w5, hw5⟩ : ∃ w5, w5 = W8.setCell ⟨q, 0, none⟩ (.slice (some ⟨g, 0, none⟩) nn c) := ⟨_, rfl⟩
        have e5 : w5.heap.size = W8.heap.size := by rw [hw5]; simp
        have HSZ := Lib.hid (show w.heap.size ≤ w5.heap.size by have := HSZ4.out; have := hS8.size; omega)
        clear e5
        have HFG := Lib.hid (show ∀ i, (Value.slice (some ⟨g, 0, none⟩) nn c).ownBlock = some i → w.heap.size ≤ i from fun i hi => Nat.le_trans HSZ4.out (HF8.out i hi))
        rw [← hw5] at hfin8 hsl8 hks8
        rw [← hw5]
        have H5 := Lib.hid hfin8
        have HSB := Lib.hid hsl8
        have HK5 := Lib.hid hks8
        clear hfin8 hsl8 hks8 hR8 hk8 hw5 hS8 hS7 hSc
        obtain ⟨A1, c1, eV, hbV, x0, x1, x2, x3, xf⟩ := (H5.out.below (show Below w5.heap.size w5 w5.drew from (Below.refl _ _).drew)).fileAt HKK.out
        have HC := Lib.hid (show ∀ X, Below w5.drew.heap.size w5.drew X → X.cell? ⟨q, 0, none⟩ = some (.slice (some ⟨g, 0, none⟩) nn c) ∧ X.cell? ⟨g, k * 3 + 1, none⟩ = some (.slice A1 bl c1) from fun X hX => ⟨(hX.cell (World.block_lt_of_cell? _ _ x0)).trans (x0.trans (congrArg (fun z => some (Value.slice (some ⟨g, 0, none⟩) z c)) HNN.out.symm)), (hX.cell (World.block_lt_of_cell? _ _ x2)).trans (x2.trans (congrArg (fun z => some (Value.slice A1 z c1)) HBL.out.symm))⟩)
        have EV := Lib.hid (show fr.v = Value.slice A1 bl c1 from (congrArg Fr.v HG0.out.symm).trans (eV.trans (congrArg (fun z => Value.slice A1 z c1) HBL.out.symm)))
        have XF := Lib.hid xf
        clear x0 x1 x2 x3 xf eV hbV
        go_wp2_with fail
        refine tail_begin 18 (S := fun X => Below w5.drew.heap.size w5.drew X) hfo (by kernel_rfl) (Below.refl _ _) (fun hS0 => ?_)
        refine' tail_take (i := 0) (oi := ⟨some 69, _, _, _, _, _⟩) (v := _) rfl (by kernel_rfl) (by kernel_rfl) (by decide) (fun _ _ _ h => h) (Or.inl ⟨by rfl, ?y0bBz⟩) hS0 ?r0bBz
        case y0bBz => (intro w' hSw; obtain ⟨s0, s1⟩ := HC.out w' hSw; go_simp; try rfl)
        try simp only [Act.put, List.setIfInBounds_toArray, List.set_cons_zero, List.set_cons_succ]
        refine' tail_take (i := 1) (oi := ⟨some 70, _, _, _, _, _⟩) (v := _) rfl (by kernel_rfl) (by kernel_rfl) (by decide) (fun _ _ _ h => h) (Or.inl ⟨by rfl, ?y1bBz⟩) hS0 ?r1bBz
        case y1bBz => (intro w' hSw; obtain ⟨s0, s1⟩ := HC.out w' hSw; go_simp; try rfl)
        try simp only [Act.put, List.setIfInBounds_toArray, List.set_cons_zero, List.set_cons_succ]
        refine' tail_take (i := 2) (oi := ⟨some 71, _, _, _, _, _⟩) (v := _) rfl (by kernel_rfl) (by kernel_rfl) (by decide) (fun _ _ _ h => h) (Or.inl ⟨by rfl, ?y2bBz⟩) hS0 ?r2bBz
        case y2bBz => (intro w' hSw; obtain ⟨s0, s1⟩ := HC.out w' hSw; go_simp; try rfl)
        try simp only [Act.put, List.setIfInBounds_toArray, List.set_cons_zero, List.set_cons_succ]
        refine' tail_take (i := 3) (oi := ⟨some 72, _, _, _, _, _⟩) (v := _) rfl (by kernel_rfl) (by kernel_rfl) (by decide) (fun _ _ _ h => h) (Or.inl ⟨by rfl, ?y3bBz⟩) hS0 ?r3bBz
        case y3bBz => (intro w' hSw; obtain ⟨s0, s1⟩ := HC.out w' hSw; go_simp; try rfl)
        try simp only [Act.put, List.setIfInBounds_toArray, List.set_cons_zero, List.set_cons_succ]
        refine' tail_take (i := 4) (oi := ⟨some 73, _, _, _, _, _⟩) (v := _) rfl (by kernel_rfl) (by kernel_rfl) (by decide) (fun _ _ _ h => h) (Or.inl ⟨by rfl, ?y4bBz⟩) hS0 ?r4bBz
        case y4bBz => (intro w' hSw; obtain ⟨s0, s1⟩ := HC.out w' hSw; go_simp; try rfl)
        try simp only [Act.put, List.setIfInBounds_toArray, List.set_cons_zero, List.set_cons_succ]
        refine' tail_take (i := 5) (oi := ⟨some 74, _, _, _, _, _⟩) (v := _) rfl (by kernel_rfl) (by kernel_rfl) (by decide) (fun _ _ _ h => h) (Or.inl ⟨by rfl, ?y5bBz⟩) hS0 ?r5bBz
        case y5bBz => (intro w' hSw; obtain ⟨s0, s1⟩ := HC.out w' hSw; go_simp; try rfl)
        try simp only [Act.put, List.setIfInBounds_toArray, List.set_cons_zero, List.set_cons_succ]
        refine' tail_take (i := 6) (oi := ⟨some 75, _, _, _, _, _⟩) (v := _) rfl (by kernel_rfl) (by kernel_rfl) (by decide) (fun _ _ _ h => h) (Or.inl ⟨by rfl, ?y6bBz⟩) hS0 ?r6bBz
        case y6bBz => (intro w' hSw; obtain ⟨s0, s1⟩ := HC.out w' hSw; go_simp; try rfl)
        try simp only [Act.put, List.setIfInBounds_toArray, List.set_cons_zero, List.set_cons_succ]
        refine' tail_take (i := 7) (oi := ⟨some 76, _, _, _, _, _⟩) (v := _) rfl (by kernel_rfl) (by kernel_rfl) (by decide) (fun _ _ _ h => h) (Or.inl ⟨by rfl, ?y7bBz⟩) hS0 ?r7bBz
        case y7bBz => (intro w' hSw; obtain ⟨s0, s1⟩ := HC.out w' hSw; go_simp; try rfl)
        try simp only [Act.put, List.setIfInBounds_toArray, List.set_cons_zero, List.set_cons_succ]
        refine' tail_take (i := 8) (oi := ⟨some 77, _, _, _, _, _⟩) (v := _) rfl (by kernel_rfl) (by kernel_rfl) (by decide) (fun _ _ _ h => h) (Or.inl ⟨by rfl, ?y8bBz⟩) hS0 ?r8bBz
        case y8bBz => (intro w' hSw; obtain ⟨s0, s1⟩ := HC.out w' hSw; go_simp; try rfl)
        try simp only [Act.put, List.setIfInBounds_toArray, List.set_cons_zero, List.set_cons_succ]
        refine' tail_take (i := 9) (oi := ⟨some 78, _, _, _, _, _⟩) (v := _) rfl (by kernel_rfl) (by kernel_rfl) (by decide) (fun _ _ _ h => h) (Or.inl ⟨by rfl, ?y9bBz⟩) hS0 ?r9bBz
        case y9bBz => (intro w' hSw; obtain ⟨s0, s1⟩ := HC.out w' hSw; go_simp; try rfl)
        try simp only [Act.put, List.setIfInBounds_toArray, List.set_cons_zero, List.set_cons_succ]
        refine' tail_take (i := 10) (oi := ⟨some 79, _, _, _, _, _⟩) (v := _) rfl (by kernel_rfl) (by kernel_rfl) (by decide) (fun _ _ _ h => h) (Or.inl ⟨by rfl, ?y10bBz⟩) hS0 ?r10bBz
        case y10bBz => (intro w' hSw; obtain ⟨s0, s1⟩ := HC.out w' hSw; go_simp; try rfl)
        try simp only [Act.put, List.setIfInBounds_toArray, List.set_cons_zero, List.set_cons_succ]
        refine' tail_take (i := 11) (oi := ⟨some 80, _, _, _, _, _⟩) (v := _) rfl (by kernel_rfl) (by kernel_rfl) (by decide) (fun _ _ _ h => h) (Or.inl ⟨by rfl, ?y11bBz⟩) hS0 ?r11bBz
        case y11bBz => (intro w' hSw; obtain ⟨s0, s1⟩ := HC.out w' hSw; go_simp; try rfl)
        try simp only [Act.put, List.setIfInBounds_toArray, List.set_cons_zero, List.set_cons_succ]
        refine' tail_take (i := 12) (oi := ⟨some 81, _, _, _, _, _⟩) (v := _) rfl (by kernel_rfl) (by kernel_rfl) (by decide) (fun _ _ _ h => h) (Or.inl ⟨by rfl, ?y12bBz⟩) hS0 ?r12bBz
        case y12bBz => (intro w' hSw; obtain ⟨s0, s1⟩ := HC.out w' hSw; go_simp; try rfl)
        try simp only [Act.put, List.setIfInBounds_toArray, List.set_cons_zero, List.set_cons_succ]
        refine' tail_take (i := 14) (oi := ⟨some 83, _, _, _, _, _⟩) (v := _) rfl (by kernel_rfl) (by kernel_rfl) (by decide) (fun _ _ _ h => h) (Or.inl ⟨by rfl, ?y14bBz⟩) hS0 ?r14bBz
        case y14bBz => (intro w' hSw; obtain ⟨s0, s1⟩ := HC.out w' hSw; go_simp; try rfl)
        try simp only [Act.put, List.setIfInBounds_toArray, List.set_cons_zero, List.set_cons_succ]
        have hob : Own w5.drew 0 5 (.slice A1 bl c1) fr.bs := by have := H5.out.byt fr HF0.out; rw [EV.out] at this; exact this
        refine tail_one (i := 13) (by kernel_rfl) rfl (by decide) (fun K hK => ?_)
        refine step_append_bytesA w5.drew rfl (.const (.slice none 0 0)) (.tmp 81) 38 rfl 0 5 i0b Try.underlying38 hib hz0b hz1b hz2b _ _ rfl Own.nil _ fr.bs rfl hob.sl (by have := HLN.out; simp; omega) (Nat.zero_le _) ?_
        intro v6 W6 ho6 hgr6 hloc6
        rw [List.nil_append] at ho6
        have hS6 : Below w5.drew.heap.size w5.drew W6 := (Below.refl _ _).grown hgr6 (Nat.le_refl _) (fun i hi => by cases hi)
        have hf6 : ∀ i, v6.ownBlock = some i → w5.drew.heap.size ≤ i := fun i hi => by
          rcases hloc6 with e | e
          · rw [e] at hi; cases hi
          · rw [e] at hi; cases hi; exact Nat.le_refl _
        have HO6 := Lib.hid ho6
        obtain ⟨A6, n6, c6, hv6⟩ := ho6.shape
        clear hgr6 hloc6 ho6 hob
        refine hK.out _ _ hS6 (fun _ => ?_)
        clear hK K
        try simp only [Act.put, List.setIfInBounds_toArray, List.set_cons_zero, List.set_cons_succ]
        refine tail_one (i := 15) (by kernel_rfl) rfl (by decide) (fun K hK => ?_)
        refine step_append_bytesA W6 rfl (.tmp 82) (.tmp 83) 38 rfl 0 5 i0b Try.underlying38 hib hz0b hz1b hz2b _ _ rfl HO6.out _ b rfl ((show Sl w5.drew _ b from HSB.out.drew).below hS6) (by have := HLN.out; omega) (Nat.zero_le _) ?_
        intro v7 W7 ho7 hgr7 hloc7
        have hS7 : Below w5.drew.heap.size w5.drew W7 := hS6.grown hgr7 hS6.size hf6
        have hf7 : ∀ i, v7.ownBlock = some i → w5.heap.size ≤ i := fun i hi => by
          rcases hloc7 with e | e
          · rw [e] at hi; exact hf6 i hi
          · rw [e] at hi; cases hi; exact hS6.size
        have HO7 := Lib.hid ho7
        obtain ⟨A7, n7, c7, hv7⟩ : ∃ A n c, v7 = .slice A n c := ho7.shape
        clear hgr7 hloc7 ho7 HO6
        refine hK.out _ _ hS7 (fun _ => ?_)
        clear hK K
        try simp only [Act.put, List.setIfInBounds_toArray, List.set_cons_zero, List.set_cons_succ]
        refine' tail_take (i := 16) (oi := ⟨some 85, _, _, _, _, _⟩) (v := _) rfl (by kernel_rfl) (by kernel_rfl) (by decide) (fun _ _ _ h => h) (Or.inl ⟨by rfl, ?y16bBz⟩) hS7 ?r16bBz
        case y16bBz => (intro w' hSw; obtain ⟨s0, s1⟩ := HC.out w' hSw; go_simp; try rfl)
        try simp only [Act.put, List.setIfInBounds_toArray, List.set_cons_zero, List.set_cons_succ]
        refine' tail_take (i := 17) (oi := ⟨some 86, _, _, _, _, _⟩) (v := _) rfl (by kernel_rfl) (by kernel_rfl) (by decide) (fun _ _ _ h => h) (Or.inl ⟨by rfl, ?y17bBz⟩) hS7 ?r17bBz
        case y17bBz => (intro w' hSw; obtain ⟨s0, s1⟩ := HC.out w' hSw; go_simp; try rfl)
        try simp only [Act.put, List.setIfInBounds_toArray, List.set_cons_zero, List.set_cons_succ]
        have hR7 := H5.out.below ((show Below w5.heap.size w5 w5.drew from (Below.refl _ _).drew).trans hS7)
        obtain ⟨A9, c9, e9, _, _, _, x2, _, xf⟩ := hR7.fileAt HKK.out
        have xf1 := xf (k * 3 + 1)
        have HFIN := Lib.hid (hR7.set1 HKK.out ⟨fr.nm, fr.bs ++ b, fr.la, v7⟩ (show fr.nm = _ from congrArg Fr.nm HG0.out.symm) (show fr.la = _ from congrArg Fr.la HG0.out.symm) HO7.out)
        have HB7 := Lib.hid (show Below w5.heap.size w5 W7 from (show Below w5.heap.size w5 w5.drew from (Below.refl _ _).drew).trans hS7)
        have HF7 := Lib.hid hf7
        rw [hv7]
        rw [hv7] at HFIN HF7
        clear hR7 e9 hf7 hv7 hf6 xf
        refine tail_last (by kernel_rfl) rfl (by kernel_rfl) (fun K hK => ?_)
        go_simp
        refine hK.out _ _ ?_
        clear hK K
        try simp only [Act.put, List.setIfInBounds_toArray, List.set_cons_zero, List.set_cons_succ]
        clear xf1 x2 HC
        go_wp2_with fail
        refine (done_ref _ _).mono ?_
        rintro e wd ⟨rfl, rfl⟩
        go_wp2
        go_ret
        rw [HR.out]
        refine ⟨_, _, rfl, HFIN.out, ?_, ?_, RFoot.new (fun i hi => .inr (HFG.out i hi)) (fun f hf => ?_)⟩
        · rw [← HPL.out, pl_set, pl_set]
          rfl
        · exact keep_fresh (HK5.out.trans (Keep.of_below (S := fun i => i = q ∨ v.ownBlock = some i) HB7.out) (fun _ h => h) (fun _ _ h => h)) (HFG.out g rfl) _ _
        · rcases List.mem_or_eq_of_mem_set hf with hf | rfl
          · rw [HRR.out] at hf
            rcases List.mem_append.1 hf with hf | hf
            · rcases List.mem_append.1 hf with hf | hf
              · exact .inl (List.mem_of_mem_take hf)
              · obtain rfl : f = fr := by simpa using hf
                refine .inr (fun i hi => ?_)
                rw [HFR.out] at hi; cases hi
            · exact .inl (List.mem_of_mem_drop hf)
          · exact .inr (fun i hi => by have := HF7.out i hi; have := HSZ.out; omega)
    | false =>
      rw [hwo, hwl] at hwr HR
      simp only [Bool.false_eq_true, if_false] at HR
      have HWR := Lib.hid hwr
      clear hwr hwo hwl
      go_wp2_with fail
      refine HWR.out.mono ?_
      rintro e w4 ⟨rfl, h4, k4⟩
      have H4 := Lib.hid h4
      have HK4 := Lib.hid ((Keep.of_below (S := fun i => i = q) HB3.out).trans k4 (fun _ h => h) (fun _ _ h => h))
      clear h4 k4 z0
      go_wp2_with fail
      refine (done_ref _ _).mono ?_
      rintro e wd ⟨rfl, rfl⟩
      go_wp2
      go_ret
      rw [HR.out]
      exact RRes.num H4.out HK4.out 8
end
end Go.Proofs.Ytdbkhigocjmfoaa

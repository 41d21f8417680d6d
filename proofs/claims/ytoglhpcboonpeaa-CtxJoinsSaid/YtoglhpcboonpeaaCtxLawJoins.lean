/-
  The walk of CtxJoins.
-/
import Derived.Test.YtoglhpcboonpeaaCtxLies
import Derived.Test.YtoglhpcboonpeaaCtxKnown
namespace Go.Proofs.Ytoglhpcboonpeaa
open Go.RowKit
open CtxM
set_option linter.unusedVariables false
set_option linter.unusedSimpArgs false
set_option maxRecDepth 20000

theorem addAll_len2 (l : List Dt) : (addAll (zeros, []) l).2.length ≤ l.length := by
  have := addAll_short l (zeros, [])
  simpa using this

set_option maxHeartbeats 8000000 in
theorem joins_short (va vb vd : Value) (LA LB LD : List Dt) (w : World) (hA : Sd w va LA) (hB0 : Sd w vb LB) (hD : Sd w vd LD) (la : LA.length ≤ 100) (lb : LB.length ≤ 100) (ld : LD.length ≤ 100) :
    Calls Try.prog 4 #[va, vb, vd] w fun e w' => e = .returned (.bool true) ∧ Below w.heap.size w w' := by
  have hfo : Try.prog.follows .mixedOrders = true := by kernel_rfl
  have HA := Lib.hid hA
  have HB := Lib.hid hB0
  have HD := Lib.hid hD
  obtain ⟨A1, c1, rfl, _, _⟩ := hA
  obtain ⟨A2, c2, rfl, _, _⟩ := hB0
  obtain ⟨A3, c3, rfl, _, _⟩ := hD
  have b1 : ¬ (100 : Int) < (LA.length : Int) := by omega
  have b2 : ¬ (100 : Int) < (LB.length : Int) := by omega
  have b3 : ¬ (100 : Int) < (LD.length : Int) := by omega
  -- the sets
  have hAB := union_list LA LB
  have hBA : ∀ d, In (addAll (zeros, []) (LA ++ LB)).1 (addAll (zeros, []) (LA ++ LB)).2 d ↔ In (addAll (zeros, []) LB).1 (addAll (zeros, []) LB).2 d ∨ In (addAll (zeros, []) LA).1 (addAll (zeros, []) LA).2 d := fun d => by rw [hAB]; exact or_comm
  have hPB : ∀ d, In (addAll (zeros, []) (LA ++ LB)).1 (addAll (zeros, []) (LA ++ LB)).2 d ↔ In (addAll (zeros, []) (LA ++ LB)).1 (addAll (zeros, []) (LA ++ LB)).2 d ∨ In (addAll (zeros, []) LB).1 (addAll (zeros, []) LB).2 d := fun d => by
    rw [hAB]; exact ⟨.inl, fun h => h.elim id .inr⟩
  have hR := union_list (LA ++ LB) LD
  have hDB := union_list LD LB
  have hR2 : ∀ d, In (addAll (zeros, []) (LA ++ LB ++ LD)).1 (addAll (zeros, []) (LA ++ LB ++ LD)).2 d ↔ In (addAll (zeros, []) (LD ++ LB)).1 (addAll (zeros, []) (LD ++ LB)).2 d ∨ In (addAll (zeros, []) LA).1 (addAll (zeros, []) LA).2 d := fun d => by
    rw [hR, hAB, hDB]
    constructor
    · rintro ((h | h) | h)
      · exact .inr h
      · exact .inl (.inr h)
      · exact .inl (.inl h)
    · rintro ((h | h) | h)
      · exact .inr h
      · exact .inl (.inr h)
      · exact .inl (.inl h)
  have fA := addAll_fit LA
  have fB := addAll_fit LB
  have fD := addAll_fit LD
  have fP := addAll_fit (LA ++ LB)
  have fR := addAll_fit (LA ++ LB ++ LD)
  have fE := addAll_fit (LD ++ LB)
  have nA : (addAll (zeros, []) LA).2.length ≤ 100 := Nat.le_trans (addAll_len2 LA) la
  have nB : (addAll (zeros, []) LB).2.length ≤ 100 := Nat.le_trans (addAll_len2 LB) lb
  have nD : (addAll (zeros, []) LD).2.length ≤ 100 := Nat.le_trans (addAll_len2 LD) ld
  have nP : (addAll (zeros, []) (LA ++ LB)).2.length ≤ 200 := Nat.le_trans (addAll_len2 _) (by rw [List.length_append]; omega)
  have nR : (addAll (zeros, []) (LA ++ LB ++ LD)).2.length ≤ 300 := Nat.le_trans (addAll_len2 _) (by rw [List.length_append, List.length_append]; omega)
  have nE : (addAll (zeros, []) (LD ++ LB)).2.length ≤ 200 := Nat.le_trans (addAll_len2 _) (by rw [List.length_append]; omega)
  obtain ⟨SA, eA⟩ : ∃ S, S = addAll (zeros, []) LA := ⟨_, rfl⟩
  obtain ⟨SB, eB⟩ : ∃ S, S = addAll (zeros, []) LB := ⟨_, rfl⟩
  obtain ⟨SD, eD⟩ : ∃ S, S = addAll (zeros, []) LD := ⟨_, rfl⟩
  rw [← eA] at hAB hBA hR2 fA nA
  rw [← eB] at hAB hBA hPB hDB fB nB
  rw [← eD] at hR hDB fD nD
  generalize addAll (zeros, []) (LA ++ LB) = P at hAB hBA hPB hR fP nP
  generalize addAll (zeros, []) (LA ++ LB ++ LD) = R at hR hR2 fR nR
  generalize addAll (zeros, []) (LD ++ LB) = E at hDB hR2 fE nE
  have cPA : covB P.1 P.2 SA.1 SA.2 = true := (covB_iff fP fA).2 fun d h => (hAB d).2 (.inl h)
  have cPB : covB P.1 P.2 SB.1 SB.2 = true := (covB_iff fP fB).2 fun d h => (hAB d).2 (.inr h)
  have MATH := Lib.hid (And.intro hAB (And.intro hBA (And.intro hPB (And.intro hR (And.intro hDB hR2)))))
  have FITS := Lib.hid (And.intro fA (And.intro fB (And.intro fP (And.intro fR fE))))
  have COVS := Lib.hid (And.intro cPA cPB)
  have LENS := Lib.hid (And.intro nA (And.intro nB (And.intro nD (And.intro nP (And.intro nR nE)))))
  have EA := Lib.hid eA
  have EB := Lib.hid eB
  have ED := Lib.hid eD
  clear hAB hBA hPB hR hDB hR2 fA fB fD fP fR fE cPA cPB nA nB nD nP nR nE eA eB eD
  have h0 : Lies w w.heap.size [] := Lies.nil
  have k0 := Below.refl w.heap.size w
  have z0 := Nat.le_refl w.heap.size
  go_enter Try.func4, Try.ntmps4
  go_wp2_with fail
  refine (lies_of h0 k0 z0 _ LA HA.out (by omega)).mono ?_
  rintro e w1 ⟨gx, gu, rfl, h1, k1, z1⟩
  rw [← EA.out, List.nil_append] at h1
  clear h0 k0 z0 b1 b2 b3
  go_wp2_with fail
  refine (lies_of h1 k1 z1 _ LB (HB.out.below k1) (by omega)).mono ?_
  rintro e w2 ⟨gy, gv, rfl, h2, k2, z2⟩
  rw [← EB.out] at h2
  simp only [List.cons_append, List.nil_append] at h2
  clear h1 k1 z1
  go_wp2_with fail
  refine (lies_of h2 k2 z2 _ LD (HD.out.below k2) (by omega)).mono ?_
  rintro e w3 ⟨gz, gt, rfl, h3, k3, z3⟩
  rw [← ED.out] at h3
  simp only [List.cons_append, List.nil_append] at h3
  clear h2 k2 z2
  obtain ⟨cq, hcq⟩ : ∃ q, q = covB SA.1 SA.2 SB.1 SB.2 := ⟨_, rfl⟩
  obtain ⟨cr, hcr⟩ : ∃ q, q = covB SB.1 SB.2 SA.1 SA.2 := ⟨_, rfl⟩
  obtain ⟨cs, hcs⟩ : ∃ q, q = decide (SA = SB) := ⟨_, rfl⟩
  have CQ := Lib.hid hcq
  have CR := Lib.hid hcr
  have CS := Lib.hid hcs
  clear hcq hcr hcs
  have hcv := lies_covers h3 k3 z3 0 2 gx gy SA SB rfl rfl (by have := LENS.out; omega) (by have := LENS.out; omega)
  rw [← CQ.out] at hcv
  go_wp2_with fail
  refine hcv.mono ?_
  rintro e w4 ⟨rfl, h4, k4, z4⟩
  clear hcv h3 k3 z3
  have hcv := lies_refCovers h4 k4 z4 1 3 gu gv SA SB P rfl rfl FITS.out.2.2.1 MATH.out.1 (by have := LENS.out; omega) (by have := LENS.out; omega) (by have := LENS.out; omega)
  rw [← CQ.out] at hcv
  go_wp2_with fail
  refine hcv.mono ?_
  rintro e w5 ⟨rfl, h5, k5, z5⟩
  clear hcv h4 k4 z4
  have e1 : (cq != cq) = false := by cases cq <;> rfl
  have hcv := lies_covers h5 k5 z5 2 0 gy gx SB SA rfl rfl (by have := LENS.out; omega) (by have := LENS.out; omega)
  rw [← CR.out] at hcv
  go_wp2_with fail
  refine hcv.mono ?_
  rintro e w6 ⟨rfl, h6, k6, z6⟩
  clear hcv h5 k5 z5
  have hcv := lies_refCovers h6 k6 z6 3 1 gv gu SB SA P rfl rfl FITS.out.2.2.1 MATH.out.2.1 (by have := LENS.out; omega) (by have := LENS.out; omega) (by have := LENS.out; omega)
  rw [← CR.out] at hcv
  go_wp2_with fail
  refine hcv.mono ?_
  rintro e w7 ⟨rfl, h7, k7, z7⟩
  clear hcv h6 k6 z6
  have e2 : (cr != cr) = false := by cases cr <;> rfl
  go_wp2_with fail
  refine (lies_same h7 k7 z7 0 2 gx gy SA SB rfl rfl (by have := LENS.out; omega) (by have := LENS.out; omega) cs CS.out).mono ?_
  rintro e w8 ⟨rfl, h8, k8, z8⟩
  clear h7 k7 z7
  go_wp2_with fail
  refine (lies_refSame h8 k8 z8 1 3 gu gv SA SB rfl rfl (by have := LENS.out; omega) (by have := LENS.out; omega) cs CS.out).mono ?_
  rintro e w9 ⟨rfl, h9, k9, z9⟩
  clear h8 k8 z8
  have e3 : (cs != cs) = false := by cases cs <;> rfl
  go_wp2_with fail
  refine (lies_copy h9 k9 z9 0 gx SA rfl (by have := LENS.out; omega)).mono ?_
  rintro e w10 ⟨gp, rfl, h10, k10, z10⟩
  simp only [List.cons_append, List.nil_append] at h10
  clear h9 k9 z9
  go_wp2_with fail
  refine (lies_copy h10 k10 z10 2 gy SB rfl (by have := LENS.out; omega)).mono ?_
  rintro e w11 ⟨gq, rfl, h11, k11, z11⟩
  simp only [List.cons_append, List.nil_append] at h11
  clear h10 k10 z10
  go_wp2_with fail
  refine (lies_join h11 k11 z11 6 2 gp gy SA SB P rfl rfl FITS.out.2.2.1 MATH.out.1 (by have := LENS.out; omega) (by have := LENS.out; omega) (by have := LENS.out; omega)).mono ?_
  rintro e w12 ⟨rfl, h12, k12, z12⟩
  simp only [List.set_cons_succ, List.set_cons_zero] at h12
  clear h11 k11 z11
  go_wp2_with fail
  refine (lies_join h12 k12 z12 7 0 gq gx SB SA P rfl rfl FITS.out.2.2.1 MATH.out.2.1 (by have := LENS.out; omega) (by have := LENS.out; omega) (by have := LENS.out; omega)).mono ?_
  rintro e w13 ⟨rfl, h13, k13, z13⟩
  simp only [List.set_cons_succ, List.set_cons_zero] at h13
  clear h12 k12 z12
  go_wp2_with fail
  refine (lies_same h13 k13 z13 6 7 gp gq P P rfl rfl (by have := LENS.out; omega) (by have := LENS.out; omega) true (decide_eq_true rfl).symm).mono ?_
  rintro e w14 ⟨rfl, h14, k14, z14⟩
  clear h13 k13 z13
  have hcv := lies_covers h14 k14 z14 6 0 gp gx P SA rfl rfl (by have := LENS.out; omega) (by have := LENS.out; omega)
  rw [COVS.out.1] at hcv
  go_wp2_with fail
  refine hcv.mono ?_
  rintro e w15 ⟨rfl, h15, k15, z15⟩
  clear hcv h14 k14 z14
  have hcv := lies_covers h15 k15 z15 6 2 gp gy P SB rfl rfl (by have := LENS.out; omega) (by have := LENS.out; omega)
  rw [COVS.out.2] at hcv
  go_wp2_with fail
  refine hcv.mono ?_
  rintro e w16 ⟨rfl, h16, k16, z16⟩
  clear hcv h15 k15 z15
  go_wp2_with fail
  refine (lies_refCopy h16 k16 z16 1 gu SA rfl (by have := LENS.out; omega)).mono ?_
  rintro e w17 ⟨gw, rfl, h17, k17, z17⟩
  simp only [List.cons_append, List.nil_append] at h17
  clear h16 k16 z16
  go_wp2_with fail
  refine (lies_refJoin h17 k17 z17 8 3 (by decide) gw gv SA SB P rfl rfl FITS.out.2.2.1 MATH.out.1 (by have := LENS.out; omega) (by have := LENS.out; omega)).mono ?_
  rintro e w18 ⟨rfl, h18, k18, z18⟩
  simp only [List.set_cons_succ, List.set_cons_zero] at h18
  clear h17 k17 z17
  go_wp2_with fail
  refine (lies_alike h18 k18 z18 6 8 gp gw P rfl rfl (by have := LENS.out; omega)).mono ?_
  rintro e w19 ⟨rfl, h19, k19, z19⟩
  clear h18 k18 z18
  go_wp2_with fail
  refine (lies_join h19 k19 z19 6 2 gp gy P SB P rfl rfl FITS.out.2.2.1 MATH.out.2.2.1 (by have := LENS.out; omega) (by have := LENS.out; omega) (by have := LENS.out; omega)).mono ?_
  rintro e w20 ⟨rfl, h20, k20, z20⟩
  simp only [List.set_cons_succ, List.set_cons_zero] at h20
  clear h19 k19 z19
  go_wp2_with fail
  refine (lies_alike h20 k20 z20 6 8 gp gw P rfl rfl (by have := LENS.out; omega)).mono ?_
  rintro e w21 ⟨rfl, h21, k21, z21⟩
  clear h20 k20 z20
  go_wp2_with fail
  refine (lies_alike h21 k21 z21 0 1 gx gu SA rfl rfl (by have := LENS.out; omega)).mono ?_
  rintro e w22 ⟨rfl, h22, k22, z22⟩
  clear h21 k21 z21
  go_wp2_with fail
  refine (lies_alike h22 k22 z22 2 3 gy gv SB rfl rfl (by have := LENS.out; omega)).mono ?_
  rintro e w23 ⟨rfl, h23, k23, z23⟩
  clear h22 k22 z22
  go_wp2_with fail
  refine (lies_refJoin h23 k23 z23 8 5 (by decide) gw gt P SD R rfl rfl FITS.out.2.2.2.1 MATH.out.2.2.2.1 (by have := LENS.out; omega) (by have := LENS.out; omega)).mono ?_
  rintro e w24 ⟨rfl, h24, k24, z24⟩
  simp only [List.set_cons_succ, List.set_cons_zero] at h24
  clear h23 k23 z23
  go_wp2_with fail
  refine (lies_copy h24 k24 z24 4 gz SD rfl (by have := LENS.out; omega)).mono ?_
  rintro e w25 ⟨gr, rfl, h25, k25, z25⟩
  simp only [List.cons_append, List.nil_append] at h25
  clear h24 k24 z24
  go_wp2_with fail
  refine (lies_join h25 k25 z25 6 4 gp gz P SD R rfl rfl FITS.out.2.2.2.1 MATH.out.2.2.2.1 (by have := LENS.out; omega) (by have := LENS.out; omega) (by have := LENS.out; omega)).mono ?_
  rintro e w26 ⟨rfl, h26, k26, z26⟩
  simp only [List.set_cons_succ, List.set_cons_zero] at h26
  clear h25 k25 z25
  go_wp2_with fail
  refine (lies_join h26 k26 z26 7 4 gq gz P SD R rfl rfl FITS.out.2.2.2.1 MATH.out.2.2.2.1 (by have := LENS.out; omega) (by have := LENS.out; omega) (by have := LENS.out; omega)).mono ?_
  rintro e w27 ⟨rfl, h27, k27, z27⟩
  simp only [List.set_cons_succ, List.set_cons_zero] at h27
  clear h26 k26 z26
  go_wp2_with fail
  refine (lies_join h27 k27 z27 9 2 gr gy SD SB E rfl rfl FITS.out.2.2.2.2 MATH.out.2.2.2.2.1 (by have := LENS.out; omega) (by have := LENS.out; omega) (by have := LENS.out; omega)).mono ?_
  rintro e w28 ⟨rfl, h28, k28, z28⟩
  simp only [List.set_cons_succ, List.set_cons_zero] at h28
  clear h27 k27 z27
  go_wp2_with fail
  refine (lies_join h28 k28 z28 9 0 gr gx E SA R rfl rfl FITS.out.2.2.2.1 MATH.out.2.2.2.2.2 (by have := LENS.out; omega) (by have := LENS.out; omega) (by have := LENS.out; omega)).mono ?_
  rintro e w29 ⟨rfl, h29, k29, z29⟩
  simp only [List.set_cons_succ, List.set_cons_zero] at h29
  clear h28 k28 z28
  go_wp2_with fail
  refine (lies_alike h29 k29 z29 6 8 gp gw R rfl rfl (by have := LENS.out; omega)).mono ?_
  rintro e w30 ⟨rfl, h30, k30, z30⟩
  clear h29 k29 z29
  go_wp2_with fail
  refine (lies_same h30 k30 z30 7 6 gq gp R R rfl rfl (by have := LENS.out; omega) (by have := LENS.out; omega) true (decide_eq_true rfl).symm).mono ?_
  rintro e w31 ⟨rfl, h31, k31, z31⟩
  clear h30 k30 z30
  go_wp2_with fail
  refine (lies_same h31 k31 z31 9 6 gr gp R R rfl rfl (by have := LENS.out; omega) (by have := LENS.out; omega) true (decide_eq_true rfl).symm).mono ?_
  rintro e w32 ⟨rfl, h32, k32, z32⟩
  clear h31 k31 z31
  go_wp2_with fail
  refine (known_any w32).mono ?_
  rintro e wz ⟨rfl, hbz⟩
  go_wp2
  go_ret
  exact ⟨rfl, k32.trans (hbz.mono z32)⟩
end Go.Proofs.Ytoglhpcboonpeaa

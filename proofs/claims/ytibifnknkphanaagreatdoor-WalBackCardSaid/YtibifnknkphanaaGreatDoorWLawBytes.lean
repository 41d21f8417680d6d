/-
  The law WalBytes, over what 'known' answers.
-/
import Derived.Test.YtibifnknkphanaaGreatDoorWRefA
namespace Go.Proofs.YtibifnknkphanaaGreatDoor
open Go.RowKit Go.Maps
open DskM
set_option linter.unusedVariables false
set_option linter.unusedSimpArgs false
set_option maxRecDepth 100000
attribute [local go_sem] Oper.semAt_some

theorem wholeF_le : ∀ (f : Nat) (l : List UInt8) (o : Nat), (wholeF f l o).length ≤ f
  | 0, _, _ => Nat.le_refl _
  | f + 1, l, o => by
    unfold wholeF
    split
    · rw [List.length_cons]; have := wholeF_le f (l.drop (8 + beN (l.take 4))) (o + (8 + beN (l.take 4))); omega
    · exact Nat.zero_le _
theorem endR_eq {xs ys : List Rec} (h : xs.map (·.2) = ys.map (·.2)) : endR xs = endR ys := by
  have e : ∀ zs : List Rec, endR zs = ((zs.map (·.2)).getLast?.map (·.2)).getD 0 := fun zs => by
    unfold endR
    rw [List.getLast?_map, Option.map_map]; rfl
  rw [e, e, h]
theorem lnum_any (n : Int) (w : World) : Calls Tryz.prog 13 #[.int .i64 n] w fun e w' => e = .returned (.int .i64 n) ∧ w' = w := by
  go_enter Tryz.func13, Tryz.ntmps13
  go_wp2
  go_ret
  exact ⟨rfl, rfl⟩
set_option maxHeartbeats 4000000 in
theorem walBytes_any (w : World) (hkn : ∀ W, Below w.heap.size w W → Calls Tryz.prog 8 #[] W fun e W' => e = .returned (.bool true) ∧ Below W.heap.size W W')
    (v u : Value) (b all : List UInt8) (hv : Sl w v b) (hu : Sl w u all) :
    Calls Tryz.prog 3 #[v, u] w fun e w' => e = .returned (.bool true) ∧ Below w.heap.size w w' := by
  have hfo : Tryz.prog.follows .mixedOrders = true := by kernel_rfl
  have HKN := Lib.hid hkn
  have HV := Lib.hid hv
  have HU := Lib.hid hu
  obtain ⟨A, n, c, rfl⟩ := hv.shape
  obtain ⟨A2, n2, c2, rfl⟩ := hu.shape
  obtain rfl := hv.len
  obtain rfl := hu.len
  clear hkn hv hu
  by_cases hb1 : 20000 < b.length
  · have hbi : (20000 : Int) < (b.length : Int) := by omega
    go_enter Tryz.func3, Tryz.ntmps3
    go_wp2_with fail
    refine (HKN.out _ (Below.refl _ _)).mono ?_
    rintro e w1 ⟨rfl, hb⟩
    go_wp2
    go_ret
    exact ⟨rfl, hb⟩
  · have hbi : ¬ (20000 : Int) < (b.length : Int) := by omega
    by_cases hb2 : 20000 < all.length
    · have hbj : (20000 : Int) < (all.length : Int) := by omega
      go_enter Tryz.func3, Tryz.ntmps3
      go_wp2_with fail
      refine (HKN.out _ (Below.refl _ _)).mono ?_
      rintro e w1 ⟨rfl, hb⟩
      go_wp2
      go_ret
      exact ⟨rfl, hb⟩
    · have hbj : ¬ (20000 : Int) < (all.length : Int) := by omega
      have HRC := Lib.hid (record_any _ b w HV.out (by omega))
      have HL := Lib.hid (And.intro (show b.length ≤ 20000 by omega) (show all.length ≤ 20000 by omega))
      clear hb1 hb2
      go_enter Tryz.func3, Tryz.ntmps3
      go_wp2_with fail
      refine HRC.out.mono ?_
      rintro e w1 ⟨v1, rfl, ho1, hb1⟩
      obtain ⟨A3, n3, c3, rfl⟩ := ho1.shape
      have HX1 := Lib.hid ho1.sl
      have HB1 := Lib.hid hb1
      have HWH := Lib.hid (whole_any _ all w1 (HU.out.below hb1) (by have := HL.out; omega))
      clear HRC ho1 hb1
      go_wp2_with fail
      refine HWH.out.mono ?_
      rintro e w2 ⟨vl, xs, rfl, hxs, hrow, hsl, hb2⟩
      obtain ⟨A4, c4, rfl⟩ := row_shape hrow
      have HS1 := Lib.hid (show Sls w2 (.slice A4 xs.length c4) (xs.map (·.2.1)) from sls_own (by rw [List.length_map]; exact hrow) (by rw [List.length_map, List.length_map]) (fun j h1 h2 => by
        rw [List.getElem_map, List.getElem_map]
        exact (hsl _ (List.getElem_mem _)).sl))
      have HXS := Lib.hid hxs
      have HB2 := Lib.hid (HB1.out.trans (hb2.mono HB1.out.size))
      have HX2 := Lib.hid (HX1.out.below hb2)
      have HRW := Lib.hid (refWhole_any _ all w2 (HU.out.below HB2.out) (by have := HL.out; omega))
      clear HWH hxs hrow hsl hb2 HX1 HB1
      go_wp2_with fail
      refine HRW.out.mono ?_
      rintro e w3 ⟨vm, ys, rfl, hys, hrow, hsl, hb3⟩
      obtain ⟨A5, c5, rfl⟩ := row_shape hrow
      have HS2 := Lib.hid (show Sls w3 (.slice A5 ys.length c5) (ys.map (·.2.1)) from sls_own (by rw [List.length_map]; exact hrow) (by rw [List.length_map, List.length_map]) (fun j h1 h2 => by
        rw [List.getElem_map, List.getElem_map]
        exact (hsl _ (List.getElem_mem _)).below hb3))
      have hxy : xs.map (·.2) = ys.map (·.2) := HXS.out.trans hys.symm
      have hee := endR_eq hxy
      have hll : xs.map (·.2.1) = ys.map (·.2.1) := by
        have := congrArg (List.map Prod.fst) hxy
        rw [List.map_map, List.map_map] at this
        exact this
      have hln : (xs.map (·.2.1)).length ≤ 1000000 := by
        have h1 := congrArg List.length HXS.out
        rw [List.length_map] at h1
        have h2 := wholeF_le all.length all 0
        have h3 := HL.out.2
        rw [List.length_map, h1]
        unfold wholeP
        omega
      have HS1' := Lib.hid (HS1.out.below hb3)
      have HLL := Lib.hid (And.intro hll hln)
      have HX3 := Lib.hid (HX2.out.below hb3)
      have HB3 := Lib.hid (HB2.out.trans (hb3.mono HB2.out.size))
      rw [← hee]
      obtain ⟨N, hN⟩ : ∃ N : Int, N = (endR xs : Int) := ⟨_, rfl⟩
      rw [← hN]
      clear hN hxy hee hll hln hys hrow hsl hb3 HRW HX2 HB2 HXS HS1
      obtain ⟨lx, hlx⟩ : ∃ q, q = xs.length := ⟨_, rfl⟩
      obtain ⟨ly, hly⟩ : ∃ q, q = ys.length := ⟨_, rfl⟩
      rw [← hlx] at HS1' ⊢
      rw [← hly] at HS2 ⊢
      clear hlx hly
      obtain ⟨sx, hsx⟩ : ∃ sx : ByteArray, (⟨(recP b).toArray⟩ : ByteArray) = sx := ⟨_, rfl⟩
      have HSX := Lib.hid hsx
      clear hsx
      have HBQ := Lib.hid (show (sx.toList == sx.toList) = true by simp)
      go_wp2_with fail
      have HB := Lib.hid (show ∀ X, Below w3.heap.size w3.drew X → Below w3.heap.size w3 X from fun X hX => (Below.refl _ _).drew.trans hX)
      refine wp_region_held_drew (S := fun X => Below w3.heap.size w3.drew X) hfo (Below.refl _ _) (fun hS0 => ?_)
      obtain ⟨Z0, hZ0⟩ : ∃ Z0, Z0 = w3.drew := ⟨_, rfl⟩
      have hzz : w3.heap.size ≤ Z0.heap.size := by rw [hZ0]; exact Nat.le_refl _
      rw [← hZ0] at hS0 HB ⊢
      clear hZ0
      refine' wpAnyH_take (i := 0) (oi := ⟨some 35, _, _, _, _, _⟩) (v := _) rfl (by kernel_rfl) (by kernel_rfl) (by kernel_rfl) (fun _ _ _ h => h) (Or.inl ⟨by rfl, ?y0a⟩) hS0 ?r0a
      case y0a => (intro w' hSw; go_simp; try rfl)
      try simp only [Act.put, List.setIfInBounds_toArray, List.set_cons_zero, List.set_cons_succ, HBQ.out]
      refine' wpAnyH_take (i := 2) (oi := ⟨some 37, _, _, _, _, _⟩) (v := _) rfl (by kernel_rfl) (by kernel_rfl) (by kernel_rfl) (fun _ _ _ h => h) (Or.inl ⟨by rfl, ?y2a⟩) hS0 ?r2a
      case y2a => (intro w' hSw; go_simp; try rfl)
      try simp only [Act.put, List.setIfInBounds_toArray, List.set_cons_zero, List.set_cons_succ, HBQ.out]
      refine' wpAnyH_take (i := 1) (oi := ⟨some 36, _, _, _, _, _⟩) (v := _) rfl (by kernel_rfl) (by kernel_rfl) (by kernel_rfl) (fun _ _ _ h => h) (Or.inl ⟨by rfl, ?y1a⟩) hS0 ?r1a
      case y1a => (intro w' hSw; have hcv := conv_w (HX3.out.below (HB.out w' hSw)) HSX.out; go_simp; try rfl)
      try simp only [Act.put, List.setIfInBounds_toArray, List.set_cons_zero, List.set_cons_succ, HBQ.out]
      refine held_one (i := 3) (by kernel_rfl) rfl (fun Ka hK => ?_)
      go_simp
      refine (refRecord_any _ _ _ (HV.out.below (HB3.out.trans ((HB.out _ hS0).mono HB3.out.size))) (by have := HL.out; omega)).mono ?_
      rintro e Z1 ⟨v1, rfl, ho1, hb1⟩
      obtain ⟨A6, n6, c6, rfl⟩ := ho1.shape
      have hS1 := hS0.trans (hb1.mono (Nat.le_trans hzz hS0.size))
      have HCV := Lib.hid (conv_w ho1.sl HSX.out)
      clear ho1 hb1
      refine hK.out _ _ hS1 (fun _ => ?_)
      clear hK Ka
      try simp only [Act.put, List.setIfInBounds_toArray, List.set_cons_zero, List.set_cons_succ, HBQ.out]
      refine held_one (i := 4) (by kernel_rfl) rfl (fun Ka hK => ?_)
      have hcv := HCV.out
      go_simp
      refine hK.out _ _ hS1 (fun _ => ?_)
      clear hK Ka
      try simp only [Act.put, List.setIfInBounds_toArray, List.set_cons_zero, List.set_cons_succ, HBQ.out]
      clear HCV
      refine' wpAnyH_take (i := 5) (oi := ⟨some 40, _, _, _, _, _⟩) (v := _) rfl (by kernel_rfl) (by kernel_rfl) (by kernel_rfl) (fun _ _ _ h => h) (Or.inl ⟨by rfl, ?y5a⟩) hS1 ?r5a
      case y5a => (intro w' hSw; go_simp; try rfl)
      try simp only [Act.put, List.setIfInBounds_toArray, List.set_cons_zero, List.set_cons_succ, HBQ.out]
      refine' wpAnyH_take (i := 6) (oi := ⟨some 41, _, _, _, _, _⟩) (v := _) rfl (by kernel_rfl) (by kernel_rfl) (by kernel_rfl) (fun _ _ _ h => h) (Or.inl ⟨by rfl, ?y6a⟩) hS1 ?r6a
      case y6a => (intro w' hSw; go_simp; try rfl)
      try simp only [Act.put, List.setIfInBounds_toArray, List.set_cons_zero, List.set_cons_succ, HBQ.out]
      refine' wpAnyH_take (i := 7) (oi := ⟨some 42, _, _, _, _, _⟩) (v := _) rfl (by kernel_rfl) (by kernel_rfl) (by kernel_rfl) (fun _ _ _ h => h) (Or.inl ⟨by rfl, ?y7a⟩) hS1 ?r7a
      case y7a => (intro w' hSw; go_simp; try rfl)
      try simp only [Act.put, List.setIfInBounds_toArray, List.set_cons_zero, List.set_cons_succ, HBQ.out]
      refine held_one (i := 8) (by kernel_rfl) rfl (fun Ka hK => ?_)
      go_simp
      refine (lnum_any 0 _).mono ?_
      rintro e Z2 ⟨rfl, rfl⟩
      have hS2 := hS1
      refine hK.out _ _ hS2 (fun _ => ?_)
      clear hK Ka
      try simp only [Act.put, List.setIfInBounds_toArray, List.set_cons_zero, List.set_cons_succ, HBQ.out]
      refine' wpAnyH_take (i := 9) (oi := ⟨some 44, _, _, _, _, _⟩) (v := _) rfl (by kernel_rfl) (by kernel_rfl) (by kernel_rfl) (fun _ _ _ h => h) (Or.inl ⟨by rfl, ?y9a⟩) hS2 ?r9a
      case y9a => (intro w' hSw; go_simp; try rfl)
      try simp only [Act.put, List.setIfInBounds_toArray, List.set_cons_zero, List.set_cons_succ, HBQ.out]
      refine' wpAnyH_take (i := 10) (oi := ⟨some 45, _, _, _, _, _⟩) (v := _) rfl (by kernel_rfl) (by kernel_rfl) (by kernel_rfl) (fun _ _ _ h => h) (Or.inl ⟨by rfl, ?y10a⟩) hS2 ?r10a
      case y10a => (intro w' hSw; go_simp; try rfl)
      try simp only [Act.put, List.setIfInBounds_toArray, List.set_cons_zero, List.set_cons_succ, HBQ.out]
      refine' wpAnyH_take (i := 11) (oi := ⟨some 46, _, _, _, _, _⟩) (v := _) rfl (by kernel_rfl) (by kernel_rfl) (by kernel_rfl) (fun _ _ _ h => h) (Or.inl ⟨by rfl, ?y11a⟩) hS2 ?r11a
      case y11a => (intro w' hSw; go_simp; try rfl)
      try simp only [Act.put, List.setIfInBounds_toArray, List.set_cons_zero, List.set_cons_succ, HBQ.out]
      refine' wpAnyH_take (i := 12) (oi := ⟨some 47, _, _, _, _, _⟩) (v := _) rfl (by kernel_rfl) (by kernel_rfl) (by kernel_rfl) (fun _ _ _ h => h) (Or.inl ⟨by rfl, ?y12a⟩) hS2 ?r12a
      case y12a => (intro w' hSw; go_simp; try rfl)
      try simp only [Act.put, List.setIfInBounds_toArray, List.set_cons_zero, List.set_cons_succ, HBQ.out]
      refine' wpAnyH_take (i := 13) (oi := ⟨some 48, _, _, _, _, _⟩) (v := _) rfl (by kernel_rfl) (by kernel_rfl) (by kernel_rfl) (fun _ _ _ h => h) (Or.inl ⟨by rfl, ?y13a⟩) hS2 ?r13a
      case y13a => (intro w' hSw; go_simp; try rfl)
      try simp only [Act.put, List.setIfInBounds_toArray, List.set_cons_zero, List.set_cons_succ, HBQ.out]
      refine held_one (i := 14) (by kernel_rfl) rfl (fun Ka hK => ?_)
      go_simp
      refine (sameLists_any _ _ _ _ _ (HS1'.out.below (HB.out _ hS2)) (HS2.out.below (HB.out _ hS2)) HLL.out.2).mono ?_
      rintro e Z3 ⟨rfl, hb3⟩
      have hS3 := hS2.trans (hb3.mono (Nat.le_trans hzz hS2.size))
      rw [decide_eq_true HLL.out.1]
      clear hb3
      refine hK.out _ _ hS3 (fun _ => ?_)
      clear hK Ka
      try simp only [Act.put, List.setIfInBounds_toArray, List.set_cons_zero, List.set_cons_succ, HBQ.out]
      refine' wpAnyH_take (i := 15) (oi := ⟨some 50, _, _, _, _, _⟩) (v := _) rfl (by kernel_rfl) (by kernel_rfl) (by kernel_rfl) (fun _ _ _ h => h) (Or.inl ⟨by rfl, ?y15a⟩) hS3 ?r15a
      case y15a => (intro w' hSw; go_simp; try rfl)
      try simp only [Act.put, List.setIfInBounds_toArray, List.set_cons_zero, List.set_cons_succ, HBQ.out]
      refine' wpAnyH_take (i := 16) (oi := ⟨some 51, _, _, _, _, _⟩) (v := _) rfl (by kernel_rfl) (by kernel_rfl) (by kernel_rfl) (fun _ _ _ h => h) (Or.inl ⟨by rfl, ?y16a⟩) hS3 ?r16a
      case y16a => (intro w' hSw; go_simp; try rfl)
      try simp only [Act.put, List.setIfInBounds_toArray, List.set_cons_zero, List.set_cons_succ, HBQ.out]
      refine' wpAnyH_take (i := 17) (oi := ⟨some 52, _, _, _, _, _⟩) (v := _) rfl (by kernel_rfl) (by kernel_rfl) (by kernel_rfl) (fun _ _ _ h => h) (Or.inl ⟨by rfl, ?y17a⟩) hS3 ?r17a
      case y17a => (intro w' hSw; go_simp; try rfl)
      try simp only [Act.put, List.setIfInBounds_toArray, List.set_cons_zero, List.set_cons_succ, HBQ.out]
      refine' wpAnyH_take (i := 18) (oi := ⟨some 53, _, _, _, _, _⟩) (v := _) rfl (by kernel_rfl) (by kernel_rfl) (by kernel_rfl) (fun _ _ _ h => h) (Or.inl ⟨by rfl, ?y18a⟩) hS3 ?r18a
      case y18a => (intro w' hSw; go_simp; try rfl)
      try simp only [Act.put, List.setIfInBounds_toArray, List.set_cons_zero, List.set_cons_succ, HBQ.out]
      refine' wpAnyH_take (i := 19) (oi := ⟨some 54, _, _, _, _, _⟩) (v := _) rfl (by kernel_rfl) (by kernel_rfl) (by kernel_rfl) (fun _ _ _ h => h) (Or.inl ⟨by rfl, ?y19a⟩) hS3 ?r19a
      case y19a => (intro w' hSw; go_simp; try rfl)
      try simp only [Act.put, List.setIfInBounds_toArray, List.set_cons_zero, List.set_cons_succ, HBQ.out]
      refine' wpAnyH_take (i := 20) (oi := ⟨some 55, _, _, _, _, _⟩) (v := _) rfl (by kernel_rfl) (by kernel_rfl) (by kernel_rfl) (fun _ _ _ h => h) (Or.inl ⟨by rfl, ?y20a⟩) hS3 ?r20a
      case y20a => (intro w' hSw; go_simp; try rfl)
      try simp only [Act.put, List.setIfInBounds_toArray, List.set_cons_zero, List.set_cons_succ, HBQ.out]
      refine' wpAnyH_take (i := 21) (oi := ⟨some 56, _, _, _, _, _⟩) (v := _) rfl (by kernel_rfl) (by kernel_rfl) (by kernel_rfl) (fun _ _ _ h => h) (Or.inl ⟨by rfl, ?y21a⟩) hS3 ?r21a
      case y21a => (intro w' hSw; go_simp; try rfl)
      try simp only [Act.put, List.setIfInBounds_toArray, List.set_cons_zero, List.set_cons_succ, HBQ.out]
      refine held_one (i := 22) (by kernel_rfl) rfl (fun Ka hK => ?_)
      go_simp
      refine (HKN.out _ (HB3.out.trans ((HB.out _ hS3).mono HB3.out.size))).mono ?_
      rintro e Z4 ⟨rfl, hb4⟩
      have hS4 := hS3.trans (hb4.mono (Nat.le_trans hzz hS3.size))
      clear hb4
      refine hK.out _ _ hS4 (fun _ => ?_)
      clear hK Ka
      try simp only [Act.put, List.setIfInBounds_toArray, List.set_cons_zero, List.set_cons_succ, HBQ.out]
      refine' wpAnyH_take (i := 23) (oi := ⟨some 58, _, _, _, _, _⟩) (v := _) rfl (by kernel_rfl) (by kernel_rfl) (by kernel_rfl) (fun _ _ _ h => h) (Or.inl ⟨by rfl, ?y23a⟩) hS4 ?r23a
      case y23a => (intro w' hSw; go_simp; try rfl)
      try simp only [Act.put, List.setIfInBounds_toArray, List.set_cons_zero, List.set_cons_succ, HBQ.out]
      refine' wpAnyH_take (i := 24) (oi := ⟨some 4, _, _, _, _, _⟩) (v := _) rfl (by kernel_rfl) (by kernel_rfl) (by kernel_rfl) (fun _ _ _ h => h) (Or.inl ⟨by rfl, ?y24a⟩) hS4 ?r24a
      case y24a => (intro w' hSw; go_simp; try rfl)
      try simp only [Act.put, List.setIfInBounds_toArray, List.set_cons_zero, List.set_cons_succ, HBQ.out]
      refine wpAnyH_done (by kernel_rfl) ?_ _
      have HZ := Lib.hid (HB3.out.trans ((HB.out _ hS4).mono HB3.out.size))
      clear hS0 hS1 hS2 hS3 hS4 HB hzz
      go_wp2
      go_ret
      exact ⟨rfl, HZ.out⟩
end Go.Proofs.YtibifnknkphanaaGreatDoor

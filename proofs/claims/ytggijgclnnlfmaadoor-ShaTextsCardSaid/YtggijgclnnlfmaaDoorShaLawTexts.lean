/-
  The walk of minsterlaw03.ShaTexts.
-/
import Derived.Test.YtggijgclnnlfmaaDoorShaRefOf
import Derived.Test.YtggijgclnnlfmaaDoorShaRefPrime
import Derived.Test.YtggijgclnnlfmaaDoorHexR
namespace Go.Proofs.YtggijgclnnlfmaaDoor
open Go.RowKit
set_option linter.unusedVariables false
set_option linter.unusedSimpArgs false

theorem load_hash {w : World} {g : Nat} {T : Array Value} (hB : Blk w g 28 T) (hi : (Tryd.prog.info? 28).map (·.size) = some T.size) :
    (Instr.loadAt 28 (.pointer (some ⟨g, 0, none⟩))).run Tryd.prog w = .ok (.agg T) w := by
  have hR : w.rangeAt g 0 T.toList := fun i v hv => by rw [Nat.zero_add, hB.cell i]; simpa using hv
  have hld := run_loadAt_mid (P := Tryd.prog) w g 0 28 T.toList _ hR Tryd.underlying28 rfl (by rw [Array.length_toList]; exact hi)
  rw [Array.toArray_toList] at hld
  exact hld

set_option maxRecDepth 100000 in
set_option maxHeartbeats 4000000 in
theorem law_texts (a b : List UInt8) (s : ByteArray) (i : Int) (w : World) (ha : a.length = 32) (hb : b.length = 32) (hg : Gl w) :
    Calls Tryd.prog 5 #[.agg (rowB a), .agg (rowB b), .string s, .int .i64 i] w fun e w' => e = .returned (.bool true) ∧ Below w.heap.size w w' := by
  have hiA := rowB_info ha
  have hiB := rowB_info hb
  have HTX := Lib.hid (fun w => text_any a w ha)
  have HEC := Lib.hid (fun w => equal_any a b ha hb w)
  have HEQ := Lib.hid (fun w => hash_eq a b ha hb w)
  have HSL := Lib.hid (fun (w' : World) (h : Blk w' w.heap.size 28 (rowB a)) => h.bytes 32 32 ha.symm (Nat.le_refl _))
  have HA := Lib.hid ha
  have hBA := (Blk.new w 28 (rowB a)).alloc (.cells (rowB b) 28)
  have hBB := Blk.new (w.alloc (.cells (rowB a) 28)) 28 (rowB b)
  rw [show (w.alloc (.cells (rowB a) 28)).heap.size = w.heap.size + 1 by simp] at hBB
  have hbw : Below w.heap.size w ((w.alloc (.cells (rowB a) 28)).alloc (.cells (rowB b) 28)) := ((Below.refl _ _).alloc (Nat.le_refl _) _).alloc (by simp) _
  replace hg := (hg.alloc (.cells (rowB a) 28)).alloc (.cells (rowB b) 28)
  generalize decide (a = b) = r at HEC HEQ
  generalize rowB a = TA at hiA HTX HEC HEQ HSL hBA hBB hbw hg ⊢
  generalize rowB b = TB at hiB HEC HEQ hBA hBB hbw hg ⊢
  clear ha hb
  go_enter Tryd.func5, Tryd.ntmps5
  go_upto_region 1 with (fail)
  generalize (w.alloc (.cells TA 28)).alloc (.cells TB 28) = W0 at hBA hBB hbw hg ⊢
  by_cases h300 : 300 < s.size
  · go_wp2_with fail
    refine (known_any _ hg).mono ?_
    rintro e w1 ⟨rfl, hx⟩
    go_wp2
    go_ret
    exact ⟨rfl, hbw.trans (hx.mono hbw.size)⟩
  · go_wp2_with fail
    refine (of_any s _).mono ?_
    rintro e w1 ⟨TT, n, rfl, hx, hr1⟩
    replace hBA := hBA.below hx hBA.lt
    replace hBB := hBB.below hx hBB.lt
    replace hg := hg.below hx
    replace hbw := hbw.trans (hx.mono hbw.size)
    clear hx
    have hT : ∃ m : List UInt8, TT = rowB m ∧ m.length = 32 := by
      rcases hr1 with ⟨m, _, hm, _, rfl⟩ | ⟨_, _, rfl⟩
      · exact ⟨m, rfl, hm⟩
      · exact ⟨_, rfl, by simp⟩
    obtain ⟨m, hTm, hml⟩ := hT
    have hTs : TT.size = 32 := by rw [hTm, rowB_size, hml]
    have hiT : (Tryd.prog.info? 28).map (·.size) = some TT.size := by rw [info_h32, hTs]
    have h1T : TT.all (·.oneCell') = true := by rw [hTm]; exact rowB_one m
    have HTT := Lib.hid (show ∀ w, (Op.equalIn 10000 28 (.agg TT) (.agg TT)).run Tryd.prog w = .ok true w by rw [hTm]; exact hash_self m hml)
    have HR1 := Lib.hid hr1
    clear hTm hr1 hml
    obtain ⟨hth, hN, hbN⟩ := fresh_row w1 28 TT 32 hTs
    go_upto_region 4 with (refine wpList_store_mid rfl 28 _ _ rfl w1.heap.size 0 TT rfl rfl hth hiT h1T ?_)
    change Code.wp _ _ _ _ ((w1.alloc (.cells (rowB (List.replicate 32 0)) 28)).setCells w1.heap.size 0 TT.toList)
    replace hBA := hBA.below hbN hBA.lt
    replace hBB := hBB.below hbN hBB.lt
    replace hg := hg.below hbN
    replace hbw := hbw.trans (hbN.mono hbw.size)
    generalize (w1.alloc (.cells (rowB (List.replicate 32 0)) 28)).setCells w1.heap.size 0 TT.toList = W3 at hBA hBB hg hbw hN  ⊢
    clear hth hbN
    generalize w1.heap.size = g9 at hN ⊢
    have hB9 := hN
    clear hN
    go_wp2_with fail
    refine (refOf_any s _ (by omega)).mono ?_
    rintro e w4 ⟨T2, bb, rfl, hx, hr2⟩
    replace hBA := hBA.below hx hBA.lt
    replace hBB := hBB.below hx hBB.lt
    replace hg := hg.below hx
    replace hbw := hbw.trans (hx.mono hbw.size)
    replace hB9 := hB9.below hx hB9.lt
    clear hx
    have hcase : T2 = TT ∧ ((n = 0 ∧ bb = true) ∨ (n = 4 ∧ bb = false)) := by
      rcases HR1.out with ⟨m1, e1, _, rfl, rfl⟩ | ⟨e1, rfl, rfl⟩ <;> rcases hr2 with ⟨m2, e2, _, rfl, rfl⟩ | ⟨e2, rfl, rfl⟩
      · rw [e1] at e2; injection e2 with e2; subst e2; exact ⟨rfl, .inl ⟨rfl, rfl⟩⟩
      · rw [e1] at e2; cases e2
      · rw [e1] at e2; cases e2
      · exact ⟨rfl, .inr ⟨rfl, rfl⟩⟩
    clear hr2 HR1
    obtain ⟨hTT2, hcase⟩ := hcase
    rw [hTT2]
    clear hTT2
    obtain ⟨hth, hN, hbN⟩ := fresh_row w4 28 TT 32 hTs
    go_upto_region 5 with (refine wpList_store_mid rfl 28 _ _ rfl w4.heap.size 0 TT rfl rfl hth hiT h1T ?_)
    change Code.wp _ _ _ _ ((w4.alloc (.cells (rowB (List.replicate 32 0)) 28)).setCells w4.heap.size 0 TT.toList)
    replace hBA := hBA.below hbN hBA.lt
    replace hBB := hBB.below hbN hBB.lt
    replace hg := hg.below hbN
    replace hbw := hbw.trans (hbN.mono hbw.size)
    replace hB9 := hB9.below hbN hB9.lt
    generalize (w4.alloc (.cells (rowB (List.replicate 32 0)) 28)).setCells w4.heap.size 0 TT.toList = W9 at hBA hBB hg hbw hN hB9 ⊢
    clear hth hbN
    generalize w4.heap.size = g11 at hN ⊢
    have hB11 := hN
    clear hN
    rcases hcase with ⟨rfl, rfl⟩ | ⟨rfl, rfl⟩
    · skip
      refine wp_region_held_drew (S := (fun w' => Blk w' w.heap.size 28 TA ∧ Blk w' (w.heap.size + 1) 28 TB ∧ Blk w' g9 28 TT ∧ Blk w' g11 28 TT)) (by kernel_rfl) ⟨hBA.drew, hBB.drew, hB9.drew, hB11.drew⟩ (fun _ => ?_)
      replace hBA := hBA.drew
      replace hBB := hBB.drew
      replace hB9 := hB9.drew
      replace hB11 := hB11.drew
      replace hg := hg.drew
      replace hbw := hbw.drew
      generalize W9.drew = x0 at hBA hBB hB9 hB11 hg hbw ⊢
      refine' wpAnyH_take (i := 0) (oi := ⟨some 27, _, _, _, _, _⟩) (v := .agg TA) rfl (by kernel_rfl) (by kernel_rfl) (by kernel_rfl) (fun _ _ _ h => h) (Or.inl ⟨by rfl, ?y0a⟩) ⟨hBA, hBB, hB9, hB11⟩ ?r0a
      case y0a => (intro w' hSw; exact run_exec_load _ _ _ _ rfl _ _ rfl _ (load_hash hSw.1 hiA))
      try simp only [Act.put, List.setIfInBounds_toArray, List.set_cons_zero, List.set_cons_succ]
      refine' wpAnyH_take (i := 2) (oi := ⟨some 29, _, _, _, _, _⟩) (v := _) rfl (by kernel_rfl) (by kernel_rfl) (by kernel_rfl) (fun _ _ _ h => h) (Or.inl ⟨by rfl, ?y2a⟩) ⟨hBA, hBB, hB9, hB11⟩ ?r2a
      case y2a => (intro w' hSw; go_simp; try rfl)
      try simp only [Act.put, List.setIfInBounds_toArray, List.set_cons_zero, List.set_cons_succ]
      refine held_one (i := 1) (by kernel_rfl) rfl (fun K hK => ?_)
      go_simp
      refine (HTX.out _).mono ?_
      rintro e wx ⟨rfl, hx⟩
      replace hBA := hBA.below hx hBA.lt
      replace hBB := hBB.below hx hBB.lt
      replace hg := hg.below hx
      replace hbw := hbw.trans (hx.mono hbw.size)
      replace hB9 := hB9.below hx hB9.lt
      replace hB11 := hB11.below hx hB11.lt
      clear hx
      refine hK.out _ _ ⟨hBA, hBB, hB9, hB11⟩ (fun _ => ?_)
      clear hK K
      refine held_one (i := 3) (by kernel_rfl) rfl (fun K hK => ?_)
      go_simp
      refine (refHex_any _ a _ (HSL.out _ hBA) (by have := HA.out; omega)).mono ?_
      rintro e wx ⟨rfl, hx⟩
      replace hBA := hBA.below hx hBA.lt
      replace hBB := hBB.below hx hBB.lt
      replace hg := hg.below hx
      replace hbw := hbw.trans (hx.mono hbw.size)
      replace hB9 := hB9.below hx hB9.lt
      replace hB11 := hB11.below hx hB11.lt
      clear hx
      refine hK.out _ _ ⟨hBA, hBB, hB9, hB11⟩ (fun _ => ?_)
      clear hK K
      refine' wpAnyH_take (i := 4) (oi := ⟨some 31, _, _, _, _, _⟩) (v := _) rfl (by kernel_rfl) (by kernel_rfl) (by kernel_rfl) (fun _ _ _ h => h) (Or.inl ⟨by rfl, ?y4a⟩) ⟨hBA, hBB, hB9, hB11⟩ ?r4a
      case y4a => (intro w' hSw; go_simp; try rfl)
      try simp only [Act.put, List.setIfInBounds_toArray, List.set_cons_zero, List.set_cons_succ]
      refine' wpAnyH_take (i := 5) (oi := ⟨some 32, _, _, _, _, _⟩) (v := _) rfl (by kernel_rfl) (by kernel_rfl) (by kernel_rfl) (fun _ _ _ h => h) (Or.inl ⟨by rfl, ?y5a⟩) ⟨hBA, hBB, hB9, hB11⟩ ?r5a
      case y5a => (intro w' hSw; go_simp; try rfl)
      try simp only [Act.put, List.setIfInBounds_toArray, List.set_cons_zero, List.set_cons_succ]
      refine' wpAnyH_take (i := 6) (oi := ⟨some 33, _, _, _, _, _⟩) (v := .agg TA) rfl (by kernel_rfl) (by kernel_rfl) (by kernel_rfl) (fun _ _ _ h => h) (Or.inl ⟨by rfl, ?y6a⟩) ⟨hBA, hBB, hB9, hB11⟩ ?r6a
      case y6a => (intro w' hSw; exact run_exec_load _ _ _ _ rfl _ _ rfl _ (load_hash hSw.1 hiA))
      try simp only [Act.put, List.setIfInBounds_toArray, List.set_cons_zero, List.set_cons_succ]
      refine' wpAnyH_take (i := 7) (oi := ⟨some 34, _, _, _, _, _⟩) (v := .agg TB) rfl (by kernel_rfl) (by kernel_rfl) (by kernel_rfl) (fun _ _ _ h => h) (Or.inl ⟨by rfl, ?y7a⟩) ⟨hBA, hBB, hB9, hB11⟩ ?r7a
      case y7a => (intro w' hSw; exact run_exec_load _ _ _ _ rfl _ _ rfl _ (load_hash hSw.2.1 hiB))
      try simp only [Act.put, List.setIfInBounds_toArray, List.set_cons_zero, List.set_cons_succ]
      refine' wpAnyH_take (i := 9) (oi := ⟨some 36, _, _, _, _, _⟩) (v := .agg TA) rfl (by kernel_rfl) (by kernel_rfl) (by kernel_rfl) (fun _ _ _ h => h) (Or.inl ⟨by rfl, ?y9a⟩) ⟨hBA, hBB, hB9, hB11⟩ ?r9a
      case y9a => (intro w' hSw; exact run_exec_load _ _ _ _ rfl _ _ rfl _ (load_hash hSw.1 hiA))
      try simp only [Act.put, List.setIfInBounds_toArray, List.set_cons_zero, List.set_cons_succ]
      refine' wpAnyH_take (i := 10) (oi := ⟨some 37, _, _, _, _, _⟩) (v := .agg TB) rfl (by kernel_rfl) (by kernel_rfl) (by kernel_rfl) (fun _ _ _ h => h) (Or.inl ⟨by rfl, ?y10a⟩) ⟨hBA, hBB, hB9, hB11⟩ ?r10a
      case y10a => (intro w' hSw; exact run_exec_load _ _ _ _ rfl _ _ rfl _ (load_hash hSw.2.1 hiB))
      try simp only [Act.put, List.setIfInBounds_toArray, List.set_cons_zero, List.set_cons_succ]
      refine' wpAnyH_take (i := 11) (oi := ⟨some 38, _, _, _, _, _⟩) (v := _) rfl (by kernel_rfl) (by kernel_rfl) (by kernel_rfl) (fun _ _ _ h => h) (Or.inl ⟨by rfl, ?y11a⟩) ⟨hBA, hBB, hB9, hB11⟩ ?r11a
      case y11a => (intro w' hSw; have q := HEQ.out w'; go_simp; try rfl)
      try simp only [Act.put, List.setIfInBounds_toArray, List.set_cons_zero, List.set_cons_succ]
      refine held_one (i := 8) (by kernel_rfl) rfl (fun K hK => ?_)
      go_simp
      refine (HEC.out _).mono ?_
      rintro e wx ⟨rfl, hx⟩
      replace hBA := hBA.below hx hBA.lt
      replace hBB := hBB.below hx hBB.lt
      replace hg := hg.below hx
      replace hbw := hbw.trans (hx.mono hbw.size)
      replace hB9 := hB9.below hx hB9.lt
      replace hB11 := hB11.below hx hB11.lt
      clear hx
      refine hK.out _ _ ⟨hBA, hBB, hB9, hB11⟩ (fun _ => ?_)
      clear hK K
      refine' wpAnyH_take (i := 12) (oi := ⟨some 39, _, _, _, _, _⟩) (v := _) rfl (by kernel_rfl) (by kernel_rfl) (by kernel_rfl) (fun _ _ _ h => h) (Or.inl ⟨by rfl, ?y12a⟩) ⟨hBA, hBB, hB9, hB11⟩ ?r12a
      case y12a => (intro w' hSw; go_simp; try rfl)
      try simp only [Act.put, List.setIfInBounds_toArray, List.set_cons_zero, List.set_cons_succ]
      refine' wpAnyH_take (i := 13) (oi := ⟨some 40, _, _, _, _, _⟩) (v := _) rfl (by kernel_rfl) (by kernel_rfl) (by kernel_rfl) (fun _ _ _ h => h) (Or.inl ⟨by rfl, ?y13a⟩) ⟨hBA, hBB, hB9, hB11⟩ ?r13a
      case y13a => (intro w' hSw; go_simp; try rfl)
      try simp only [Act.put, List.setIfInBounds_toArray, List.set_cons_zero, List.set_cons_succ]
      refine' wpAnyH_take (i := 14) (oi := ⟨some 41, _, _, _, _, _⟩) (v := _) rfl (by kernel_rfl) (by kernel_rfl) (by kernel_rfl) (fun _ _ _ h => h) (Or.inl ⟨by rfl, ?y14a⟩) ⟨hBA, hBB, hB9, hB11⟩ ?r14a
      case y14a => (intro w' hSw; go_simp; try rfl)
      try simp only [Act.put, List.setIfInBounds_toArray, List.set_cons_zero, List.set_cons_succ]
      refine' wpAnyH_take (i := 15) (oi := ⟨some 42, _, _, _, _, _⟩) (v := .agg TT) rfl (by kernel_rfl) (by kernel_rfl) (by kernel_rfl) (fun _ _ _ h => h) (Or.inl ⟨by rfl, ?y15a⟩) ⟨hBA, hBB, hB9, hB11⟩ ?r15a
      case y15a => (intro w' hSw; exact run_exec_load _ _ _ _ rfl _ _ rfl _ (load_hash hSw.2.2.1 hiT))
      try simp only [Act.put, List.setIfInBounds_toArray, List.set_cons_zero, List.set_cons_succ]
      refine' wpAnyH_take (i := 16) (oi := ⟨some 43, _, _, _, _, _⟩) (v := .agg TT) rfl (by kernel_rfl) (by kernel_rfl) (by kernel_rfl) (fun _ _ _ h => h) (Or.inl ⟨by rfl, ?y16a⟩) ⟨hBA, hBB, hB9, hB11⟩ ?r16a
      case y16a => (intro w' hSw; exact run_exec_load _ _ _ _ rfl _ _ rfl _ (load_hash hSw.2.2.2 hiT))
      try simp only [Act.put, List.setIfInBounds_toArray, List.set_cons_zero, List.set_cons_succ]
      refine' wpAnyH_take (i := 17) (oi := ⟨some 44, _, _, _, _, _⟩) (v := _) rfl (by kernel_rfl) (by kernel_rfl) (by kernel_rfl) (fun _ _ _ h => h) (Or.inl ⟨by rfl, ?y17a⟩) ⟨hBA, hBB, hB9, hB11⟩ ?r17a
      case y17a => (intro w' hSw; have q := HTT.out w'; go_simp; try rfl)
      try simp only [Act.put, List.setIfInBounds_toArray, List.set_cons_zero, List.set_cons_succ]
      refine' wpAnyH_take (i := 18) (oi := ⟨some 45, _, _, _, _, _⟩) (v := _) rfl (by kernel_rfl) (by kernel_rfl) (by kernel_rfl) (fun _ _ _ h => h) (Or.inl ⟨by rfl, ?y18a⟩) ⟨hBA, hBB, hB9, hB11⟩ ?r18a
      case y18a => (intro w' hSw; go_simp; try rfl)
      try simp only [Act.put, List.setIfInBounds_toArray, List.set_cons_zero, List.set_cons_succ]
      refine' wpAnyH_take (i := 19) (oi := ⟨some 46, _, _, _, _, _⟩) (v := _) rfl (by kernel_rfl) (by kernel_rfl) (by kernel_rfl) (fun _ _ _ h => h) (Or.inl ⟨by rfl, ?y19a⟩) ⟨hBA, hBB, hB9, hB11⟩ ?r19a
      case y19a => (intro w' hSw; go_simp; try rfl)
      try simp only [Act.put, List.setIfInBounds_toArray, List.set_cons_zero, List.set_cons_succ]
      refine' wpAnyH_take (i := 20) (oi := ⟨some 47, _, _, _, _, _⟩) (v := _) rfl (by kernel_rfl) (by kernel_rfl) (by kernel_rfl) (fun _ _ _ h => h) (Or.inl ⟨by rfl, ?y20a⟩) ⟨hBA, hBB, hB9, hB11⟩ ?r20a
      case y20a => (intro w' hSw; go_simp; try rfl)
      try simp only [Act.put, List.setIfInBounds_toArray, List.set_cons_zero, List.set_cons_succ]
      refine' wpAnyH_take (i := 23) (oi := ⟨some 50, _, _, _, _, _⟩) (v := _) rfl (by kernel_rfl) (by kernel_rfl) (by kernel_rfl) (fun _ _ _ h => h) (Or.inl ⟨by rfl, ?y23a⟩) ⟨hBA, hBB, hB9, hB11⟩ ?r23a
      case y23a => (intro w' hSw; go_simp; try rfl)
      try simp only [Act.put, List.setIfInBounds_toArray, List.set_cons_zero, List.set_cons_succ]
      refine held_one (i := 21) (by kernel_rfl) rfl (fun K hK => ?_)
      go_simp
      refine (num_any _ _).mono ?_
      rintro e wx ⟨rfl, rfl⟩
      refine hK.out _ _ ⟨hBA, hBB, hB9, hB11⟩ (fun _ => ?_)
      clear hK K
      refine' wpAnyH_take (i := 22) (oi := ⟨some 49, _, _, _, _, _⟩) (v := _) rfl (by kernel_rfl) (by kernel_rfl) (by kernel_rfl) (fun _ _ _ h => h) (Or.inl ⟨by rfl, ?y22a⟩) ⟨hBA, hBB, hB9, hB11⟩ ?r22a
      case y22a => (intro w' hSw; go_simp; try rfl)
      try simp only [Act.put, List.setIfInBounds_toArray, List.set_cons_zero, List.set_cons_succ]
      refine' wpAnyH_take (i := 24) (oi := ⟨some 51, _, _, _, _, _⟩) (v := _) rfl (by kernel_rfl) (by kernel_rfl) (by kernel_rfl) (fun _ _ _ h => h) (Or.inl ⟨by rfl, ?y24a⟩) ⟨hBA, hBB, hB9, hB11⟩ ?r24a
      case y24a => (intro w' hSw; go_simp; try rfl)
      try simp only [Act.put, List.setIfInBounds_toArray, List.set_cons_zero, List.set_cons_succ]
      refine' wpAnyH_take (i := 25) (oi := ⟨some 52, _, _, _, _, _⟩) (v := _) rfl (by kernel_rfl) (by kernel_rfl) (by kernel_rfl) (fun _ _ _ h => h) (Or.inl ⟨by rfl, ?y25a⟩) ⟨hBA, hBB, hB9, hB11⟩ ?r25a
      case y25a => (intro w' hSw; go_simp; try rfl)
      try simp only [Act.put, List.setIfInBounds_toArray, List.set_cons_zero, List.set_cons_succ]
      refine' wpAnyH_take (i := 26) (oi := ⟨some 53, _, _, _, _, _⟩) (v := _) rfl (by kernel_rfl) (by kernel_rfl) (by kernel_rfl) (fun _ _ _ h => h) (Or.inl ⟨by rfl, ?y26a⟩) ⟨hBA, hBB, hB9, hB11⟩ ?r26a
      case y26a => (intro w' hSw; go_simp; try rfl)
      try simp only [Act.put, List.setIfInBounds_toArray, List.set_cons_zero, List.set_cons_succ]
      refine' wpAnyH_take (i := 27) (oi := ⟨some 54, _, _, _, _, _⟩) (v := _) rfl (by kernel_rfl) (by kernel_rfl) (by kernel_rfl) (fun _ _ _ h => h) (Or.inl ⟨by rfl, ?y27a⟩) ⟨hBA, hBB, hB9, hB11⟩ ?r27a
      case y27a => (intro w' hSw; go_simp; try rfl)
      try simp only [Act.put, List.setIfInBounds_toArray, List.set_cons_zero, List.set_cons_succ]
      refine' wpAnyH_take (i := 28) (oi := ⟨some 55, _, _, _, _, _⟩) (v := _) rfl (by kernel_rfl) (by kernel_rfl) (by kernel_rfl) (fun _ _ _ h => h) (Or.inl ⟨by rfl, ?y28a⟩) ⟨hBA, hBB, hB9, hB11⟩ ?r28a
      case y28a => (intro w' hSw; go_simp; try rfl)
      try simp only [Act.put, List.setIfInBounds_toArray, List.set_cons_zero, List.set_cons_succ]
      refine' wpAnyH_take (i := 29) (oi := ⟨some 56, _, _, _, _, _⟩) (v := undef) rfl (by kernel_rfl) (by kernel_rfl) (by kernel_rfl) (fun _ _ _ h => h) (Or.inr ⟨by rfl, rfl⟩) ⟨hBA, hBB, hB9, hB11⟩ ?r29a
      try simp only [Act.put, List.setIfInBounds_toArray, List.set_cons_zero, List.set_cons_succ]
      refine' wpAnyH_take (i := 30) (oi := ⟨some 57, _, _, _, _, _⟩) (v := undef) rfl (by kernel_rfl) (by kernel_rfl) (by kernel_rfl) (fun _ _ _ h => h) (Or.inr ⟨by rfl, rfl⟩) ⟨hBA, hBB, hB9, hB11⟩ ?r30a
      try simp only [Act.put, List.setIfInBounds_toArray, List.set_cons_zero, List.set_cons_succ]
      refine' wpAnyH_take (i := 31) (oi := ⟨some 58, _, _, _, _, _⟩) (v := undef) rfl (by kernel_rfl) (by kernel_rfl) (by kernel_rfl) (fun _ _ _ h => h) (Or.inr ⟨by rfl, rfl⟩) ⟨hBA, hBB, hB9, hB11⟩ ?r31a
      try simp only [Act.put, List.setIfInBounds_toArray, List.set_cons_zero, List.set_cons_succ]
      refine' wpAnyH_take (i := 32) (oi := ⟨some 59, _, _, _, _, _⟩) (v := _) rfl (by kernel_rfl) (by kernel_rfl) (by kernel_rfl) (fun _ _ _ h => h) (Or.inl ⟨by rfl, ?y32a⟩) ⟨hBA, hBB, hB9, hB11⟩ ?r32a
      case y32a => (intro w' hSw; go_simp; try rfl)
      try simp only [Act.put, List.setIfInBounds_toArray, List.set_cons_zero, List.set_cons_succ]
      refine' wpAnyH_take (i := 33) (oi := ⟨some 60, _, _, _, _, _⟩) (v := _) rfl (by kernel_rfl) (by kernel_rfl) (by kernel_rfl) (fun _ _ _ h => h) (Or.inl ⟨by rfl, ?y33a⟩) ⟨hBA, hBB, hB9, hB11⟩ ?r33a
      case y33a => (intro w' hSw; go_simp; try rfl)
      try simp only [Act.put, List.setIfInBounds_toArray, List.set_cons_zero, List.set_cons_succ]
      refine' wpAnyH_take (i := 34) (oi := ⟨some 61, _, _, _, _, _⟩) (v := _) rfl (by kernel_rfl) (by kernel_rfl) (by kernel_rfl) (fun _ _ _ h => h) (Or.inl ⟨by rfl, ?y34a⟩) ⟨hBA, hBB, hB9, hB11⟩ ?r34a
      case y34a => (intro w' hSw; go_simp; try rfl)
      try simp only [Act.put, List.setIfInBounds_toArray, List.set_cons_zero, List.set_cons_succ]
      refine' wpAnyH_take (i := 35) (oi := ⟨some 62, _, _, _, _, _⟩) (v := _) rfl (by kernel_rfl) (by kernel_rfl) (by kernel_rfl) (fun _ _ _ h => h) (Or.inl ⟨by rfl, ?y35a⟩) ⟨hBA, hBB, hB9, hB11⟩ ?r35a
      case y35a => (intro w' hSw; go_simp; try rfl)
      try simp only [Act.put, List.setIfInBounds_toArray, List.set_cons_zero, List.set_cons_succ]
      refine' wpAnyH_take (i := 37) (oi := ⟨some 64, _, _, _, _, _⟩) (v := _) rfl (by kernel_rfl) (by kernel_rfl) (by kernel_rfl) (fun _ _ _ h => h) (Or.inl ⟨by rfl, ?y37a⟩) ⟨hBA, hBB, hB9, hB11⟩ ?r37a
      case y37a => (intro w' hSw; go_simp; try rfl)
      try simp only [Act.put, List.setIfInBounds_toArray, List.set_cons_zero, List.set_cons_succ]
      refine held_one (i := 36) (by kernel_rfl) rfl (fun K hK => ?_)
      go_simp
      refine (start_any i _ hg).mono ?_
      rintro e wx ⟨rfl, rfl⟩
      refine hK.out _ _ ⟨hBA, hBB, hB9, hB11⟩ (fun _ => ?_)
      clear hK K
      refine held_one (i := 38) (by kernel_rfl) rfl (fun K hK => ?_)
      go_simp
      refine (refStart_any i _).mono ?_
      rintro e wx ⟨rfl, rfl⟩
      refine hK.out _ _ ⟨hBA, hBB, hB9, hB11⟩ (fun _ => ?_)
      clear hK K
      refine' wpAnyH_take (i := 39) (oi := ⟨some 66, _, _, _, _, _⟩) (v := _) rfl (by kernel_rfl) (by kernel_rfl) (by kernel_rfl) (fun _ _ _ h => h) (Or.inl ⟨by rfl, ?y39a⟩) ⟨hBA, hBB, hB9, hB11⟩ ?r39a
      case y39a => (intro w' hSw; go_simp; try rfl)
      try simp only [Act.put, List.setIfInBounds_toArray, List.set_cons_zero, List.set_cons_succ]
      refine' wpAnyH_take (i := 40) (oi := ⟨some 67, _, _, _, _, _⟩) (v := _) rfl (by kernel_rfl) (by kernel_rfl) (by kernel_rfl) (fun _ _ _ h => h) (Or.inl ⟨by rfl, ?y40a⟩) ⟨hBA, hBB, hB9, hB11⟩ ?r40a
      case y40a => (intro w' hSw; go_simp; try rfl)
      try simp only [Act.put, List.setIfInBounds_toArray, List.set_cons_zero, List.set_cons_succ]
      refine' wpAnyH_take (i := 41) (oi := ⟨some 68, _, _, _, _, _⟩) (v := _) rfl (by kernel_rfl) (by kernel_rfl) (by kernel_rfl) (fun _ _ _ h => h) (Or.inl ⟨by rfl, ?y41a⟩) ⟨hBA, hBB, hB9, hB11⟩ ?r41a
      case y41a => (intro w' hSw; go_simp; try rfl)
      try simp only [Act.put, List.setIfInBounds_toArray, List.set_cons_zero, List.set_cons_succ]
      refine' wpAnyH_take (i := 42) (oi := ⟨some 69, _, _, _, _, _⟩) (v := _) rfl (by kernel_rfl) (by kernel_rfl) (by kernel_rfl) (fun _ _ _ h => h) (Or.inl ⟨by rfl, ?y42a⟩) ⟨hBA, hBB, hB9, hB11⟩ ?r42a
      case y42a => (intro w' hSw; go_simp; try rfl)
      try simp only [Act.put, List.setIfInBounds_toArray, List.set_cons_zero, List.set_cons_succ]
      refine' wpAnyH_take (i := 44) (oi := ⟨some 71, _, _, _, _, _⟩) (v := _) rfl (by kernel_rfl) (by kernel_rfl) (by kernel_rfl) (fun _ _ _ h => h) (Or.inl ⟨by rfl, ?y44a⟩) ⟨hBA, hBB, hB9, hB11⟩ ?r44a
      case y44a => (intro w' hSw; go_simp; try rfl)
      try simp only [Act.put, List.setIfInBounds_toArray, List.set_cons_zero, List.set_cons_succ]
      refine held_one (i := 43) (by kernel_rfl) rfl (fun K hK => ?_)
      go_simp
      refine (constant_any i _ hg).mono ?_
      rintro e wx ⟨rfl, rfl⟩
      refine hK.out _ _ ⟨hBA, hBB, hB9, hB11⟩ (fun _ => ?_)
      clear hK K
      refine held_one (i := 45) (by kernel_rfl) rfl (fun K hK => ?_)
      go_simp
      refine (refConstant_any i _).mono ?_
      rintro e wx ⟨rfl, rfl⟩
      refine hK.out _ _ ⟨hBA, hBB, hB9, hB11⟩ (fun _ => ?_)
      clear hK K
      refine' wpAnyH_take (i := 46) (oi := ⟨some 73, _, _, _, _, _⟩) (v := _) rfl (by kernel_rfl) (by kernel_rfl) (by kernel_rfl) (fun _ _ _ h => h) (Or.inl ⟨by rfl, ?y46a⟩) ⟨hBA, hBB, hB9, hB11⟩ ?r46a
      case y46a => (intro w' hSw; go_simp; try rfl)
      try simp only [Act.put, List.setIfInBounds_toArray, List.set_cons_zero, List.set_cons_succ]
      refine' wpAnyH_take (i := 47) (oi := ⟨some 74, _, _, _, _, _⟩) (v := _) rfl (by kernel_rfl) (by kernel_rfl) (by kernel_rfl) (fun _ _ _ h => h) (Or.inl ⟨by rfl, ?y47a⟩) ⟨hBA, hBB, hB9, hB11⟩ ?r47a
      case y47a => (intro w' hSw; go_simp; try rfl)
      try simp only [Act.put, List.setIfInBounds_toArray, List.set_cons_zero, List.set_cons_succ]
      refine' wpAnyH_take (i := 48) (oi := ⟨some 75, _, _, _, _, _⟩) (v := _) rfl (by kernel_rfl) (by kernel_rfl) (by kernel_rfl) (fun _ _ _ h => h) (Or.inl ⟨by rfl, ?y48a⟩) ⟨hBA, hBB, hB9, hB11⟩ ?r48a
      case y48a => (intro w' hSw; go_simp; try rfl)
      try simp only [Act.put, List.setIfInBounds_toArray, List.set_cons_zero, List.set_cons_succ]
      refine held_one (i := 49) (by kernel_rfl) rfl (fun K hK => ?_)
      go_simp
      refine (known_any _ hg).mono ?_
      rintro e wx ⟨rfl, hx⟩
      replace hBA := hBA.below hx hBA.lt
      replace hBB := hBB.below hx hBB.lt
      replace hg := hg.below hx
      replace hbw := hbw.trans (hx.mono hbw.size)
      replace hB9 := hB9.below hx hB9.lt
      replace hB11 := hB11.below hx hB11.lt
      clear hx
      refine hK.out _ _ ⟨hBA, hBB, hB9, hB11⟩ (fun _ => ?_)
      clear hK K
      refine' wpAnyH_take (i := 50) (oi := ⟨some 77, _, _, _, _, _⟩) (v := _) rfl (by kernel_rfl) (by kernel_rfl) (by kernel_rfl) (fun _ _ _ h => h) (Or.inl ⟨by rfl, ?y50a⟩) ⟨hBA, hBB, hB9, hB11⟩ ?r50a
      case y50a => (intro w' hSw; go_simp; try rfl)
      try simp only [Act.put, List.setIfInBounds_toArray, List.set_cons_zero, List.set_cons_succ]
      refine' wpAnyH_take (i := 51) (oi := ⟨some 8, _, _, _, _, _⟩) (v := _) rfl (by kernel_rfl) (by kernel_rfl) (by kernel_rfl) (fun _ _ _ h => h) (Or.inl ⟨by rfl, ?y51a⟩) ⟨hBA, hBB, hB9, hB11⟩ ?r51a
      case y51a => (intro w' hSw; go_simp; try rfl)
      try simp only [Act.put, List.setIfInBounds_toArray, List.set_cons_zero, List.set_cons_succ]
      refine wpAnyH_done (by kernel_rfl) ?_ _
      go_wp2_with fail
      go_ret
      exact ⟨rfl, hbw⟩
    · skip
      refine wp_region_held_drew (S := (fun w' => Blk w' w.heap.size 28 TA ∧ Blk w' (w.heap.size + 1) 28 TB ∧ Blk w' g9 28 TT ∧ Blk w' g11 28 TT)) (by kernel_rfl) ⟨hBA.drew, hBB.drew, hB9.drew, hB11.drew⟩ (fun _ => ?_)
      replace hBA := hBA.drew
      replace hBB := hBB.drew
      replace hB9 := hB9.drew
      replace hB11 := hB11.drew
      replace hg := hg.drew
      replace hbw := hbw.drew
      generalize W9.drew = x0 at hBA hBB hB9 hB11 hg hbw ⊢
      refine' wpAnyH_take (i := 0) (oi := ⟨some 27, _, _, _, _, _⟩) (v := .agg TA) rfl (by kernel_rfl) (by kernel_rfl) (by kernel_rfl) (fun _ _ _ h => h) (Or.inl ⟨by rfl, ?y0b⟩) ⟨hBA, hBB, hB9, hB11⟩ ?r0b
      case y0b => (intro w' hSw; exact run_exec_load _ _ _ _ rfl _ _ rfl _ (load_hash hSw.1 hiA))
      try simp only [Act.put, List.setIfInBounds_toArray, List.set_cons_zero, List.set_cons_succ]
      refine' wpAnyH_take (i := 2) (oi := ⟨some 29, _, _, _, _, _⟩) (v := _) rfl (by kernel_rfl) (by kernel_rfl) (by kernel_rfl) (fun _ _ _ h => h) (Or.inl ⟨by rfl, ?y2b⟩) ⟨hBA, hBB, hB9, hB11⟩ ?r2b
      case y2b => (intro w' hSw; go_simp; try rfl)
      try simp only [Act.put, List.setIfInBounds_toArray, List.set_cons_zero, List.set_cons_succ]
      refine held_one (i := 1) (by kernel_rfl) rfl (fun K hK => ?_)
      go_simp
      refine (HTX.out _).mono ?_
      rintro e wx ⟨rfl, hx⟩
      replace hBA := hBA.below hx hBA.lt
      replace hBB := hBB.below hx hBB.lt
      replace hg := hg.below hx
      replace hbw := hbw.trans (hx.mono hbw.size)
      replace hB9 := hB9.below hx hB9.lt
      replace hB11 := hB11.below hx hB11.lt
      clear hx
      refine hK.out _ _ ⟨hBA, hBB, hB9, hB11⟩ (fun _ => ?_)
      clear hK K
      refine held_one (i := 3) (by kernel_rfl) rfl (fun K hK => ?_)
      go_simp
      refine (refHex_any _ a _ (HSL.out _ hBA) (by have := HA.out; omega)).mono ?_
      rintro e wx ⟨rfl, hx⟩
      replace hBA := hBA.below hx hBA.lt
      replace hBB := hBB.below hx hBB.lt
      replace hg := hg.below hx
      replace hbw := hbw.trans (hx.mono hbw.size)
      replace hB9 := hB9.below hx hB9.lt
      replace hB11 := hB11.below hx hB11.lt
      clear hx
      refine hK.out _ _ ⟨hBA, hBB, hB9, hB11⟩ (fun _ => ?_)
      clear hK K
      refine' wpAnyH_take (i := 4) (oi := ⟨some 31, _, _, _, _, _⟩) (v := _) rfl (by kernel_rfl) (by kernel_rfl) (by kernel_rfl) (fun _ _ _ h => h) (Or.inl ⟨by rfl, ?y4b⟩) ⟨hBA, hBB, hB9, hB11⟩ ?r4b
      case y4b => (intro w' hSw; go_simp; try rfl)
      try simp only [Act.put, List.setIfInBounds_toArray, List.set_cons_zero, List.set_cons_succ]
      refine' wpAnyH_take (i := 5) (oi := ⟨some 32, _, _, _, _, _⟩) (v := _) rfl (by kernel_rfl) (by kernel_rfl) (by kernel_rfl) (fun _ _ _ h => h) (Or.inl ⟨by rfl, ?y5b⟩) ⟨hBA, hBB, hB9, hB11⟩ ?r5b
      case y5b => (intro w' hSw; go_simp; try rfl)
      try simp only [Act.put, List.setIfInBounds_toArray, List.set_cons_zero, List.set_cons_succ]
      refine' wpAnyH_take (i := 6) (oi := ⟨some 33, _, _, _, _, _⟩) (v := .agg TA) rfl (by kernel_rfl) (by kernel_rfl) (by kernel_rfl) (fun _ _ _ h => h) (Or.inl ⟨by rfl, ?y6b⟩) ⟨hBA, hBB, hB9, hB11⟩ ?r6b
      case y6b => (intro w' hSw; exact run_exec_load _ _ _ _ rfl _ _ rfl _ (load_hash hSw.1 hiA))
      try simp only [Act.put, List.setIfInBounds_toArray, List.set_cons_zero, List.set_cons_succ]
      refine' wpAnyH_take (i := 7) (oi := ⟨some 34, _, _, _, _, _⟩) (v := .agg TB) rfl (by kernel_rfl) (by kernel_rfl) (by kernel_rfl) (fun _ _ _ h => h) (Or.inl ⟨by rfl, ?y7b⟩) ⟨hBA, hBB, hB9, hB11⟩ ?r7b
      case y7b => (intro w' hSw; exact run_exec_load _ _ _ _ rfl _ _ rfl _ (load_hash hSw.2.1 hiB))
      try simp only [Act.put, List.setIfInBounds_toArray, List.set_cons_zero, List.set_cons_succ]
      refine' wpAnyH_take (i := 9) (oi := ⟨some 36, _, _, _, _, _⟩) (v := .agg TA) rfl (by kernel_rfl) (by kernel_rfl) (by kernel_rfl) (fun _ _ _ h => h) (Or.inl ⟨by rfl, ?y9b⟩) ⟨hBA, hBB, hB9, hB11⟩ ?r9b
      case y9b => (intro w' hSw; exact run_exec_load _ _ _ _ rfl _ _ rfl _ (load_hash hSw.1 hiA))
      try simp only [Act.put, List.setIfInBounds_toArray, List.set_cons_zero, List.set_cons_succ]
      refine' wpAnyH_take (i := 10) (oi := ⟨some 37, _, _, _, _, _⟩) (v := .agg TB) rfl (by kernel_rfl) (by kernel_rfl) (by kernel_rfl) (fun _ _ _ h => h) (Or.inl ⟨by rfl, ?y10b⟩) ⟨hBA, hBB, hB9, hB11⟩ ?r10b
      case y10b => (intro w' hSw; exact run_exec_load _ _ _ _ rfl _ _ rfl _ (load_hash hSw.2.1 hiB))
      try simp only [Act.put, List.setIfInBounds_toArray, List.set_cons_zero, List.set_cons_succ]
      refine' wpAnyH_take (i := 11) (oi := ⟨some 38, _, _, _, _, _⟩) (v := _) rfl (by kernel_rfl) (by kernel_rfl) (by kernel_rfl) (fun _ _ _ h => h) (Or.inl ⟨by rfl, ?y11b⟩) ⟨hBA, hBB, hB9, hB11⟩ ?r11b
      case y11b => (intro w' hSw; have q := HEQ.out w'; go_simp; try rfl)
      try simp only [Act.put, List.setIfInBounds_toArray, List.set_cons_zero, List.set_cons_succ]
      refine held_one (i := 8) (by kernel_rfl) rfl (fun K hK => ?_)
      go_simp
      refine (HEC.out _).mono ?_
      rintro e wx ⟨rfl, hx⟩
      replace hBA := hBA.below hx hBA.lt
      replace hBB := hBB.below hx hBB.lt
      replace hg := hg.below hx
      replace hbw := hbw.trans (hx.mono hbw.size)
      replace hB9 := hB9.below hx hB9.lt
      replace hB11 := hB11.below hx hB11.lt
      clear hx
      refine hK.out _ _ ⟨hBA, hBB, hB9, hB11⟩ (fun _ => ?_)
      clear hK K
      refine' wpAnyH_take (i := 12) (oi := ⟨some 39, _, _, _, _, _⟩) (v := _) rfl (by kernel_rfl) (by kernel_rfl) (by kernel_rfl) (fun _ _ _ h => h) (Or.inl ⟨by rfl, ?y12b⟩) ⟨hBA, hBB, hB9, hB11⟩ ?r12b
      case y12b => (intro w' hSw; go_simp; try rfl)
      try simp only [Act.put, List.setIfInBounds_toArray, List.set_cons_zero, List.set_cons_succ]
      refine' wpAnyH_take (i := 13) (oi := ⟨some 40, _, _, _, _, _⟩) (v := _) rfl (by kernel_rfl) (by kernel_rfl) (by kernel_rfl) (fun _ _ _ h => h) (Or.inl ⟨by rfl, ?y13b⟩) ⟨hBA, hBB, hB9, hB11⟩ ?r13b
      case y13b => (intro w' hSw; go_simp; try rfl)
      try simp only [Act.put, List.setIfInBounds_toArray, List.set_cons_zero, List.set_cons_succ]
      refine' wpAnyH_take (i := 14) (oi := ⟨some 41, _, _, _, _, _⟩) (v := _) rfl (by kernel_rfl) (by kernel_rfl) (by kernel_rfl) (fun _ _ _ h => h) (Or.inl ⟨by rfl, ?y14b⟩) ⟨hBA, hBB, hB9, hB11⟩ ?r14b
      case y14b => (intro w' hSw; go_simp; try rfl)
      try simp only [Act.put, List.setIfInBounds_toArray, List.set_cons_zero, List.set_cons_succ]
      refine' wpAnyH_take (i := 15) (oi := ⟨some 42, _, _, _, _, _⟩) (v := .agg TT) rfl (by kernel_rfl) (by kernel_rfl) (by kernel_rfl) (fun _ _ _ h => h) (Or.inl ⟨by rfl, ?y15b⟩) ⟨hBA, hBB, hB9, hB11⟩ ?r15b
      case y15b => (intro w' hSw; exact run_exec_load _ _ _ _ rfl _ _ rfl _ (load_hash hSw.2.2.1 hiT))
      try simp only [Act.put, List.setIfInBounds_toArray, List.set_cons_zero, List.set_cons_succ]
      refine' wpAnyH_take (i := 16) (oi := ⟨some 43, _, _, _, _, _⟩) (v := .agg TT) rfl (by kernel_rfl) (by kernel_rfl) (by kernel_rfl) (fun _ _ _ h => h) (Or.inl ⟨by rfl, ?y16b⟩) ⟨hBA, hBB, hB9, hB11⟩ ?r16b
      case y16b => (intro w' hSw; exact run_exec_load _ _ _ _ rfl _ _ rfl _ (load_hash hSw.2.2.2 hiT))
      try simp only [Act.put, List.setIfInBounds_toArray, List.set_cons_zero, List.set_cons_succ]
      refine' wpAnyH_take (i := 17) (oi := ⟨some 44, _, _, _, _, _⟩) (v := _) rfl (by kernel_rfl) (by kernel_rfl) (by kernel_rfl) (fun _ _ _ h => h) (Or.inl ⟨by rfl, ?y17b⟩) ⟨hBA, hBB, hB9, hB11⟩ ?r17b
      case y17b => (intro w' hSw; have q := HTT.out w'; go_simp; try rfl)
      try simp only [Act.put, List.setIfInBounds_toArray, List.set_cons_zero, List.set_cons_succ]
      refine' wpAnyH_take (i := 18) (oi := ⟨some 45, _, _, _, _, _⟩) (v := _) rfl (by kernel_rfl) (by kernel_rfl) (by kernel_rfl) (fun _ _ _ h => h) (Or.inl ⟨by rfl, ?y18b⟩) ⟨hBA, hBB, hB9, hB11⟩ ?r18b
      case y18b => (intro w' hSw; go_simp; try rfl)
      try simp only [Act.put, List.setIfInBounds_toArray, List.set_cons_zero, List.set_cons_succ]
      refine' wpAnyH_take (i := 19) (oi := ⟨some 46, _, _, _, _, _⟩) (v := _) rfl (by kernel_rfl) (by kernel_rfl) (by kernel_rfl) (fun _ _ _ h => h) (Or.inl ⟨by rfl, ?y19b⟩) ⟨hBA, hBB, hB9, hB11⟩ ?r19b
      case y19b => (intro w' hSw; go_simp; try rfl)
      try simp only [Act.put, List.setIfInBounds_toArray, List.set_cons_zero, List.set_cons_succ]
      refine' wpAnyH_take (i := 20) (oi := ⟨some 47, _, _, _, _, _⟩) (v := _) rfl (by kernel_rfl) (by kernel_rfl) (by kernel_rfl) (fun _ _ _ h => h) (Or.inl ⟨by rfl, ?y20b⟩) ⟨hBA, hBB, hB9, hB11⟩ ?r20b
      case y20b => (intro w' hSw; go_simp; try rfl)
      try simp only [Act.put, List.setIfInBounds_toArray, List.set_cons_zero, List.set_cons_succ]
      refine' wpAnyH_take (i := 23) (oi := ⟨some 50, _, _, _, _, _⟩) (v := _) rfl (by kernel_rfl) (by kernel_rfl) (by kernel_rfl) (fun _ _ _ h => h) (Or.inl ⟨by rfl, ?y23b⟩) ⟨hBA, hBB, hB9, hB11⟩ ?r23b
      case y23b => (intro w' hSw; go_simp; try rfl)
      try simp only [Act.put, List.setIfInBounds_toArray, List.set_cons_zero, List.set_cons_succ]
      refine held_one (i := 21) (by kernel_rfl) rfl (fun K hK => ?_)
      go_simp
      refine (num_any _ _).mono ?_
      rintro e wx ⟨rfl, rfl⟩
      refine hK.out _ _ ⟨hBA, hBB, hB9, hB11⟩ (fun _ => ?_)
      clear hK K
      refine' wpAnyH_take (i := 22) (oi := ⟨some 49, _, _, _, _, _⟩) (v := _) rfl (by kernel_rfl) (by kernel_rfl) (by kernel_rfl) (fun _ _ _ h => h) (Or.inl ⟨by rfl, ?y22b⟩) ⟨hBA, hBB, hB9, hB11⟩ ?r22b
      case y22b => (intro w' hSw; go_simp; try rfl)
      try simp only [Act.put, List.setIfInBounds_toArray, List.set_cons_zero, List.set_cons_succ]
      refine' wpAnyH_take (i := 24) (oi := ⟨some 51, _, _, _, _, _⟩) (v := _) rfl (by kernel_rfl) (by kernel_rfl) (by kernel_rfl) (fun _ _ _ h => h) (Or.inl ⟨by rfl, ?y24b⟩) ⟨hBA, hBB, hB9, hB11⟩ ?r24b
      case y24b => (intro w' hSw; go_simp; try rfl)
      try simp only [Act.put, List.setIfInBounds_toArray, List.set_cons_zero, List.set_cons_succ]
      refine' wpAnyH_take (i := 25) (oi := ⟨some 52, _, _, _, _, _⟩) (v := _) rfl (by kernel_rfl) (by kernel_rfl) (by kernel_rfl) (fun _ _ _ h => h) (Or.inl ⟨by rfl, ?y25b⟩) ⟨hBA, hBB, hB9, hB11⟩ ?r25b
      case y25b => (intro w' hSw; go_simp; try rfl)
      try simp only [Act.put, List.setIfInBounds_toArray, List.set_cons_zero, List.set_cons_succ]
      refine' wpAnyH_take (i := 26) (oi := ⟨some 53, _, _, _, _, _⟩) (v := _) rfl (by kernel_rfl) (by kernel_rfl) (by kernel_rfl) (fun _ _ _ h => h) (Or.inl ⟨by rfl, ?y26b⟩) ⟨hBA, hBB, hB9, hB11⟩ ?r26b
      case y26b => (intro w' hSw; go_simp; try rfl)
      try simp only [Act.put, List.setIfInBounds_toArray, List.set_cons_zero, List.set_cons_succ]
      refine' wpAnyH_take (i := 27) (oi := ⟨some 54, _, _, _, _, _⟩) (v := _) rfl (by kernel_rfl) (by kernel_rfl) (by kernel_rfl) (fun _ _ _ h => h) (Or.inl ⟨by rfl, ?y27b⟩) ⟨hBA, hBB, hB9, hB11⟩ ?r27b
      case y27b => (intro w' hSw; go_simp; try rfl)
      try simp only [Act.put, List.setIfInBounds_toArray, List.set_cons_zero, List.set_cons_succ]
      refine' wpAnyH_take (i := 28) (oi := ⟨some 55, _, _, _, _, _⟩) (v := _) rfl (by kernel_rfl) (by kernel_rfl) (by kernel_rfl) (fun _ _ _ h => h) (Or.inl ⟨by rfl, ?y28b⟩) ⟨hBA, hBB, hB9, hB11⟩ ?r28b
      case y28b => (intro w' hSw; go_simp; try rfl)
      try simp only [Act.put, List.setIfInBounds_toArray, List.set_cons_zero, List.set_cons_succ]
      refine' wpAnyH_take (i := 29) (oi := ⟨some 56, _, _, _, _, _⟩) (v := _) rfl (by kernel_rfl) (by kernel_rfl) (by kernel_rfl) (fun _ _ _ h => h) (Or.inl ⟨by rfl, ?y29b⟩) ⟨hBA, hBB, hB9, hB11⟩ ?r29b
      case y29b => (intro w' hSw; go_simp; try rfl)
      try simp only [Act.put, List.setIfInBounds_toArray, List.set_cons_zero, List.set_cons_succ]
      refine held_one (i := 30) (by kernel_rfl) rfl (fun K hK => ?_)
      go_simp
      refine (num_any _ _).mono ?_
      rintro e wx ⟨rfl, rfl⟩
      refine hK.out _ _ ⟨hBA, hBB, hB9, hB11⟩ (fun _ => ?_)
      clear hK K
      refine' wpAnyH_take (i := 31) (oi := ⟨some 58, _, _, _, _, _⟩) (v := _) rfl (by kernel_rfl) (by kernel_rfl) (by kernel_rfl) (fun _ _ _ h => h) (Or.inl ⟨by rfl, ?y31b⟩) ⟨hBA, hBB, hB9, hB11⟩ ?r31b
      case y31b => (intro w' hSw; go_simp; try rfl)
      try simp only [Act.put, List.setIfInBounds_toArray, List.set_cons_zero, List.set_cons_succ]
      refine' wpAnyH_take (i := 32) (oi := ⟨some 59, _, _, _, _, _⟩) (v := _) rfl (by kernel_rfl) (by kernel_rfl) (by kernel_rfl) (fun _ _ _ h => h) (Or.inl ⟨by rfl, ?y32b⟩) ⟨hBA, hBB, hB9, hB11⟩ ?r32b
      case y32b => (intro w' hSw; go_simp; try rfl)
      try simp only [Act.put, List.setIfInBounds_toArray, List.set_cons_zero, List.set_cons_succ]
      refine' wpAnyH_take (i := 33) (oi := ⟨some 60, _, _, _, _, _⟩) (v := _) rfl (by kernel_rfl) (by kernel_rfl) (by kernel_rfl) (fun _ _ _ h => h) (Or.inl ⟨by rfl, ?y33b⟩) ⟨hBA, hBB, hB9, hB11⟩ ?r33b
      case y33b => (intro w' hSw; go_simp; try rfl)
      try simp only [Act.put, List.setIfInBounds_toArray, List.set_cons_zero, List.set_cons_succ]
      refine' wpAnyH_take (i := 34) (oi := ⟨some 61, _, _, _, _, _⟩) (v := _) rfl (by kernel_rfl) (by kernel_rfl) (by kernel_rfl) (fun _ _ _ h => h) (Or.inl ⟨by rfl, ?y34b⟩) ⟨hBA, hBB, hB9, hB11⟩ ?r34b
      case y34b => (intro w' hSw; go_simp; try rfl)
      try simp only [Act.put, List.setIfInBounds_toArray, List.set_cons_zero, List.set_cons_succ]
      refine' wpAnyH_take (i := 35) (oi := ⟨some 62, _, _, _, _, _⟩) (v := _) rfl (by kernel_rfl) (by kernel_rfl) (by kernel_rfl) (fun _ _ _ h => h) (Or.inl ⟨by rfl, ?y35b⟩) ⟨hBA, hBB, hB9, hB11⟩ ?r35b
      case y35b => (intro w' hSw; go_simp; try rfl)
      try simp only [Act.put, List.setIfInBounds_toArray, List.set_cons_zero, List.set_cons_succ]
      refine' wpAnyH_take (i := 37) (oi := ⟨some 64, _, _, _, _, _⟩) (v := _) rfl (by kernel_rfl) (by kernel_rfl) (by kernel_rfl) (fun _ _ _ h => h) (Or.inl ⟨by rfl, ?y37b⟩) ⟨hBA, hBB, hB9, hB11⟩ ?r37b
      case y37b => (intro w' hSw; go_simp; try rfl)
      try simp only [Act.put, List.setIfInBounds_toArray, List.set_cons_zero, List.set_cons_succ]
      refine held_one (i := 36) (by kernel_rfl) rfl (fun K hK => ?_)
      go_simp
      refine (start_any i _ hg).mono ?_
      rintro e wx ⟨rfl, rfl⟩
      refine hK.out _ _ ⟨hBA, hBB, hB9, hB11⟩ (fun _ => ?_)
      clear hK K
      refine held_one (i := 38) (by kernel_rfl) rfl (fun K hK => ?_)
      go_simp
      refine (refStart_any i _).mono ?_
      rintro e wx ⟨rfl, rfl⟩
      refine hK.out _ _ ⟨hBA, hBB, hB9, hB11⟩ (fun _ => ?_)
      clear hK K
      refine' wpAnyH_take (i := 39) (oi := ⟨some 66, _, _, _, _, _⟩) (v := _) rfl (by kernel_rfl) (by kernel_rfl) (by kernel_rfl) (fun _ _ _ h => h) (Or.inl ⟨by rfl, ?y39b⟩) ⟨hBA, hBB, hB9, hB11⟩ ?r39b
      case y39b => (intro w' hSw; go_simp; try rfl)
      try simp only [Act.put, List.setIfInBounds_toArray, List.set_cons_zero, List.set_cons_succ]
      refine' wpAnyH_take (i := 40) (oi := ⟨some 67, _, _, _, _, _⟩) (v := _) rfl (by kernel_rfl) (by kernel_rfl) (by kernel_rfl) (fun _ _ _ h => h) (Or.inl ⟨by rfl, ?y40b⟩) ⟨hBA, hBB, hB9, hB11⟩ ?r40b
      case y40b => (intro w' hSw; go_simp; try rfl)
      try simp only [Act.put, List.setIfInBounds_toArray, List.set_cons_zero, List.set_cons_succ]
      refine' wpAnyH_take (i := 41) (oi := ⟨some 68, _, _, _, _, _⟩) (v := _) rfl (by kernel_rfl) (by kernel_rfl) (by kernel_rfl) (fun _ _ _ h => h) (Or.inl ⟨by rfl, ?y41b⟩) ⟨hBA, hBB, hB9, hB11⟩ ?r41b
      case y41b => (intro w' hSw; go_simp; try rfl)
      try simp only [Act.put, List.setIfInBounds_toArray, List.set_cons_zero, List.set_cons_succ]
      refine' wpAnyH_take (i := 42) (oi := ⟨some 69, _, _, _, _, _⟩) (v := _) rfl (by kernel_rfl) (by kernel_rfl) (by kernel_rfl) (fun _ _ _ h => h) (Or.inl ⟨by rfl, ?y42b⟩) ⟨hBA, hBB, hB9, hB11⟩ ?r42b
      case y42b => (intro w' hSw; go_simp; try rfl)
      try simp only [Act.put, List.setIfInBounds_toArray, List.set_cons_zero, List.set_cons_succ]
      refine' wpAnyH_take (i := 44) (oi := ⟨some 71, _, _, _, _, _⟩) (v := _) rfl (by kernel_rfl) (by kernel_rfl) (by kernel_rfl) (fun _ _ _ h => h) (Or.inl ⟨by rfl, ?y44b⟩) ⟨hBA, hBB, hB9, hB11⟩ ?r44b
      case y44b => (intro w' hSw; go_simp; try rfl)
      try simp only [Act.put, List.setIfInBounds_toArray, List.set_cons_zero, List.set_cons_succ]
      refine held_one (i := 43) (by kernel_rfl) rfl (fun K hK => ?_)
      go_simp
      refine (constant_any i _ hg).mono ?_
      rintro e wx ⟨rfl, rfl⟩
      refine hK.out _ _ ⟨hBA, hBB, hB9, hB11⟩ (fun _ => ?_)
      clear hK K
      refine held_one (i := 45) (by kernel_rfl) rfl (fun K hK => ?_)
      go_simp
      refine (refConstant_any i _).mono ?_
      rintro e wx ⟨rfl, rfl⟩
      refine hK.out _ _ ⟨hBA, hBB, hB9, hB11⟩ (fun _ => ?_)
      clear hK K
      refine' wpAnyH_take (i := 46) (oi := ⟨some 73, _, _, _, _, _⟩) (v := _) rfl (by kernel_rfl) (by kernel_rfl) (by kernel_rfl) (fun _ _ _ h => h) (Or.inl ⟨by rfl, ?y46b⟩) ⟨hBA, hBB, hB9, hB11⟩ ?r46b
      case y46b => (intro w' hSw; go_simp; try rfl)
      try simp only [Act.put, List.setIfInBounds_toArray, List.set_cons_zero, List.set_cons_succ]
      refine' wpAnyH_take (i := 47) (oi := ⟨some 74, _, _, _, _, _⟩) (v := _) rfl (by kernel_rfl) (by kernel_rfl) (by kernel_rfl) (fun _ _ _ h => h) (Or.inl ⟨by rfl, ?y47b⟩) ⟨hBA, hBB, hB9, hB11⟩ ?r47b
      case y47b => (intro w' hSw; go_simp; try rfl)
      try simp only [Act.put, List.setIfInBounds_toArray, List.set_cons_zero, List.set_cons_succ]
      refine' wpAnyH_take (i := 48) (oi := ⟨some 75, _, _, _, _, _⟩) (v := _) rfl (by kernel_rfl) (by kernel_rfl) (by kernel_rfl) (fun _ _ _ h => h) (Or.inl ⟨by rfl, ?y48b⟩) ⟨hBA, hBB, hB9, hB11⟩ ?r48b
      case y48b => (intro w' hSw; go_simp; try rfl)
      try simp only [Act.put, List.setIfInBounds_toArray, List.set_cons_zero, List.set_cons_succ]
      refine held_one (i := 49) (by kernel_rfl) rfl (fun K hK => ?_)
      go_simp
      refine (known_any _ hg).mono ?_
      rintro e wx ⟨rfl, hx⟩
      replace hBA := hBA.below hx hBA.lt
      replace hBB := hBB.below hx hBB.lt
      replace hg := hg.below hx
      replace hbw := hbw.trans (hx.mono hbw.size)
      replace hB9 := hB9.below hx hB9.lt
      replace hB11 := hB11.below hx hB11.lt
      clear hx
      refine hK.out _ _ ⟨hBA, hBB, hB9, hB11⟩ (fun _ => ?_)
      clear hK K
      refine' wpAnyH_take (i := 50) (oi := ⟨some 77, _, _, _, _, _⟩) (v := _) rfl (by kernel_rfl) (by kernel_rfl) (by kernel_rfl) (fun _ _ _ h => h) (Or.inl ⟨by rfl, ?y50b⟩) ⟨hBA, hBB, hB9, hB11⟩ ?r50b
      case y50b => (intro w' hSw; go_simp; try rfl)
      try simp only [Act.put, List.setIfInBounds_toArray, List.set_cons_zero, List.set_cons_succ]
      refine' wpAnyH_take (i := 51) (oi := ⟨some 8, _, _, _, _, _⟩) (v := _) rfl (by kernel_rfl) (by kernel_rfl) (by kernel_rfl) (fun _ _ _ h => h) (Or.inl ⟨by rfl, ?y51b⟩) ⟨hBA, hBB, hB9, hB11⟩ ?r51b
      case y51b => (intro w' hSw; go_simp; try rfl)
      try simp only [Act.put, List.setIfInBounds_toArray, List.set_cons_zero, List.set_cons_succ]
      refine wpAnyH_done (by kernel_rfl) ?_ _
      go_wp2_with fail
      go_ret
      exact ⟨rfl, hbw⟩
end Go.Proofs.YtggijgclnnlfmaaDoor

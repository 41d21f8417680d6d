/-
  CursorBytes' law.
-/
import Derived.Test.YthlopecllhdmhaaDoorCuM
namespace Go.Proofs.YthlopecllhdmhaaDoor
open Go.RowKit
open CtxM
set_option linter.unusedVariables false
set_option linter.unusedSimpArgs false
set_option maxRecDepth 20000

theorem curOf_len (s : List UInt8) (d : ByteArray) (l : List UInt8) : (curOf s d l).1.length = 16 := by
  unfold curOf
  split
  · rfl
  · split
    · rfl
    · split
      · rfl
      · split
        · exact vecN_length _
        · rfl
/-- Where the law stands. -/
structure Lb (w W : World) (sv : Value) (s : List UInt8) (lv : Value) (l : List UInt8) (A B : List Nat) : Prop where
  ss : Sl W sv s
  sl : Sl W lv l
  va : Blk W w.heap.size 25 (uqs A)
  vb : Blk W (w.heap.size + 1) 25 (uqs B)
  gg : Gl W
  bb : Below w.heap.size w W
theorem Lb.below {w W W' : World} {sv lv : Value} {s l : List UInt8} {A B : List Nat} (h : Lb w W sv s lv l A B) (hb : Below W.heap.size W W') : Lb w W' sv s lv l A B :=
  ⟨h.ss.below hb, h.sl.below hb, h.va.below hb h.va.lt, h.vb.below hb h.vb.lt, h.gg.below hb, h.bb.trans (hb.mono h.bb.size)⟩

set_option maxHeartbeats 16000000 in
theorem clawb_any (sv : Value) (s : List UInt8) (d : ByteArray) (V O : List Nat) (lv : Value) (l : List UInt8) (w : World) (hs : Sl w sv s) (hlv : Sl w lv l) (hV : V.length = 16) (hO : O.length = 16) (hvl : ∀ n ∈ V, n < 18446744073709551616) (hg : Gl w) :
    Calls Tryd.prog 3 #[sv, .string d, .agg (uqs V), .agg (uqs O), lv] w fun e w' => e = .returned (.bool true) ∧ Below w.heap.size w w' := by
  have hfo : Tryd.prog.follows .mixedOrders = true := by kernel_rfl
  obtain ⟨b0, b1, hgr⟩ := two_boxes w 25 25 (uqs V) (uqs O)
  have L1 : Lb w ((w.alloc (.cells (uqs V) 25)).alloc (.cells (uqs O) 25)) sv s lv l V O := ⟨hs.below hgr.below, hlv.below hgr.below, b0, b1, hg.below hgr.below, hgr.below⟩
  obtain ⟨A0, n0, c0, rfl⟩ := hs.shape
  obtain rfl := hs.len
  obtain ⟨A1, n1, c1, rfl⟩ := hlv.shape
  obtain rfl := hlv.len
  clear b0 b1 hgr hs hg hlv
  go_enter Tryd.func3, Tryd.ntmps3
  go_upto_region 1 with fail
  change Code.wp _ _ _ _ ((w.alloc (.cells (uqs V) 25)).alloc (.cells (uqs O) 25))
  generalize (w.alloc (.cells (uqs V) 25)).alloc (.cells (uqs O) 25) = w1 at L1 ⊢
  by_cases hl3 : s.length ≤ 300
  · have hld : decide ((300 : Int) < (s.length : Int)) = false := decide_eq_false (by omega)
    by_cases hl9 : l.length ≤ 9000
    · have hle : decide ((9000 : Int) < (l.length : Int)) = false := decide_eq_false (by omega)
      go_upto_region 3 with fail
      clear hld hle
      go_upto_region 4 with (first | (refine wpList_load_mid_g (by rfl) 25 _ rfl (w.heap.size) 0 rfl (uqs V) _ (uqs_range L1.va) Tryd.underlying25 rfl (uqs_info hV) ?_; try simp only [Act.put, List.setIfInBounds_toArray, List.set_cons_zero, List.set_cons_succ]) | (go_at_call 7; refine (cbytes_any _ s d V _ L1.ss (by omega) hV L1.gg).mono ?_; rintro e w2 ⟨vx, nx, rfl, hb2, hx2⟩))
      have L2 := L1.below hb2
      clear L1 hb2
      rcases hx2 with ⟨rfl, hN, hM, hsx⟩ | ⟨rfl, rfl, hbad⟩
      · obtain ⟨ax, nx, cx, rfl⟩ := hsx.shape
        go_upto_region 5 with (first | (go_at_call 8; refine (rmayName_any _ _).mono ?_; rintro e wd ⟨rfl, hwd⟩; obtain rfl := hwd.symm; rw [hN]) | (refine wpList_load_mid_g (by rfl) 25 _ rfl (w.heap.size) 0 rfl (uqs V) _ (uqs_range L2.va) Tryd.underlying25 rfl (uqs_info hV) ?_; try simp only [Act.put, List.setIfInBounds_toArray, List.set_cons_zero, List.set_cons_succ]) | (go_at_call 9; refine (r10may_any V _ hV).mono ?_; rintro e W4 ⟨rfl, hg4⟩; rw [hM]))
        have L4 := L2.below hg4.below
        have hsx4 := hsx.below hg4.below
        clear L2 hsx hg4 hwd
        obtain ⟨tx, htx⟩ : ∃ t : ByteArray, (⟨(curB s d V).toArray⟩ : ByteArray) = t := ⟨_, rfl⟩
        have hcx : ∀ X, Below W4.heap.size W4 X → (convert 22 9 (.slice ax nx cx)).run Tryd.prog X = .ok (.string tx) X := fun X hX => conv_w (hsx4.below hX) htx
        have hcmp : (tx.toList == tx.toList) = true := by rw [beq_iff_eq]
        refine wp_region_held_drew (S := fun X => Below W4.heap.size W4 X) hfo (Below.refl _ _).drew (fun hS0 => ?_)
        have K4 := L4.below (show Below W4.heap.size W4 W4.drew from (Below.refl _ _).drew)
        generalize W4.drew = Z0 at hS0 K4 ⊢
        refine' wpAnyH_take (i := 0) (oi := ⟨some 39, _, _, _, _, _⟩) (v := _) rfl (by kernel_rfl) (by kernel_rfl) (by kernel_rfl) (fun _ _ _ h => h) (Or.inl ⟨by rfl, ?y0a⟩) hS0 ?r0a
        case y0a => (intro w' hSw; go_simp; try rfl)
        try simp only [Act.put, List.setIfInBounds_toArray, List.set_cons_zero, List.set_cons_succ]
        refine' wpAnyH_take (i := 1) (oi := ⟨some 40, _, _, _, _, _⟩) (v := (.string tx)) rfl (by kernel_rfl) (by kernel_rfl) (by kernel_rfl) (fun _ _ _ h => h) (Or.inl ⟨by rfl, ?y1a⟩) hS0 ?r1a
        case y1a =>
          intro w' hSw
          have hk := hcx w' hSw
          go_simp
          try rfl
        try simp only [Act.put, List.setIfInBounds_toArray, List.set_cons_zero, List.set_cons_succ]
        refine' wpAnyH_take (i := 2) (oi := ⟨some 41, _, _, _, _, _⟩) (v := _) rfl (by kernel_rfl) (by kernel_rfl) (by kernel_rfl) (fun _ _ _ h => h) (Or.inl ⟨by rfl, ?y2a⟩) hS0 ?r2a
        case y2a => (intro w' hSw; go_simp; try rfl)
        try simp only [Act.put, List.setIfInBounds_toArray, List.set_cons_zero, List.set_cons_succ]
        refine' wpAnyH_take (i := 3) (oi := ⟨some 42, _, _, _, _, _⟩) (v := _) rfl (by kernel_rfl) (by kernel_rfl) (by kernel_rfl) (fun _ _ _ h => h) (Or.inl ⟨by rfl, ?y3a⟩) hS0 ?r3a
        case y3a => (intro w' hSw; go_simp; try rfl)
        try simp only [Act.put, List.setIfInBounds_toArray, List.set_cons_zero, List.set_cons_succ]
        refine' wpAnyH_take (i := 4) (oi := ⟨some 43, _, _, _, _, _⟩) (v := (.agg (uqs V))) rfl (by kernel_rfl) (by kernel_rfl) (by kernel_rfl) (fun _ _ _ h => h) (Or.inl ⟨by rfl, ?y4a⟩) hS0 ?r4a
        case y4a =>
          intro w' hSw
          have hld := run_loadAt_mid (P := Tryd.prog) w' (w.heap.size) 0 25 (uqs V).toList _ (uqs_range ((L4.va).below hSw (L4.va).lt)) Tryd.underlying25 rfl (by rw [Array.length_toList]; exact uqs_info hV)
          rw [Array.toArray_toList] at hld
          exact run_exec_load _ _ _ _ rfl _ _ rfl _ hld
        try simp only [Act.put, List.setIfInBounds_toArray, List.set_cons_zero, List.set_cons_succ]
        refine held_one (i := 5) (by kernel_rfl) rfl (fun Ka hK => ?_)
        go_simp
        refine (r10bytes_any _ s d V Z0 K4.ss hl3 hV hN hvl).mono ?_
        rintro e Z1 ⟨v1, rfl, ho1, hb1⟩
        have hS1 := hS0.trans (hb1.mono hS0.size)
        have K5 := K4.below hb1
        have hcv2 : (convert 22 9 v1).run Tryd.prog Z1 = .ok (.string tx) Z1 := conv_w ho1.sl htx
        refine hK.out _ _ hS1 (fun _ => ?_)
        clear hK Ka
        try simp only [Act.put, List.setIfInBounds_toArray, List.set_cons_zero, List.set_cons_succ]
        refine held_one (i := 6) (by kernel_rfl) rfl (fun Ka hK => ?_)
        go_simp
        try simp only [hcv2]
        go_simp
        refine hK.out _ _ hS1 (fun _ => ?_)
        clear hK Ka
        try simp only [Act.put, List.setIfInBounds_toArray, List.set_cons_zero, List.set_cons_succ]
        refine' wpAnyH_take (i := 7) (oi := ⟨some 46, _, _, _, _, _⟩) (v := _) rfl (by kernel_rfl) (by kernel_rfl) (by kernel_rfl) (fun _ _ _ h => h) (Or.inl ⟨by rfl, ?y7a⟩) hS1 ?r7a
        case y7a => (intro w' hSw; go_simp; try rfl)
        try simp only [Act.put, List.setIfInBounds_toArray, List.set_cons_zero, List.set_cons_succ]
        refine' wpAnyH_take (i := 8) (oi := ⟨some 47, _, _, _, _, _⟩) (v := _) rfl (by kernel_rfl) (by kernel_rfl) (by kernel_rfl) (fun _ _ _ h => h) (Or.inl ⟨by rfl, ?y8a⟩) hS1 ?r8a
        case y8a => (intro w' hSw; go_simp; try rfl)
        try simp only [Act.put, List.setIfInBounds_toArray, List.set_cons_zero, List.set_cons_succ]
        refine' wpAnyH_take (i := 9) (oi := ⟨some 48, _, _, _, _, _⟩) (v := _) rfl (by kernel_rfl) (by kernel_rfl) (by kernel_rfl) (fun _ _ _ h => h) (Or.inl ⟨by rfl, ?y9a⟩) hS1 ?r9a
        case y9a => (intro w' hSw; go_simp; try rfl)
        try simp only [Act.put, List.setIfInBounds_toArray, List.set_cons_zero, List.set_cons_succ]
        refine held_one (i := 10) (by kernel_rfl) rfl (fun Ka hK => ?_)
        go_simp
        refine (cnum_any _ _).mono ?_
        rintro e zN ⟨rfl, hzN⟩
        obtain rfl := hzN.symm
        refine hK.out _ _ hS1 (fun _ => ?_)
        clear hK Ka
        try simp only [Act.put, List.setIfInBounds_toArray, List.set_cons_zero, List.set_cons_succ]
        refine' wpAnyH_take (i := 11) (oi := ⟨some 50, _, _, _, _, _⟩) (v := _) rfl (by kernel_rfl) (by kernel_rfl) (by kernel_rfl) (fun _ _ _ h => h) (Or.inl ⟨by rfl, ?y11a⟩) hS1 ?r11a
        case y11a => (intro w' hSw; go_simp; try rfl)
        try simp only [Act.put, List.setIfInBounds_toArray, List.set_cons_zero, List.set_cons_succ]
        refine' wpAnyH_take (i := 12) (oi := ⟨some 51, _, _, _, _, _⟩) (v := _) rfl (by kernel_rfl) (by kernel_rfl) (by kernel_rfl) (fun _ _ _ h => h) (Or.inl ⟨by rfl, ?y12a⟩) hS1 ?r12a
        case y12a => (intro w' hSw; go_simp; try rfl)
        try simp only [Act.put, List.setIfInBounds_toArray, List.set_cons_zero, List.set_cons_succ]
        refine wpAnyH_done (by kernel_rfl) ?_ _
        clear L4 hS0 hcx hsx4 hb1 hcv2 ho1 htx hcmp hzN K4
        go_upto_region 9 with fail
        have L4 := K5
        clear hS1 K5
        obtain ⟨Y, ny, hYY⟩ : ∃ Y n, curOf s d l = (Y, n) := ⟨_, _, rfl⟩
        have hcO := hYY
        have hY : Y.length = 16 := by have := curOf_len s d l; rw [hYY] at this; exact this
        clear hYY
        go_wp2_with fail
        refine (cof_any _ s d _ l _ L4.ss L4.sl (by omega) L4.gg).mono ?_
        rintro e x7 ⟨rfl, hx⟩
        rw [hcO]
        go_upto_region 10 with (refine wpList_store_mid rfl 25 _ _ rfl x7.heap.size 0 (uqs Y) rfl rfl (boxThere _ _ hY) (uqs_info hY) (uqs_one _) ?_; try simp only [Act.put, List.setIfInBounds_toArray, List.set_cons_zero, List.set_cons_succ])
        change Code.wp _ _ _ _ ((x7.alloc (.cells (uqs (z16 0 0)) 25)).setCells x7.heap.size 0 (uqs Y).toList)
        obtain ⟨p7, bq⟩ := boxNew x7 (V := Y) hY
        have hz := hx.trans (bq.mono hx.size)
        have L7 := L4.below hz
        generalize (x7.alloc (.cells (uqs (z16 0 0)) 25)).setCells x7.heap.size 0 (uqs Y).toList = W7 at p7 L7 ⊢
        clear hz bq hx L4
        generalize x7.heap.size = g7 at p7 ⊢
        go_wp2_with fail
        refine (rof_any _ s d _ l _ L7.ss L7.sl hl3).mono ?_
        rintro e x8 ⟨rfl, hx⟩
        rw [hcO]
        go_upto_region 11 with (refine wpList_store_mid rfl 25 _ _ rfl x8.heap.size 0 (uqs Y) rfl rfl (boxThere _ _ hY) (uqs_info hY) (uqs_one _) ?_; try simp only [Act.put, List.setIfInBounds_toArray, List.set_cons_zero, List.set_cons_succ])
        change Code.wp _ _ _ _ ((x8.alloc (.cells (uqs (z16 0 0)) 25)).setCells x8.heap.size 0 (uqs Y).toList)
        obtain ⟨p8, bq⟩ := boxNew x8 (V := Y) hY
        have hz := hx.trans (bq.mono hx.size)
        have L9 := L7.below hz
        replace p7 := p7.below hz p7.lt
        generalize (x8.alloc (.cells (uqs (z16 0 0)) 25)).setCells x8.heap.size 0 (uqs Y).toList = W9 at p8 p7 L9 ⊢
        clear hz bq hx L7 hcO
        generalize x8.heap.size = g8 at p8 ⊢
        have eY := fun W => vec_eq Y Y hY hY W
        have hmc := fun W => cmay_any V W hV
        have hmr := fun W => r10may_any V W hV
        have hjc := fun W => cjoin_any V O W hV hO
        have hjr := fun W => rjoin_any V O W hV hO
        have hcc := fun W => ccovers_any V O W hV hO
        have hcr := fun W => rcovers_any V O W hV hO
        have eM := fun W => vec_eq (maxV V O) (maxV V O) (maxV_length _ _) (maxV_length _ _) W
        rw [decide_eq_true rfl] at eY eM
        generalize maxV V O = MX at hjc hjr eM
        generalize decide (∀ n ∈ V, n ≤ top) = pm at hmc hmr
        generalize covB V O = pc at hcc hcr
        refine wp_region_held_drew (S := fun X => Below W9.heap.size W9 X) hfo (Below.refl _ _).drew (fun hS0 => ?_)
        have K0 := L9.below (show Below W9.heap.size W9 W9.drew from (Below.refl _ _).drew)
        generalize W9.drew = Z0 at hS0 K0 ⊢
        refine' wpAnyH_take (i := 0) (oi := ⟨some 74, _, _, _, _, _⟩) (v := (.agg (uqs Y))) rfl (by kernel_rfl) (by kernel_rfl) (by kernel_rfl) (fun _ _ _ h => h) (Or.inl ⟨by rfl, ?y0b⟩) hS0 ?r0b
        case y0b =>
          intro w' hSw
          have hld := run_loadAt_mid (P := Tryd.prog) w' (g7) 0 25 (uqs Y).toList _ (uqs_range ((p7).below hSw (p7).lt)) Tryd.underlying25 rfl (by rw [Array.length_toList]; exact uqs_info hY)
          rw [Array.toArray_toList] at hld
          exact run_exec_load _ _ _ _ rfl _ _ rfl _ hld
        try simp only [Act.put, List.setIfInBounds_toArray, List.set_cons_zero, List.set_cons_succ]
        refine' wpAnyH_take (i := 1) (oi := ⟨some 75, _, _, _, _, _⟩) (v := (.agg (uqs Y))) rfl (by kernel_rfl) (by kernel_rfl) (by kernel_rfl) (fun _ _ _ h => h) (Or.inl ⟨by rfl, ?y1b⟩) hS0 ?r1b
        case y1b =>
          intro w' hSw
          have hld := run_loadAt_mid (P := Tryd.prog) w' (g8) 0 25 (uqs Y).toList _ (uqs_range ((p8).below hSw (p8).lt)) Tryd.underlying25 rfl (by rw [Array.length_toList]; exact uqs_info hY)
          rw [Array.toArray_toList] at hld
          exact run_exec_load _ _ _ _ rfl _ _ rfl _ hld
        try simp only [Act.put, List.setIfInBounds_toArray, List.set_cons_zero, List.set_cons_succ]
        refine' wpAnyH_take (i := 2) (oi := ⟨some 76, _, _, _, _, _⟩) (v := _) rfl (by kernel_rfl) (by kernel_rfl) (by kernel_rfl) (fun _ _ _ h => h) (Or.inl ⟨by rfl, ?y2b⟩) hS0 ?r2b
        case y2b => (intro w' hSw; go_simp; try rfl)
        try simp only [Act.put, List.setIfInBounds_toArray, List.set_cons_zero, List.set_cons_succ]
        refine' wpAnyH_take (i := 3) (oi := ⟨some 77, _, _, _, _, _⟩) (v := _) rfl (by kernel_rfl) (by kernel_rfl) (by kernel_rfl) (fun _ _ _ h => h) (Or.inl ⟨by rfl, ?y3b⟩) hS0 ?r3b
        case y3b => (intro w' hSw; go_simp; try rfl)
        try simp only [Act.put, List.setIfInBounds_toArray, List.set_cons_zero, List.set_cons_succ]
        refine' wpAnyH_take (i := 4) (oi := ⟨some 78, _, _, _, _, _⟩) (v := _) rfl (by kernel_rfl) (by kernel_rfl) (by kernel_rfl) (fun _ _ _ h => h) (Or.inl ⟨by rfl, ?y4b⟩) hS0 ?r4b
        case y4b => (intro w' hSw; go_simp; try rfl)
        try simp only [Act.put, List.setIfInBounds_toArray, List.set_cons_zero, List.set_cons_succ]
        refine' wpAnyH_take (i := 6) (oi := ⟨some 80, _, _, _, _, _⟩) (v := _) rfl (by kernel_rfl) (by kernel_rfl) (by kernel_rfl) (fun _ _ _ h => h) (Or.inl ⟨by rfl, ?y6b⟩) hS0 ?r6b
        case y6b => (intro w' hSw; go_simp; try rfl)
        try simp only [Act.put, List.setIfInBounds_toArray, List.set_cons_zero, List.set_cons_succ]
        refine held_one (i := 5) (by kernel_rfl) rfl (fun Kb hK => ?_)
        go_simp
        refine (cnum_any _ _).mono ?_
        rintro e zN ⟨rfl, hzN⟩
        obtain rfl := hzN.symm
        refine hK.out _ _ hS0 (fun _ => ?_)
        clear hK Kb
        try simp only [Act.put, List.setIfInBounds_toArray, List.set_cons_zero, List.set_cons_succ]
        refine' wpAnyH_take (i := 7) (oi := ⟨some 81, _, _, _, _, _⟩) (v := _) rfl (by kernel_rfl) (by kernel_rfl) (by kernel_rfl) (fun _ _ _ h => h) (Or.inl ⟨by rfl, ?y7b⟩) hS0 ?r7b
        case y7b => (intro w' hSw; go_simp; try rfl)
        try simp only [Act.put, List.setIfInBounds_toArray, List.set_cons_zero, List.set_cons_succ]
        refine' wpAnyH_take (i := 8) (oi := ⟨some 82, _, _, _, _, _⟩) (v := _) rfl (by kernel_rfl) (by kernel_rfl) (by kernel_rfl) (fun _ _ _ h => h) (Or.inl ⟨by rfl, ?y8b⟩) hS0 ?r8b
        case y8b => (intro w' hSw; go_simp; try rfl)
        try simp only [Act.put, List.setIfInBounds_toArray, List.set_cons_zero, List.set_cons_succ]
        refine' wpAnyH_take (i := 9) (oi := ⟨some 83, _, _, _, _, _⟩) (v := _) rfl (by kernel_rfl) (by kernel_rfl) (by kernel_rfl) (fun _ _ _ h => h) (Or.inl ⟨by rfl, ?y9b⟩) hS0 ?r9b
        case y9b => (intro w' hSw; go_simp; try rfl)
        try simp only [Act.put, List.setIfInBounds_toArray, List.set_cons_zero, List.set_cons_succ]
        refine' wpAnyH_take (i := 10) (oi := ⟨some 84, _, _, _, _, _⟩) (v := (.agg (uqs V))) rfl (by kernel_rfl) (by kernel_rfl) (by kernel_rfl) (fun _ _ _ h => h) (Or.inl ⟨by rfl, ?y10b⟩) hS0 ?r10b
        case y10b =>
          intro w' hSw
          have hld := run_loadAt_mid (P := Tryd.prog) w' (w.heap.size) 0 25 (uqs V).toList _ (uqs_range ((L9.va).below hSw (L9.va).lt)) Tryd.underlying25 rfl (by rw [Array.length_toList]; exact uqs_info hV)
          rw [Array.toArray_toList] at hld
          exact run_exec_load _ _ _ _ rfl _ _ rfl _ hld
        try simp only [Act.put, List.setIfInBounds_toArray, List.set_cons_zero, List.set_cons_succ]
        refine' wpAnyH_take (i := 12) (oi := ⟨some 86, _, _, _, _, _⟩) (v := (.agg (uqs V))) rfl (by kernel_rfl) (by kernel_rfl) (by kernel_rfl) (fun _ _ _ h => h) (Or.inl ⟨by rfl, ?y12b⟩) hS0 ?r12b
        case y12b =>
          intro w' hSw
          have hld := run_loadAt_mid (P := Tryd.prog) w' (w.heap.size) 0 25 (uqs V).toList _ (uqs_range ((L9.va).below hSw (L9.va).lt)) Tryd.underlying25 rfl (by rw [Array.length_toList]; exact uqs_info hV)
          rw [Array.toArray_toList] at hld
          exact run_exec_load _ _ _ _ rfl _ _ rfl _ hld
        try simp only [Act.put, List.setIfInBounds_toArray, List.set_cons_zero, List.set_cons_succ]
        refine held_one (i := 11) (by kernel_rfl) rfl (fun Kb hK => ?_)
        go_simp
        refine (hmc Z0).mono ?_
        rintro e Z1 ⟨rfl, hq1⟩
        have hS1 := hS0.trans (hq1.below.mono hS0.size)
        have K1 := K0.below hq1.below
        refine hK.out _ _ hS1 (fun _ => ?_)
        clear hK Kb
        try simp only [Act.put, List.setIfInBounds_toArray, List.set_cons_zero, List.set_cons_succ]
        refine held_one (i := 13) (by kernel_rfl) rfl (fun Kb hK => ?_)
        go_simp
        refine (hmr Z1).mono ?_
        rintro e Z2 ⟨rfl, hq2⟩
        have hS2 := hS1.trans (hq2.below.mono hS1.size)
        have K2 := K1.below hq2.below
        refine hK.out _ _ hS2 (fun _ => ?_)
        clear hK Kb
        try simp only [Act.put, List.setIfInBounds_toArray, List.set_cons_zero, List.set_cons_succ]
        refine' wpAnyH_take (i := 14) (oi := ⟨some 88, _, _, _, _, _⟩) (v := _) rfl (by kernel_rfl) (by kernel_rfl) (by kernel_rfl) (fun _ _ _ h => h) (Or.inl ⟨by rfl, ?y14b⟩) hS2 ?r14b
        case y14b => (intro w' hSw; go_simp; try rfl)
        try simp only [Act.put, List.setIfInBounds_toArray, List.set_cons_zero, List.set_cons_succ]
        refine' wpAnyH_take (i := 15) (oi := ⟨some 89, _, _, _, _, _⟩) (v := _) rfl (by kernel_rfl) (by kernel_rfl) (by kernel_rfl) (fun _ _ _ h => h) (Or.inl ⟨by rfl, ?y15b⟩) hS2 ?r15b
        case y15b => (intro w' hSw; go_simp; try rfl)
        try simp only [Act.put, List.setIfInBounds_toArray, List.set_cons_zero, List.set_cons_succ]
        refine' wpAnyH_take (i := 16) (oi := ⟨some 90, _, _, _, _, _⟩) (v := _) rfl (by kernel_rfl) (by kernel_rfl) (by kernel_rfl) (fun _ _ _ h => h) (Or.inl ⟨by rfl, ?y16b⟩) hS2 ?r16b
        case y16b => (intro w' hSw; go_simp; try rfl)
        try simp only [Act.put, List.setIfInBounds_toArray, List.set_cons_zero, List.set_cons_succ]
        refine' wpAnyH_take (i := 17) (oi := ⟨some 91, _, _, _, _, _⟩) (v := (.agg (uqs V))) rfl (by kernel_rfl) (by kernel_rfl) (by kernel_rfl) (fun _ _ _ h => h) (Or.inl ⟨by rfl, ?y17b⟩) hS2 ?r17b
        case y17b =>
          intro w' hSw
          have hld := run_loadAt_mid (P := Tryd.prog) w' (w.heap.size) 0 25 (uqs V).toList _ (uqs_range ((L9.va).below hSw (L9.va).lt)) Tryd.underlying25 rfl (by rw [Array.length_toList]; exact uqs_info hV)
          rw [Array.toArray_toList] at hld
          exact run_exec_load _ _ _ _ rfl _ _ rfl _ hld
        try simp only [Act.put, List.setIfInBounds_toArray, List.set_cons_zero, List.set_cons_succ]
        refine' wpAnyH_take (i := 18) (oi := ⟨some 92, _, _, _, _, _⟩) (v := (.agg (uqs O))) rfl (by kernel_rfl) (by kernel_rfl) (by kernel_rfl) (fun _ _ _ h => h) (Or.inl ⟨by rfl, ?y18b⟩) hS2 ?r18b
        case y18b =>
          intro w' hSw
          have hld := run_loadAt_mid (P := Tryd.prog) w' (w.heap.size + 1) 0 25 (uqs O).toList _ (uqs_range ((L9.vb).below hSw (L9.vb).lt)) Tryd.underlying25 rfl (by rw [Array.length_toList]; exact uqs_info hO)
          rw [Array.toArray_toList] at hld
          exact run_exec_load _ _ _ _ rfl _ _ rfl _ hld
        try simp only [Act.put, List.setIfInBounds_toArray, List.set_cons_zero, List.set_cons_succ]
        refine' wpAnyH_take (i := 20) (oi := ⟨some 94, _, _, _, _, _⟩) (v := (.agg (uqs V))) rfl (by kernel_rfl) (by kernel_rfl) (by kernel_rfl) (fun _ _ _ h => h) (Or.inl ⟨by rfl, ?y20b⟩) hS2 ?r20b
        case y20b =>
          intro w' hSw
          have hld := run_loadAt_mid (P := Tryd.prog) w' (w.heap.size) 0 25 (uqs V).toList _ (uqs_range ((L9.va).below hSw (L9.va).lt)) Tryd.underlying25 rfl (by rw [Array.length_toList]; exact uqs_info hV)
          rw [Array.toArray_toList] at hld
          exact run_exec_load _ _ _ _ rfl _ _ rfl _ hld
        try simp only [Act.put, List.setIfInBounds_toArray, List.set_cons_zero, List.set_cons_succ]
        refine' wpAnyH_take (i := 21) (oi := ⟨some 95, _, _, _, _, _⟩) (v := (.agg (uqs O))) rfl (by kernel_rfl) (by kernel_rfl) (by kernel_rfl) (fun _ _ _ h => h) (Or.inl ⟨by rfl, ?y21b⟩) hS2 ?r21b
        case y21b =>
          intro w' hSw
          have hld := run_loadAt_mid (P := Tryd.prog) w' (w.heap.size + 1) 0 25 (uqs O).toList _ (uqs_range ((L9.vb).below hSw (L9.vb).lt)) Tryd.underlying25 rfl (by rw [Array.length_toList]; exact uqs_info hO)
          rw [Array.toArray_toList] at hld
          exact run_exec_load _ _ _ _ rfl _ _ rfl _ hld
        try simp only [Act.put, List.setIfInBounds_toArray, List.set_cons_zero, List.set_cons_succ]
        refine held_one (i := 19) (by kernel_rfl) rfl (fun Kb hK => ?_)
        go_simp
        refine (hjc Z2).mono ?_
        rintro e Z3 ⟨rfl, hq3⟩
        have hS3 := hS2.trans (hq3.below.mono hS2.size)
        have K3 := K2.below hq3.below
        refine hK.out _ _ hS3 (fun _ => ?_)
        clear hK Kb
        try simp only [Act.put, List.setIfInBounds_toArray, List.set_cons_zero, List.set_cons_succ]
        refine held_one (i := 22) (by kernel_rfl) rfl (fun Kb hK => ?_)
        go_simp
        refine (hjr Z3).mono ?_
        rintro e Z4 ⟨rfl, hq4⟩
        have hS4 := hS3.trans (hq4.mono hS3.size)
        have K4 := K3.below hq4
        refine hK.out _ _ hS4 (fun _ => ?_)
        clear hK Kb
        try simp only [Act.put, List.setIfInBounds_toArray, List.set_cons_zero, List.set_cons_succ]
        refine' wpAnyH_take (i := 23) (oi := ⟨some 97, _, _, _, _, _⟩) (v := _) rfl (by kernel_rfl) (by kernel_rfl) (by kernel_rfl) (fun _ _ _ h => h) (Or.inl ⟨by rfl, ?y23b⟩) hS4 ?r23b
        case y23b => (intro w' hSw; go_simp; try rfl)
        try simp only [Act.put, List.setIfInBounds_toArray, List.set_cons_zero, List.set_cons_succ]
        refine' wpAnyH_take (i := 24) (oi := ⟨some 98, _, _, _, _, _⟩) (v := _) rfl (by kernel_rfl) (by kernel_rfl) (by kernel_rfl) (fun _ _ _ h => h) (Or.inl ⟨by rfl, ?y24b⟩) hS4 ?r24b
        case y24b => (intro w' hSw; go_simp; try rfl)
        try simp only [Act.put, List.setIfInBounds_toArray, List.set_cons_zero, List.set_cons_succ]
        refine' wpAnyH_take (i := 25) (oi := ⟨some 99, _, _, _, _, _⟩) (v := _) rfl (by kernel_rfl) (by kernel_rfl) (by kernel_rfl) (fun _ _ _ h => h) (Or.inl ⟨by rfl, ?y25b⟩) hS4 ?r25b
        case y25b => (intro w' hSw; go_simp; try rfl)
        try simp only [Act.put, List.setIfInBounds_toArray, List.set_cons_zero, List.set_cons_succ]
        refine' wpAnyH_take (i := 26) (oi := ⟨some 100, _, _, _, _, _⟩) (v := (.agg (uqs V))) rfl (by kernel_rfl) (by kernel_rfl) (by kernel_rfl) (fun _ _ _ h => h) (Or.inl ⟨by rfl, ?y26b⟩) hS4 ?r26b
        case y26b =>
          intro w' hSw
          have hld := run_loadAt_mid (P := Tryd.prog) w' (w.heap.size) 0 25 (uqs V).toList _ (uqs_range ((L9.va).below hSw (L9.va).lt)) Tryd.underlying25 rfl (by rw [Array.length_toList]; exact uqs_info hV)
          rw [Array.toArray_toList] at hld
          exact run_exec_load _ _ _ _ rfl _ _ rfl _ hld
        try simp only [Act.put, List.setIfInBounds_toArray, List.set_cons_zero, List.set_cons_succ]
        refine' wpAnyH_take (i := 27) (oi := ⟨some 101, _, _, _, _, _⟩) (v := (.agg (uqs O))) rfl (by kernel_rfl) (by kernel_rfl) (by kernel_rfl) (fun _ _ _ h => h) (Or.inl ⟨by rfl, ?y27b⟩) hS4 ?r27b
        case y27b =>
          intro w' hSw
          have hld := run_loadAt_mid (P := Tryd.prog) w' (w.heap.size + 1) 0 25 (uqs O).toList _ (uqs_range ((L9.vb).below hSw (L9.vb).lt)) Tryd.underlying25 rfl (by rw [Array.length_toList]; exact uqs_info hO)
          rw [Array.toArray_toList] at hld
          exact run_exec_load _ _ _ _ rfl _ _ rfl _ hld
        try simp only [Act.put, List.setIfInBounds_toArray, List.set_cons_zero, List.set_cons_succ]
        refine' wpAnyH_take (i := 29) (oi := ⟨some 103, _, _, _, _, _⟩) (v := (.agg (uqs V))) rfl (by kernel_rfl) (by kernel_rfl) (by kernel_rfl) (fun _ _ _ h => h) (Or.inl ⟨by rfl, ?y29b⟩) hS4 ?r29b
        case y29b =>
          intro w' hSw
          have hld := run_loadAt_mid (P := Tryd.prog) w' (w.heap.size) 0 25 (uqs V).toList _ (uqs_range ((L9.va).below hSw (L9.va).lt)) Tryd.underlying25 rfl (by rw [Array.length_toList]; exact uqs_info hV)
          rw [Array.toArray_toList] at hld
          exact run_exec_load _ _ _ _ rfl _ _ rfl _ hld
        try simp only [Act.put, List.setIfInBounds_toArray, List.set_cons_zero, List.set_cons_succ]
        refine' wpAnyH_take (i := 30) (oi := ⟨some 104, _, _, _, _, _⟩) (v := (.agg (uqs O))) rfl (by kernel_rfl) (by kernel_rfl) (by kernel_rfl) (fun _ _ _ h => h) (Or.inl ⟨by rfl, ?y30b⟩) hS4 ?r30b
        case y30b =>
          intro w' hSw
          have hld := run_loadAt_mid (P := Tryd.prog) w' (w.heap.size + 1) 0 25 (uqs O).toList _ (uqs_range ((L9.vb).below hSw (L9.vb).lt)) Tryd.underlying25 rfl (by rw [Array.length_toList]; exact uqs_info hO)
          rw [Array.toArray_toList] at hld
          exact run_exec_load _ _ _ _ rfl _ _ rfl _ hld
        try simp only [Act.put, List.setIfInBounds_toArray, List.set_cons_zero, List.set_cons_succ]
        refine held_one (i := 28) (by kernel_rfl) rfl (fun Kb hK => ?_)
        go_simp
        refine (hcc Z4).mono ?_
        rintro e Z5 ⟨rfl, hq5⟩
        have hS5 := hS4.trans (hq5.below.mono hS4.size)
        have K5 := K4.below hq5.below
        refine hK.out _ _ hS5 (fun _ => ?_)
        clear hK Kb
        try simp only [Act.put, List.setIfInBounds_toArray, List.set_cons_zero, List.set_cons_succ]
        refine held_one (i := 31) (by kernel_rfl) rfl (fun Kb hK => ?_)
        go_simp
        refine (hcr Z5).mono ?_
        rintro e Z6 ⟨rfl, hq6⟩
        have hS6 := hS5.trans (hq6.below.mono hS5.size)
        have K6 := K5.below hq6.below
        refine hK.out _ _ hS6 (fun _ => ?_)
        clear hK Kb
        try simp only [Act.put, List.setIfInBounds_toArray, List.set_cons_zero, List.set_cons_succ]
        refine' wpAnyH_take (i := 32) (oi := ⟨some 106, _, _, _, _, _⟩) (v := _) rfl (by kernel_rfl) (by kernel_rfl) (by kernel_rfl) (fun _ _ _ h => h) (Or.inl ⟨by rfl, ?y32b⟩) hS6 ?r32b
        case y32b => (intro w' hSw; go_simp; try rfl)
        try simp only [Act.put, List.setIfInBounds_toArray, List.set_cons_zero, List.set_cons_succ]
        refine' wpAnyH_take (i := 33) (oi := ⟨some 107, _, _, _, _, _⟩) (v := _) rfl (by kernel_rfl) (by kernel_rfl) (by kernel_rfl) (fun _ _ _ h => h) (Or.inl ⟨by rfl, ?y33b⟩) hS6 ?r33b
        case y33b => (intro w' hSw; go_simp; try rfl)
        try simp only [Act.put, List.setIfInBounds_toArray, List.set_cons_zero, List.set_cons_succ]
        refine' wpAnyH_take (i := 34) (oi := ⟨some 108, _, _, _, _, _⟩) (v := _) rfl (by kernel_rfl) (by kernel_rfl) (by kernel_rfl) (fun _ _ _ h => h) (Or.inl ⟨by rfl, ?y34b⟩) hS6 ?r34b
        case y34b => (intro w' hSw; go_simp; try rfl)
        try simp only [Act.put, List.setIfInBounds_toArray, List.set_cons_zero, List.set_cons_succ]
        refine held_one (i := 35) (by kernel_rfl) rfl (fun Kb hK => ?_)
        go_simp
        refine (cknown_any Z6 K6.gg).mono ?_
        rintro e Z7 ⟨rfl, hq7⟩
        have hS7 := hS6.trans (hq7.mono hS6.size)
        have K7 := K6.below hq7
        refine hK.out _ _ hS7 (fun _ => ?_)
        clear hK Kb
        try simp only [Act.put, List.setIfInBounds_toArray, List.set_cons_zero, List.set_cons_succ]
        refine' wpAnyH_take (i := 36) (oi := ⟨some 110, _, _, _, _, _⟩) (v := _) rfl (by kernel_rfl) (by kernel_rfl) (by kernel_rfl) (fun _ _ _ h => h) (Or.inl ⟨by rfl, ?y36b⟩) hS7 ?r36b
        case y36b => (intro w' hSw; go_simp; try rfl)
        try simp only [Act.put, List.setIfInBounds_toArray, List.set_cons_zero, List.set_cons_succ]
        refine' wpAnyH_take (i := 37) (oi := ⟨some 10, _, _, _, _, _⟩) (v := _) rfl (by kernel_rfl) (by kernel_rfl) (by kernel_rfl) (fun _ _ _ h => h) (Or.inl ⟨by rfl, ?y37b⟩) hS7 ?r37b
        case y37b => (intro w' hSw; go_simp; try rfl)
        try simp only [Act.put, List.setIfInBounds_toArray, List.set_cons_zero, List.set_cons_succ]
        refine wpAnyH_done (by kernel_rfl) ?_ _
        go_wp2_with fail
        go_ret
        exact ⟨rfl, K7.bb⟩
      · cases hN : nameB d
        · go_upto_region 7 with (first | (go_at_call 8; refine (rmayName_any _ _).mono ?_; rintro e wd ⟨rfl, hwd⟩; obtain rfl := hwd.symm; rw [hN]))
          go_upto_region 9 with (first | (go_at_call 11; refine (cnum_any _ _).mono ?_; rintro e wn ⟨rfl, hwn⟩; obtain rfl := hwn.symm))
          have L4 := L2
          clear L2
          obtain ⟨Y, ny, hYY⟩ : ∃ Y n, curOf s d l = (Y, n) := ⟨_, _, rfl⟩
          have hcO := hYY
          have hY : Y.length = 16 := by have := curOf_len s d l; rw [hYY] at this; exact this
          clear hYY
          go_wp2_with fail
          refine (cof_any _ s d _ l _ L4.ss L4.sl (by omega) L4.gg).mono ?_
          rintro e x7 ⟨rfl, hx⟩
          rw [hcO]
          go_upto_region 10 with (refine wpList_store_mid rfl 25 _ _ rfl x7.heap.size 0 (uqs Y) rfl rfl (boxThere _ _ hY) (uqs_info hY) (uqs_one _) ?_; try simp only [Act.put, List.setIfInBounds_toArray, List.set_cons_zero, List.set_cons_succ])
          change Code.wp _ _ _ _ ((x7.alloc (.cells (uqs (z16 0 0)) 25)).setCells x7.heap.size 0 (uqs Y).toList)
          obtain ⟨p7, bq⟩ := boxNew x7 (V := Y) hY
          have hz := hx.trans (bq.mono hx.size)
          have L7 := L4.below hz
          generalize (x7.alloc (.cells (uqs (z16 0 0)) 25)).setCells x7.heap.size 0 (uqs Y).toList = W7 at p7 L7 ⊢
          clear hz bq hx L4
          generalize x7.heap.size = g7 at p7 ⊢
          go_wp2_with fail
          refine (rof_any _ s d _ l _ L7.ss L7.sl hl3).mono ?_
          rintro e x8 ⟨rfl, hx⟩
          rw [hcO]
          go_upto_region 11 with (refine wpList_store_mid rfl 25 _ _ rfl x8.heap.size 0 (uqs Y) rfl rfl (boxThere _ _ hY) (uqs_info hY) (uqs_one _) ?_; try simp only [Act.put, List.setIfInBounds_toArray, List.set_cons_zero, List.set_cons_succ])
          change Code.wp _ _ _ _ ((x8.alloc (.cells (uqs (z16 0 0)) 25)).setCells x8.heap.size 0 (uqs Y).toList)
          obtain ⟨p8, bq⟩ := boxNew x8 (V := Y) hY
          have hz := hx.trans (bq.mono hx.size)
          have L9 := L7.below hz
          replace p7 := p7.below hz p7.lt
          generalize (x8.alloc (.cells (uqs (z16 0 0)) 25)).setCells x8.heap.size 0 (uqs Y).toList = W9 at p8 p7 L9 ⊢
          clear hz bq hx L7 hcO
          generalize x8.heap.size = g8 at p8 ⊢
          have eY := fun W => vec_eq Y Y hY hY W
          have hmc := fun W => cmay_any V W hV
          have hmr := fun W => r10may_any V W hV
          have hjc := fun W => cjoin_any V O W hV hO
          have hjr := fun W => rjoin_any V O W hV hO
          have hcc := fun W => ccovers_any V O W hV hO
          have hcr := fun W => rcovers_any V O W hV hO
          have eM := fun W => vec_eq (maxV V O) (maxV V O) (maxV_length _ _) (maxV_length _ _) W
          rw [decide_eq_true rfl] at eY eM
          generalize maxV V O = MX at hjc hjr eM
          generalize decide (∀ n ∈ V, n ≤ top) = pm at hmc hmr
          generalize covB V O = pc at hcc hcr
          refine wp_region_held_drew (S := fun X => Below W9.heap.size W9 X) hfo (Below.refl _ _).drew (fun hS0 => ?_)
          have K0 := L9.below (show Below W9.heap.size W9 W9.drew from (Below.refl _ _).drew)
          generalize W9.drew = Z0 at hS0 K0 ⊢
          refine' wpAnyH_take (i := 0) (oi := ⟨some 74, _, _, _, _, _⟩) (v := (.agg (uqs Y))) rfl (by kernel_rfl) (by kernel_rfl) (by kernel_rfl) (fun _ _ _ h => h) (Or.inl ⟨by rfl, ?y0c⟩) hS0 ?r0c
          case y0c =>
            intro w' hSw
            have hld := run_loadAt_mid (P := Tryd.prog) w' (g7) 0 25 (uqs Y).toList _ (uqs_range ((p7).below hSw (p7).lt)) Tryd.underlying25 rfl (by rw [Array.length_toList]; exact uqs_info hY)
            rw [Array.toArray_toList] at hld
            exact run_exec_load _ _ _ _ rfl _ _ rfl _ hld
          try simp only [Act.put, List.setIfInBounds_toArray, List.set_cons_zero, List.set_cons_succ]
          refine' wpAnyH_take (i := 1) (oi := ⟨some 75, _, _, _, _, _⟩) (v := (.agg (uqs Y))) rfl (by kernel_rfl) (by kernel_rfl) (by kernel_rfl) (fun _ _ _ h => h) (Or.inl ⟨by rfl, ?y1c⟩) hS0 ?r1c
          case y1c =>
            intro w' hSw
            have hld := run_loadAt_mid (P := Tryd.prog) w' (g8) 0 25 (uqs Y).toList _ (uqs_range ((p8).below hSw (p8).lt)) Tryd.underlying25 rfl (by rw [Array.length_toList]; exact uqs_info hY)
            rw [Array.toArray_toList] at hld
            exact run_exec_load _ _ _ _ rfl _ _ rfl _ hld
          try simp only [Act.put, List.setIfInBounds_toArray, List.set_cons_zero, List.set_cons_succ]
          refine' wpAnyH_take (i := 2) (oi := ⟨some 76, _, _, _, _, _⟩) (v := _) rfl (by kernel_rfl) (by kernel_rfl) (by kernel_rfl) (fun _ _ _ h => h) (Or.inl ⟨by rfl, ?y2c⟩) hS0 ?r2c
          case y2c => (intro w' hSw; go_simp; try rfl)
          try simp only [Act.put, List.setIfInBounds_toArray, List.set_cons_zero, List.set_cons_succ]
          refine' wpAnyH_take (i := 3) (oi := ⟨some 77, _, _, _, _, _⟩) (v := _) rfl (by kernel_rfl) (by kernel_rfl) (by kernel_rfl) (fun _ _ _ h => h) (Or.inl ⟨by rfl, ?y3c⟩) hS0 ?r3c
          case y3c => (intro w' hSw; go_simp; try rfl)
          try simp only [Act.put, List.setIfInBounds_toArray, List.set_cons_zero, List.set_cons_succ]
          refine' wpAnyH_take (i := 4) (oi := ⟨some 78, _, _, _, _, _⟩) (v := _) rfl (by kernel_rfl) (by kernel_rfl) (by kernel_rfl) (fun _ _ _ h => h) (Or.inl ⟨by rfl, ?y4c⟩) hS0 ?r4c
          case y4c => (intro w' hSw; go_simp; try rfl)
          try simp only [Act.put, List.setIfInBounds_toArray, List.set_cons_zero, List.set_cons_succ]
          refine' wpAnyH_take (i := 6) (oi := ⟨some 80, _, _, _, _, _⟩) (v := _) rfl (by kernel_rfl) (by kernel_rfl) (by kernel_rfl) (fun _ _ _ h => h) (Or.inl ⟨by rfl, ?y6c⟩) hS0 ?r6c
          case y6c => (intro w' hSw; go_simp; try rfl)
          try simp only [Act.put, List.setIfInBounds_toArray, List.set_cons_zero, List.set_cons_succ]
          refine held_one (i := 5) (by kernel_rfl) rfl (fun Kc hK => ?_)
          go_simp
          refine (cnum_any _ _).mono ?_
          rintro e zN ⟨rfl, hzN⟩
          obtain rfl := hzN.symm
          refine hK.out _ _ hS0 (fun _ => ?_)
          clear hK Kc
          try simp only [Act.put, List.setIfInBounds_toArray, List.set_cons_zero, List.set_cons_succ]
          refine' wpAnyH_take (i := 7) (oi := ⟨some 81, _, _, _, _, _⟩) (v := _) rfl (by kernel_rfl) (by kernel_rfl) (by kernel_rfl) (fun _ _ _ h => h) (Or.inl ⟨by rfl, ?y7c⟩) hS0 ?r7c
          case y7c => (intro w' hSw; go_simp; try rfl)
          try simp only [Act.put, List.setIfInBounds_toArray, List.set_cons_zero, List.set_cons_succ]
          refine' wpAnyH_take (i := 8) (oi := ⟨some 82, _, _, _, _, _⟩) (v := _) rfl (by kernel_rfl) (by kernel_rfl) (by kernel_rfl) (fun _ _ _ h => h) (Or.inl ⟨by rfl, ?y8c⟩) hS0 ?r8c
          case y8c => (intro w' hSw; go_simp; try rfl)
          try simp only [Act.put, List.setIfInBounds_toArray, List.set_cons_zero, List.set_cons_succ]
          refine' wpAnyH_take (i := 9) (oi := ⟨some 83, _, _, _, _, _⟩) (v := _) rfl (by kernel_rfl) (by kernel_rfl) (by kernel_rfl) (fun _ _ _ h => h) (Or.inl ⟨by rfl, ?y9c⟩) hS0 ?r9c
          case y9c => (intro w' hSw; go_simp; try rfl)
          try simp only [Act.put, List.setIfInBounds_toArray, List.set_cons_zero, List.set_cons_succ]
          refine' wpAnyH_take (i := 10) (oi := ⟨some 84, _, _, _, _, _⟩) (v := (.agg (uqs V))) rfl (by kernel_rfl) (by kernel_rfl) (by kernel_rfl) (fun _ _ _ h => h) (Or.inl ⟨by rfl, ?y10c⟩) hS0 ?r10c
          case y10c =>
            intro w' hSw
            have hld := run_loadAt_mid (P := Tryd.prog) w' (w.heap.size) 0 25 (uqs V).toList _ (uqs_range ((L9.va).below hSw (L9.va).lt)) Tryd.underlying25 rfl (by rw [Array.length_toList]; exact uqs_info hV)
            rw [Array.toArray_toList] at hld
            exact run_exec_load _ _ _ _ rfl _ _ rfl _ hld
          try simp only [Act.put, List.setIfInBounds_toArray, List.set_cons_zero, List.set_cons_succ]
          refine' wpAnyH_take (i := 12) (oi := ⟨some 86, _, _, _, _, _⟩) (v := (.agg (uqs V))) rfl (by kernel_rfl) (by kernel_rfl) (by kernel_rfl) (fun _ _ _ h => h) (Or.inl ⟨by rfl, ?y12c⟩) hS0 ?r12c
          case y12c =>
            intro w' hSw
            have hld := run_loadAt_mid (P := Tryd.prog) w' (w.heap.size) 0 25 (uqs V).toList _ (uqs_range ((L9.va).below hSw (L9.va).lt)) Tryd.underlying25 rfl (by rw [Array.length_toList]; exact uqs_info hV)
            rw [Array.toArray_toList] at hld
            exact run_exec_load _ _ _ _ rfl _ _ rfl _ hld
          try simp only [Act.put, List.setIfInBounds_toArray, List.set_cons_zero, List.set_cons_succ]
          refine held_one (i := 11) (by kernel_rfl) rfl (fun Kc hK => ?_)
          go_simp
          refine (hmc Z0).mono ?_
          rintro e Z1 ⟨rfl, hq1⟩
          have hS1 := hS0.trans (hq1.below.mono hS0.size)
          have K1 := K0.below hq1.below
          refine hK.out _ _ hS1 (fun _ => ?_)
          clear hK Kc
          try simp only [Act.put, List.setIfInBounds_toArray, List.set_cons_zero, List.set_cons_succ]
          refine held_one (i := 13) (by kernel_rfl) rfl (fun Kc hK => ?_)
          go_simp
          refine (hmr Z1).mono ?_
          rintro e Z2 ⟨rfl, hq2⟩
          have hS2 := hS1.trans (hq2.below.mono hS1.size)
          have K2 := K1.below hq2.below
          refine hK.out _ _ hS2 (fun _ => ?_)
          clear hK Kc
          try simp only [Act.put, List.setIfInBounds_toArray, List.set_cons_zero, List.set_cons_succ]
          refine' wpAnyH_take (i := 14) (oi := ⟨some 88, _, _, _, _, _⟩) (v := _) rfl (by kernel_rfl) (by kernel_rfl) (by kernel_rfl) (fun _ _ _ h => h) (Or.inl ⟨by rfl, ?y14c⟩) hS2 ?r14c
          case y14c => (intro w' hSw; go_simp; try rfl)
          try simp only [Act.put, List.setIfInBounds_toArray, List.set_cons_zero, List.set_cons_succ]
          refine' wpAnyH_take (i := 15) (oi := ⟨some 89, _, _, _, _, _⟩) (v := _) rfl (by kernel_rfl) (by kernel_rfl) (by kernel_rfl) (fun _ _ _ h => h) (Or.inl ⟨by rfl, ?y15c⟩) hS2 ?r15c
          case y15c => (intro w' hSw; go_simp; try rfl)
          try simp only [Act.put, List.setIfInBounds_toArray, List.set_cons_zero, List.set_cons_succ]
          refine' wpAnyH_take (i := 16) (oi := ⟨some 90, _, _, _, _, _⟩) (v := _) rfl (by kernel_rfl) (by kernel_rfl) (by kernel_rfl) (fun _ _ _ h => h) (Or.inl ⟨by rfl, ?y16c⟩) hS2 ?r16c
          case y16c => (intro w' hSw; go_simp; try rfl)
          try simp only [Act.put, List.setIfInBounds_toArray, List.set_cons_zero, List.set_cons_succ]
          refine' wpAnyH_take (i := 17) (oi := ⟨some 91, _, _, _, _, _⟩) (v := (.agg (uqs V))) rfl (by kernel_rfl) (by kernel_rfl) (by kernel_rfl) (fun _ _ _ h => h) (Or.inl ⟨by rfl, ?y17c⟩) hS2 ?r17c
          case y17c =>
            intro w' hSw
            have hld := run_loadAt_mid (P := Tryd.prog) w' (w.heap.size) 0 25 (uqs V).toList _ (uqs_range ((L9.va).below hSw (L9.va).lt)) Tryd.underlying25 rfl (by rw [Array.length_toList]; exact uqs_info hV)
            rw [Array.toArray_toList] at hld
            exact run_exec_load _ _ _ _ rfl _ _ rfl _ hld
          try simp only [Act.put, List.setIfInBounds_toArray, List.set_cons_zero, List.set_cons_succ]
          refine' wpAnyH_take (i := 18) (oi := ⟨some 92, _, _, _, _, _⟩) (v := (.agg (uqs O))) rfl (by kernel_rfl) (by kernel_rfl) (by kernel_rfl) (fun _ _ _ h => h) (Or.inl ⟨by rfl, ?y18c⟩) hS2 ?r18c
          case y18c =>
            intro w' hSw
            have hld := run_loadAt_mid (P := Tryd.prog) w' (w.heap.size + 1) 0 25 (uqs O).toList _ (uqs_range ((L9.vb).below hSw (L9.vb).lt)) Tryd.underlying25 rfl (by rw [Array.length_toList]; exact uqs_info hO)
            rw [Array.toArray_toList] at hld
            exact run_exec_load _ _ _ _ rfl _ _ rfl _ hld
          try simp only [Act.put, List.setIfInBounds_toArray, List.set_cons_zero, List.set_cons_succ]
          refine' wpAnyH_take (i := 20) (oi := ⟨some 94, _, _, _, _, _⟩) (v := (.agg (uqs V))) rfl (by kernel_rfl) (by kernel_rfl) (by kernel_rfl) (fun _ _ _ h => h) (Or.inl ⟨by rfl, ?y20c⟩) hS2 ?r20c
          case y20c =>
            intro w' hSw
            have hld := run_loadAt_mid (P := Tryd.prog) w' (w.heap.size) 0 25 (uqs V).toList _ (uqs_range ((L9.va).below hSw (L9.va).lt)) Tryd.underlying25 rfl (by rw [Array.length_toList]; exact uqs_info hV)
            rw [Array.toArray_toList] at hld
            exact run_exec_load _ _ _ _ rfl _ _ rfl _ hld
          try simp only [Act.put, List.setIfInBounds_toArray, List.set_cons_zero, List.set_cons_succ]
          refine' wpAnyH_take (i := 21) (oi := ⟨some 95, _, _, _, _, _⟩) (v := (.agg (uqs O))) rfl (by kernel_rfl) (by kernel_rfl) (by kernel_rfl) (fun _ _ _ h => h) (Or.inl ⟨by rfl, ?y21c⟩) hS2 ?r21c
          case y21c =>
            intro w' hSw
            have hld := run_loadAt_mid (P := Tryd.prog) w' (w.heap.size + 1) 0 25 (uqs O).toList _ (uqs_range ((L9.vb).below hSw (L9.vb).lt)) Tryd.underlying25 rfl (by rw [Array.length_toList]; exact uqs_info hO)
            rw [Array.toArray_toList] at hld
            exact run_exec_load _ _ _ _ rfl _ _ rfl _ hld
          try simp only [Act.put, List.setIfInBounds_toArray, List.set_cons_zero, List.set_cons_succ]
          refine held_one (i := 19) (by kernel_rfl) rfl (fun Kc hK => ?_)
          go_simp
          refine (hjc Z2).mono ?_
          rintro e Z3 ⟨rfl, hq3⟩
          have hS3 := hS2.trans (hq3.below.mono hS2.size)
          have K3 := K2.below hq3.below
          refine hK.out _ _ hS3 (fun _ => ?_)
          clear hK Kc
          try simp only [Act.put, List.setIfInBounds_toArray, List.set_cons_zero, List.set_cons_succ]
          refine held_one (i := 22) (by kernel_rfl) rfl (fun Kc hK => ?_)
          go_simp
          refine (hjr Z3).mono ?_
          rintro e Z4 ⟨rfl, hq4⟩
          have hS4 := hS3.trans (hq4.mono hS3.size)
          have K4 := K3.below hq4
          refine hK.out _ _ hS4 (fun _ => ?_)
          clear hK Kc
          try simp only [Act.put, List.setIfInBounds_toArray, List.set_cons_zero, List.set_cons_succ]
          refine' wpAnyH_take (i := 23) (oi := ⟨some 97, _, _, _, _, _⟩) (v := _) rfl (by kernel_rfl) (by kernel_rfl) (by kernel_rfl) (fun _ _ _ h => h) (Or.inl ⟨by rfl, ?y23c⟩) hS4 ?r23c
          case y23c => (intro w' hSw; go_simp; try rfl)
          try simp only [Act.put, List.setIfInBounds_toArray, List.set_cons_zero, List.set_cons_succ]
          refine' wpAnyH_take (i := 24) (oi := ⟨some 98, _, _, _, _, _⟩) (v := _) rfl (by kernel_rfl) (by kernel_rfl) (by kernel_rfl) (fun _ _ _ h => h) (Or.inl ⟨by rfl, ?y24c⟩) hS4 ?r24c
          case y24c => (intro w' hSw; go_simp; try rfl)
          try simp only [Act.put, List.setIfInBounds_toArray, List.set_cons_zero, List.set_cons_succ]
          refine' wpAnyH_take (i := 25) (oi := ⟨some 99, _, _, _, _, _⟩) (v := _) rfl (by kernel_rfl) (by kernel_rfl) (by kernel_rfl) (fun _ _ _ h => h) (Or.inl ⟨by rfl, ?y25c⟩) hS4 ?r25c
          case y25c => (intro w' hSw; go_simp; try rfl)
          try simp only [Act.put, List.setIfInBounds_toArray, List.set_cons_zero, List.set_cons_succ]
          refine' wpAnyH_take (i := 26) (oi := ⟨some 100, _, _, _, _, _⟩) (v := (.agg (uqs V))) rfl (by kernel_rfl) (by kernel_rfl) (by kernel_rfl) (fun _ _ _ h => h) (Or.inl ⟨by rfl, ?y26c⟩) hS4 ?r26c
          case y26c =>
            intro w' hSw
            have hld := run_loadAt_mid (P := Tryd.prog) w' (w.heap.size) 0 25 (uqs V).toList _ (uqs_range ((L9.va).below hSw (L9.va).lt)) Tryd.underlying25 rfl (by rw [Array.length_toList]; exact uqs_info hV)
            rw [Array.toArray_toList] at hld
            exact run_exec_load _ _ _ _ rfl _ _ rfl _ hld
          try simp only [Act.put, List.setIfInBounds_toArray, List.set_cons_zero, List.set_cons_succ]
          refine' wpAnyH_take (i := 27) (oi := ⟨some 101, _, _, _, _, _⟩) (v := (.agg (uqs O))) rfl (by kernel_rfl) (by kernel_rfl) (by kernel_rfl) (fun _ _ _ h => h) (Or.inl ⟨by rfl, ?y27c⟩) hS4 ?r27c
          case y27c =>
            intro w' hSw
            have hld := run_loadAt_mid (P := Tryd.prog) w' (w.heap.size + 1) 0 25 (uqs O).toList _ (uqs_range ((L9.vb).below hSw (L9.vb).lt)) Tryd.underlying25 rfl (by rw [Array.length_toList]; exact uqs_info hO)
            rw [Array.toArray_toList] at hld
            exact run_exec_load _ _ _ _ rfl _ _ rfl _ hld
          try simp only [Act.put, List.setIfInBounds_toArray, List.set_cons_zero, List.set_cons_succ]
          refine' wpAnyH_take (i := 29) (oi := ⟨some 103, _, _, _, _, _⟩) (v := (.agg (uqs V))) rfl (by kernel_rfl) (by kernel_rfl) (by kernel_rfl) (fun _ _ _ h => h) (Or.inl ⟨by rfl, ?y29c⟩) hS4 ?r29c
          case y29c =>
            intro w' hSw
            have hld := run_loadAt_mid (P := Tryd.prog) w' (w.heap.size) 0 25 (uqs V).toList _ (uqs_range ((L9.va).below hSw (L9.va).lt)) Tryd.underlying25 rfl (by rw [Array.length_toList]; exact uqs_info hV)
            rw [Array.toArray_toList] at hld
            exact run_exec_load _ _ _ _ rfl _ _ rfl _ hld
          try simp only [Act.put, List.setIfInBounds_toArray, List.set_cons_zero, List.set_cons_succ]
          refine' wpAnyH_take (i := 30) (oi := ⟨some 104, _, _, _, _, _⟩) (v := (.agg (uqs O))) rfl (by kernel_rfl) (by kernel_rfl) (by kernel_rfl) (fun _ _ _ h => h) (Or.inl ⟨by rfl, ?y30c⟩) hS4 ?r30c
          case y30c =>
            intro w' hSw
            have hld := run_loadAt_mid (P := Tryd.prog) w' (w.heap.size + 1) 0 25 (uqs O).toList _ (uqs_range ((L9.vb).below hSw (L9.vb).lt)) Tryd.underlying25 rfl (by rw [Array.length_toList]; exact uqs_info hO)
            rw [Array.toArray_toList] at hld
            exact run_exec_load _ _ _ _ rfl _ _ rfl _ hld
          try simp only [Act.put, List.setIfInBounds_toArray, List.set_cons_zero, List.set_cons_succ]
          refine held_one (i := 28) (by kernel_rfl) rfl (fun Kc hK => ?_)
          go_simp
          refine (hcc Z4).mono ?_
          rintro e Z5 ⟨rfl, hq5⟩
          have hS5 := hS4.trans (hq5.below.mono hS4.size)
          have K5 := K4.below hq5.below
          refine hK.out _ _ hS5 (fun _ => ?_)
          clear hK Kc
          try simp only [Act.put, List.setIfInBounds_toArray, List.set_cons_zero, List.set_cons_succ]
          refine held_one (i := 31) (by kernel_rfl) rfl (fun Kc hK => ?_)
          go_simp
          refine (hcr Z5).mono ?_
          rintro e Z6 ⟨rfl, hq6⟩
          have hS6 := hS5.trans (hq6.below.mono hS5.size)
          have K6 := K5.below hq6.below
          refine hK.out _ _ hS6 (fun _ => ?_)
          clear hK Kc
          try simp only [Act.put, List.setIfInBounds_toArray, List.set_cons_zero, List.set_cons_succ]
          refine' wpAnyH_take (i := 32) (oi := ⟨some 106, _, _, _, _, _⟩) (v := _) rfl (by kernel_rfl) (by kernel_rfl) (by kernel_rfl) (fun _ _ _ h => h) (Or.inl ⟨by rfl, ?y32c⟩) hS6 ?r32c
          case y32c => (intro w' hSw; go_simp; try rfl)
          try simp only [Act.put, List.setIfInBounds_toArray, List.set_cons_zero, List.set_cons_succ]
          refine' wpAnyH_take (i := 33) (oi := ⟨some 107, _, _, _, _, _⟩) (v := _) rfl (by kernel_rfl) (by kernel_rfl) (by kernel_rfl) (fun _ _ _ h => h) (Or.inl ⟨by rfl, ?y33c⟩) hS6 ?r33c
          case y33c => (intro w' hSw; go_simp; try rfl)
          try simp only [Act.put, List.setIfInBounds_toArray, List.set_cons_zero, List.set_cons_succ]
          refine' wpAnyH_take (i := 34) (oi := ⟨some 108, _, _, _, _, _⟩) (v := _) rfl (by kernel_rfl) (by kernel_rfl) (by kernel_rfl) (fun _ _ _ h => h) (Or.inl ⟨by rfl, ?y34c⟩) hS6 ?r34c
          case y34c => (intro w' hSw; go_simp; try rfl)
          try simp only [Act.put, List.setIfInBounds_toArray, List.set_cons_zero, List.set_cons_succ]
          refine held_one (i := 35) (by kernel_rfl) rfl (fun Kc hK => ?_)
          go_simp
          refine (cknown_any Z6 K6.gg).mono ?_
          rintro e Z7 ⟨rfl, hq7⟩
          have hS7 := hS6.trans (hq7.mono hS6.size)
          have K7 := K6.below hq7
          refine hK.out _ _ hS7 (fun _ => ?_)
          clear hK Kc
          try simp only [Act.put, List.setIfInBounds_toArray, List.set_cons_zero, List.set_cons_succ]
          refine' wpAnyH_take (i := 36) (oi := ⟨some 110, _, _, _, _, _⟩) (v := _) rfl (by kernel_rfl) (by kernel_rfl) (by kernel_rfl) (fun _ _ _ h => h) (Or.inl ⟨by rfl, ?y36c⟩) hS7 ?r36c
          case y36c => (intro w' hSw; go_simp; try rfl)
          try simp only [Act.put, List.setIfInBounds_toArray, List.set_cons_zero, List.set_cons_succ]
          refine' wpAnyH_take (i := 37) (oi := ⟨some 10, _, _, _, _, _⟩) (v := _) rfl (by kernel_rfl) (by kernel_rfl) (by kernel_rfl) (fun _ _ _ h => h) (Or.inl ⟨by rfl, ?y37c⟩) hS7 ?r37c
          case y37c => (intro w' hSw; go_simp; try rfl)
          try simp only [Act.put, List.setIfInBounds_toArray, List.set_cons_zero, List.set_cons_succ]
          refine wpAnyH_done (by kernel_rfl) ?_ _
          go_wp2_with fail
          go_ret
          exact ⟨rfl, K7.bb⟩
        · have hM := hbad.resolve_left (by rw [hN]; simp)
          go_upto_region 7 with (first | (go_at_call 8; refine (rmayName_any _ _).mono ?_; rintro e wd ⟨rfl, hwd⟩; obtain rfl := hwd.symm; rw [hN]) | (refine wpList_load_mid_g (by rfl) 25 _ rfl (w.heap.size) 0 rfl (uqs V) _ (uqs_range L2.va) Tryd.underlying25 rfl (uqs_info hV) ?_; try simp only [Act.put, List.setIfInBounds_toArray, List.set_cons_zero, List.set_cons_succ]) | (go_at_call 9; refine (r10may_any V _ hV).mono ?_; rintro e W4 ⟨rfl, hg4⟩; rw [hM]))
          go_upto_region 9 with (first | (go_at_call 11; refine (cnum_any _ _).mono ?_; rintro e wn ⟨rfl, hwn⟩; obtain rfl := hwn.symm))
          have L4 := L2.below hg4.below
          clear L2 hg4
          obtain ⟨Y, ny, hYY⟩ : ∃ Y n, curOf s d l = (Y, n) := ⟨_, _, rfl⟩
          have hcO := hYY
          have hY : Y.length = 16 := by have := curOf_len s d l; rw [hYY] at this; exact this
          clear hYY
          go_wp2_with fail
          refine (cof_any _ s d _ l _ L4.ss L4.sl (by omega) L4.gg).mono ?_
          rintro e x7 ⟨rfl, hx⟩
          rw [hcO]
          go_upto_region 10 with (refine wpList_store_mid rfl 25 _ _ rfl x7.heap.size 0 (uqs Y) rfl rfl (boxThere _ _ hY) (uqs_info hY) (uqs_one _) ?_; try simp only [Act.put, List.setIfInBounds_toArray, List.set_cons_zero, List.set_cons_succ])
          change Code.wp _ _ _ _ ((x7.alloc (.cells (uqs (z16 0 0)) 25)).setCells x7.heap.size 0 (uqs Y).toList)
          obtain ⟨p7, bq⟩ := boxNew x7 (V := Y) hY
          have hz := hx.trans (bq.mono hx.size)
          have L7 := L4.below hz
          generalize (x7.alloc (.cells (uqs (z16 0 0)) 25)).setCells x7.heap.size 0 (uqs Y).toList = W7 at p7 L7 ⊢
          clear hz bq hx L4
          generalize x7.heap.size = g7 at p7 ⊢
          go_wp2_with fail
          refine (rof_any _ s d _ l _ L7.ss L7.sl hl3).mono ?_
          rintro e x8 ⟨rfl, hx⟩
          rw [hcO]
          go_upto_region 11 with (refine wpList_store_mid rfl 25 _ _ rfl x8.heap.size 0 (uqs Y) rfl rfl (boxThere _ _ hY) (uqs_info hY) (uqs_one _) ?_; try simp only [Act.put, List.setIfInBounds_toArray, List.set_cons_zero, List.set_cons_succ])
          change Code.wp _ _ _ _ ((x8.alloc (.cells (uqs (z16 0 0)) 25)).setCells x8.heap.size 0 (uqs Y).toList)
          obtain ⟨p8, bq⟩ := boxNew x8 (V := Y) hY
          have hz := hx.trans (bq.mono hx.size)
          have L9 := L7.below hz
          replace p7 := p7.below hz p7.lt
          generalize (x8.alloc (.cells (uqs (z16 0 0)) 25)).setCells x8.heap.size 0 (uqs Y).toList = W9 at p8 p7 L9 ⊢
          clear hz bq hx L7 hcO
          generalize x8.heap.size = g8 at p8 ⊢
          have eY := fun W => vec_eq Y Y hY hY W
          have hmc := fun W => cmay_any V W hV
          have hmr := fun W => r10may_any V W hV
          have hjc := fun W => cjoin_any V O W hV hO
          have hjr := fun W => rjoin_any V O W hV hO
          have hcc := fun W => ccovers_any V O W hV hO
          have hcr := fun W => rcovers_any V O W hV hO
          have eM := fun W => vec_eq (maxV V O) (maxV V O) (maxV_length _ _) (maxV_length _ _) W
          rw [decide_eq_true rfl] at eY eM
          generalize maxV V O = MX at hjc hjr eM
          generalize decide (∀ n ∈ V, n ≤ top) = pm at hmc hmr
          generalize covB V O = pc at hcc hcr
          refine wp_region_held_drew (S := fun X => Below W9.heap.size W9 X) hfo (Below.refl _ _).drew (fun hS0 => ?_)
          have K0 := L9.below (show Below W9.heap.size W9 W9.drew from (Below.refl _ _).drew)
          generalize W9.drew = Z0 at hS0 K0 ⊢
          refine' wpAnyH_take (i := 0) (oi := ⟨some 74, _, _, _, _, _⟩) (v := (.agg (uqs Y))) rfl (by kernel_rfl) (by kernel_rfl) (by kernel_rfl) (fun _ _ _ h => h) (Or.inl ⟨by rfl, ?y0d⟩) hS0 ?r0d
          case y0d =>
            intro w' hSw
            have hld := run_loadAt_mid (P := Tryd.prog) w' (g7) 0 25 (uqs Y).toList _ (uqs_range ((p7).below hSw (p7).lt)) Tryd.underlying25 rfl (by rw [Array.length_toList]; exact uqs_info hY)
            rw [Array.toArray_toList] at hld
            exact run_exec_load _ _ _ _ rfl _ _ rfl _ hld
          try simp only [Act.put, List.setIfInBounds_toArray, List.set_cons_zero, List.set_cons_succ]
          refine' wpAnyH_take (i := 1) (oi := ⟨some 75, _, _, _, _, _⟩) (v := (.agg (uqs Y))) rfl (by kernel_rfl) (by kernel_rfl) (by kernel_rfl) (fun _ _ _ h => h) (Or.inl ⟨by rfl, ?y1d⟩) hS0 ?r1d
          case y1d =>
            intro w' hSw
            have hld := run_loadAt_mid (P := Tryd.prog) w' (g8) 0 25 (uqs Y).toList _ (uqs_range ((p8).below hSw (p8).lt)) Tryd.underlying25 rfl (by rw [Array.length_toList]; exact uqs_info hY)
            rw [Array.toArray_toList] at hld
            exact run_exec_load _ _ _ _ rfl _ _ rfl _ hld
          try simp only [Act.put, List.setIfInBounds_toArray, List.set_cons_zero, List.set_cons_succ]
          refine' wpAnyH_take (i := 2) (oi := ⟨some 76, _, _, _, _, _⟩) (v := _) rfl (by kernel_rfl) (by kernel_rfl) (by kernel_rfl) (fun _ _ _ h => h) (Or.inl ⟨by rfl, ?y2d⟩) hS0 ?r2d
          case y2d => (intro w' hSw; go_simp; try rfl)
          try simp only [Act.put, List.setIfInBounds_toArray, List.set_cons_zero, List.set_cons_succ]
          refine' wpAnyH_take (i := 3) (oi := ⟨some 77, _, _, _, _, _⟩) (v := _) rfl (by kernel_rfl) (by kernel_rfl) (by kernel_rfl) (fun _ _ _ h => h) (Or.inl ⟨by rfl, ?y3d⟩) hS0 ?r3d
          case y3d => (intro w' hSw; go_simp; try rfl)
          try simp only [Act.put, List.setIfInBounds_toArray, List.set_cons_zero, List.set_cons_succ]
          refine' wpAnyH_take (i := 4) (oi := ⟨some 78, _, _, _, _, _⟩) (v := _) rfl (by kernel_rfl) (by kernel_rfl) (by kernel_rfl) (fun _ _ _ h => h) (Or.inl ⟨by rfl, ?y4d⟩) hS0 ?r4d
          case y4d => (intro w' hSw; go_simp; try rfl)
          try simp only [Act.put, List.setIfInBounds_toArray, List.set_cons_zero, List.set_cons_succ]
          refine' wpAnyH_take (i := 6) (oi := ⟨some 80, _, _, _, _, _⟩) (v := _) rfl (by kernel_rfl) (by kernel_rfl) (by kernel_rfl) (fun _ _ _ h => h) (Or.inl ⟨by rfl, ?y6d⟩) hS0 ?r6d
          case y6d => (intro w' hSw; go_simp; try rfl)
          try simp only [Act.put, List.setIfInBounds_toArray, List.set_cons_zero, List.set_cons_succ]
          refine held_one (i := 5) (by kernel_rfl) rfl (fun Kd hK => ?_)
          go_simp
          refine (cnum_any _ _).mono ?_
          rintro e zN ⟨rfl, hzN⟩
          obtain rfl := hzN.symm
          refine hK.out _ _ hS0 (fun _ => ?_)
          clear hK Kd
          try simp only [Act.put, List.setIfInBounds_toArray, List.set_cons_zero, List.set_cons_succ]
          refine' wpAnyH_take (i := 7) (oi := ⟨some 81, _, _, _, _, _⟩) (v := _) rfl (by kernel_rfl) (by kernel_rfl) (by kernel_rfl) (fun _ _ _ h => h) (Or.inl ⟨by rfl, ?y7d⟩) hS0 ?r7d
          case y7d => (intro w' hSw; go_simp; try rfl)
          try simp only [Act.put, List.setIfInBounds_toArray, List.set_cons_zero, List.set_cons_succ]
          refine' wpAnyH_take (i := 8) (oi := ⟨some 82, _, _, _, _, _⟩) (v := _) rfl (by kernel_rfl) (by kernel_rfl) (by kernel_rfl) (fun _ _ _ h => h) (Or.inl ⟨by rfl, ?y8d⟩) hS0 ?r8d
          case y8d => (intro w' hSw; go_simp; try rfl)
          try simp only [Act.put, List.setIfInBounds_toArray, List.set_cons_zero, List.set_cons_succ]
          refine' wpAnyH_take (i := 9) (oi := ⟨some 83, _, _, _, _, _⟩) (v := _) rfl (by kernel_rfl) (by kernel_rfl) (by kernel_rfl) (fun _ _ _ h => h) (Or.inl ⟨by rfl, ?y9d⟩) hS0 ?r9d
          case y9d => (intro w' hSw; go_simp; try rfl)
          try simp only [Act.put, List.setIfInBounds_toArray, List.set_cons_zero, List.set_cons_succ]
          refine' wpAnyH_take (i := 10) (oi := ⟨some 84, _, _, _, _, _⟩) (v := (.agg (uqs V))) rfl (by kernel_rfl) (by kernel_rfl) (by kernel_rfl) (fun _ _ _ h => h) (Or.inl ⟨by rfl, ?y10d⟩) hS0 ?r10d
          case y10d =>
            intro w' hSw
            have hld := run_loadAt_mid (P := Tryd.prog) w' (w.heap.size) 0 25 (uqs V).toList _ (uqs_range ((L9.va).below hSw (L9.va).lt)) Tryd.underlying25 rfl (by rw [Array.length_toList]; exact uqs_info hV)
            rw [Array.toArray_toList] at hld
            exact run_exec_load _ _ _ _ rfl _ _ rfl _ hld
          try simp only [Act.put, List.setIfInBounds_toArray, List.set_cons_zero, List.set_cons_succ]
          refine' wpAnyH_take (i := 12) (oi := ⟨some 86, _, _, _, _, _⟩) (v := (.agg (uqs V))) rfl (by kernel_rfl) (by kernel_rfl) (by kernel_rfl) (fun _ _ _ h => h) (Or.inl ⟨by rfl, ?y12d⟩) hS0 ?r12d
          case y12d =>
            intro w' hSw
            have hld := run_loadAt_mid (P := Tryd.prog) w' (w.heap.size) 0 25 (uqs V).toList _ (uqs_range ((L9.va).below hSw (L9.va).lt)) Tryd.underlying25 rfl (by rw [Array.length_toList]; exact uqs_info hV)
            rw [Array.toArray_toList] at hld
            exact run_exec_load _ _ _ _ rfl _ _ rfl _ hld
          try simp only [Act.put, List.setIfInBounds_toArray, List.set_cons_zero, List.set_cons_succ]
          refine held_one (i := 11) (by kernel_rfl) rfl (fun Kd hK => ?_)
          go_simp
          refine (hmc Z0).mono ?_
          rintro e Z1 ⟨rfl, hq1⟩
          have hS1 := hS0.trans (hq1.below.mono hS0.size)
          have K1 := K0.below hq1.below
          refine hK.out _ _ hS1 (fun _ => ?_)
          clear hK Kd
          try simp only [Act.put, List.setIfInBounds_toArray, List.set_cons_zero, List.set_cons_succ]
          refine held_one (i := 13) (by kernel_rfl) rfl (fun Kd hK => ?_)
          go_simp
          refine (hmr Z1).mono ?_
          rintro e Z2 ⟨rfl, hq2⟩
          have hS2 := hS1.trans (hq2.below.mono hS1.size)
          have K2 := K1.below hq2.below
          refine hK.out _ _ hS2 (fun _ => ?_)
          clear hK Kd
          try simp only [Act.put, List.setIfInBounds_toArray, List.set_cons_zero, List.set_cons_succ]
          refine' wpAnyH_take (i := 14) (oi := ⟨some 88, _, _, _, _, _⟩) (v := _) rfl (by kernel_rfl) (by kernel_rfl) (by kernel_rfl) (fun _ _ _ h => h) (Or.inl ⟨by rfl, ?y14d⟩) hS2 ?r14d
          case y14d => (intro w' hSw; go_simp; try rfl)
          try simp only [Act.put, List.setIfInBounds_toArray, List.set_cons_zero, List.set_cons_succ]
          refine' wpAnyH_take (i := 15) (oi := ⟨some 89, _, _, _, _, _⟩) (v := _) rfl (by kernel_rfl) (by kernel_rfl) (by kernel_rfl) (fun _ _ _ h => h) (Or.inl ⟨by rfl, ?y15d⟩) hS2 ?r15d
          case y15d => (intro w' hSw; go_simp; try rfl)
          try simp only [Act.put, List.setIfInBounds_toArray, List.set_cons_zero, List.set_cons_succ]
          refine' wpAnyH_take (i := 16) (oi := ⟨some 90, _, _, _, _, _⟩) (v := _) rfl (by kernel_rfl) (by kernel_rfl) (by kernel_rfl) (fun _ _ _ h => h) (Or.inl ⟨by rfl, ?y16d⟩) hS2 ?r16d
          case y16d => (intro w' hSw; go_simp; try rfl)
          try simp only [Act.put, List.setIfInBounds_toArray, List.set_cons_zero, List.set_cons_succ]
          refine' wpAnyH_take (i := 17) (oi := ⟨some 91, _, _, _, _, _⟩) (v := (.agg (uqs V))) rfl (by kernel_rfl) (by kernel_rfl) (by kernel_rfl) (fun _ _ _ h => h) (Or.inl ⟨by rfl, ?y17d⟩) hS2 ?r17d
          case y17d =>
            intro w' hSw
            have hld := run_loadAt_mid (P := Tryd.prog) w' (w.heap.size) 0 25 (uqs V).toList _ (uqs_range ((L9.va).below hSw (L9.va).lt)) Tryd.underlying25 rfl (by rw [Array.length_toList]; exact uqs_info hV)
            rw [Array.toArray_toList] at hld
            exact run_exec_load _ _ _ _ rfl _ _ rfl _ hld
          try simp only [Act.put, List.setIfInBounds_toArray, List.set_cons_zero, List.set_cons_succ]
          refine' wpAnyH_take (i := 18) (oi := ⟨some 92, _, _, _, _, _⟩) (v := (.agg (uqs O))) rfl (by kernel_rfl) (by kernel_rfl) (by kernel_rfl) (fun _ _ _ h => h) (Or.inl ⟨by rfl, ?y18d⟩) hS2 ?r18d
          case y18d =>
            intro w' hSw
            have hld := run_loadAt_mid (P := Tryd.prog) w' (w.heap.size + 1) 0 25 (uqs O).toList _ (uqs_range ((L9.vb).below hSw (L9.vb).lt)) Tryd.underlying25 rfl (by rw [Array.length_toList]; exact uqs_info hO)
            rw [Array.toArray_toList] at hld
            exact run_exec_load _ _ _ _ rfl _ _ rfl _ hld
          try simp only [Act.put, List.setIfInBounds_toArray, List.set_cons_zero, List.set_cons_succ]
          refine' wpAnyH_take (i := 20) (oi := ⟨some 94, _, _, _, _, _⟩) (v := (.agg (uqs V))) rfl (by kernel_rfl) (by kernel_rfl) (by kernel_rfl) (fun _ _ _ h => h) (Or.inl ⟨by rfl, ?y20d⟩) hS2 ?r20d
          case y20d =>
            intro w' hSw
            have hld := run_loadAt_mid (P := Tryd.prog) w' (w.heap.size) 0 25 (uqs V).toList _ (uqs_range ((L9.va).below hSw (L9.va).lt)) Tryd.underlying25 rfl (by rw [Array.length_toList]; exact uqs_info hV)
            rw [Array.toArray_toList] at hld
            exact run_exec_load _ _ _ _ rfl _ _ rfl _ hld
          try simp only [Act.put, List.setIfInBounds_toArray, List.set_cons_zero, List.set_cons_succ]
          refine' wpAnyH_take (i := 21) (oi := ⟨some 95, _, _, _, _, _⟩) (v := (.agg (uqs O))) rfl (by kernel_rfl) (by kernel_rfl) (by kernel_rfl) (fun _ _ _ h => h) (Or.inl ⟨by rfl, ?y21d⟩) hS2 ?r21d
          case y21d =>
            intro w' hSw
            have hld := run_loadAt_mid (P := Tryd.prog) w' (w.heap.size + 1) 0 25 (uqs O).toList _ (uqs_range ((L9.vb).below hSw (L9.vb).lt)) Tryd.underlying25 rfl (by rw [Array.length_toList]; exact uqs_info hO)
            rw [Array.toArray_toList] at hld
            exact run_exec_load _ _ _ _ rfl _ _ rfl _ hld
          try simp only [Act.put, List.setIfInBounds_toArray, List.set_cons_zero, List.set_cons_succ]
          refine held_one (i := 19) (by kernel_rfl) rfl (fun Kd hK => ?_)
          go_simp
          refine (hjc Z2).mono ?_
          rintro e Z3 ⟨rfl, hq3⟩
          have hS3 := hS2.trans (hq3.below.mono hS2.size)
          have K3 := K2.below hq3.below
          refine hK.out _ _ hS3 (fun _ => ?_)
          clear hK Kd
          try simp only [Act.put, List.setIfInBounds_toArray, List.set_cons_zero, List.set_cons_succ]
          refine held_one (i := 22) (by kernel_rfl) rfl (fun Kd hK => ?_)
          go_simp
          refine (hjr Z3).mono ?_
          rintro e Z4 ⟨rfl, hq4⟩
          have hS4 := hS3.trans (hq4.mono hS3.size)
          have K4 := K3.below hq4
          refine hK.out _ _ hS4 (fun _ => ?_)
          clear hK Kd
          try simp only [Act.put, List.setIfInBounds_toArray, List.set_cons_zero, List.set_cons_succ]
          refine' wpAnyH_take (i := 23) (oi := ⟨some 97, _, _, _, _, _⟩) (v := _) rfl (by kernel_rfl) (by kernel_rfl) (by kernel_rfl) (fun _ _ _ h => h) (Or.inl ⟨by rfl, ?y23d⟩) hS4 ?r23d
          case y23d => (intro w' hSw; go_simp; try rfl)
          try simp only [Act.put, List.setIfInBounds_toArray, List.set_cons_zero, List.set_cons_succ]
          refine' wpAnyH_take (i := 24) (oi := ⟨some 98, _, _, _, _, _⟩) (v := _) rfl (by kernel_rfl) (by kernel_rfl) (by kernel_rfl) (fun _ _ _ h => h) (Or.inl ⟨by rfl, ?y24d⟩) hS4 ?r24d
          case y24d => (intro w' hSw; go_simp; try rfl)
          try simp only [Act.put, List.setIfInBounds_toArray, List.set_cons_zero, List.set_cons_succ]
          refine' wpAnyH_take (i := 25) (oi := ⟨some 99, _, _, _, _, _⟩) (v := _) rfl (by kernel_rfl) (by kernel_rfl) (by kernel_rfl) (fun _ _ _ h => h) (Or.inl ⟨by rfl, ?y25d⟩) hS4 ?r25d
          case y25d => (intro w' hSw; go_simp; try rfl)
          try simp only [Act.put, List.setIfInBounds_toArray, List.set_cons_zero, List.set_cons_succ]
          refine' wpAnyH_take (i := 26) (oi := ⟨some 100, _, _, _, _, _⟩) (v := (.agg (uqs V))) rfl (by kernel_rfl) (by kernel_rfl) (by kernel_rfl) (fun _ _ _ h => h) (Or.inl ⟨by rfl, ?y26d⟩) hS4 ?r26d
          case y26d =>
            intro w' hSw
            have hld := run_loadAt_mid (P := Tryd.prog) w' (w.heap.size) 0 25 (uqs V).toList _ (uqs_range ((L9.va).below hSw (L9.va).lt)) Tryd.underlying25 rfl (by rw [Array.length_toList]; exact uqs_info hV)
            rw [Array.toArray_toList] at hld
            exact run_exec_load _ _ _ _ rfl _ _ rfl _ hld
          try simp only [Act.put, List.setIfInBounds_toArray, List.set_cons_zero, List.set_cons_succ]
          refine' wpAnyH_take (i := 27) (oi := ⟨some 101, _, _, _, _, _⟩) (v := (.agg (uqs O))) rfl (by kernel_rfl) (by kernel_rfl) (by kernel_rfl) (fun _ _ _ h => h) (Or.inl ⟨by rfl, ?y27d⟩) hS4 ?r27d
          case y27d =>
            intro w' hSw
            have hld := run_loadAt_mid (P := Tryd.prog) w' (w.heap.size + 1) 0 25 (uqs O).toList _ (uqs_range ((L9.vb).below hSw (L9.vb).lt)) Tryd.underlying25 rfl (by rw [Array.length_toList]; exact uqs_info hO)
            rw [Array.toArray_toList] at hld
            exact run_exec_load _ _ _ _ rfl _ _ rfl _ hld
          try simp only [Act.put, List.setIfInBounds_toArray, List.set_cons_zero, List.set_cons_succ]
          refine' wpAnyH_take (i := 29) (oi := ⟨some 103, _, _, _, _, _⟩) (v := (.agg (uqs V))) rfl (by kernel_rfl) (by kernel_rfl) (by kernel_rfl) (fun _ _ _ h => h) (Or.inl ⟨by rfl, ?y29d⟩) hS4 ?r29d
          case y29d =>
            intro w' hSw
            have hld := run_loadAt_mid (P := Tryd.prog) w' (w.heap.size) 0 25 (uqs V).toList _ (uqs_range ((L9.va).below hSw (L9.va).lt)) Tryd.underlying25 rfl (by rw [Array.length_toList]; exact uqs_info hV)
            rw [Array.toArray_toList] at hld
            exact run_exec_load _ _ _ _ rfl _ _ rfl _ hld
          try simp only [Act.put, List.setIfInBounds_toArray, List.set_cons_zero, List.set_cons_succ]
          refine' wpAnyH_take (i := 30) (oi := ⟨some 104, _, _, _, _, _⟩) (v := (.agg (uqs O))) rfl (by kernel_rfl) (by kernel_rfl) (by kernel_rfl) (fun _ _ _ h => h) (Or.inl ⟨by rfl, ?y30d⟩) hS4 ?r30d
          case y30d =>
            intro w' hSw
            have hld := run_loadAt_mid (P := Tryd.prog) w' (w.heap.size + 1) 0 25 (uqs O).toList _ (uqs_range ((L9.vb).below hSw (L9.vb).lt)) Tryd.underlying25 rfl (by rw [Array.length_toList]; exact uqs_info hO)
            rw [Array.toArray_toList] at hld
            exact run_exec_load _ _ _ _ rfl _ _ rfl _ hld
          try simp only [Act.put, List.setIfInBounds_toArray, List.set_cons_zero, List.set_cons_succ]
          refine held_one (i := 28) (by kernel_rfl) rfl (fun Kd hK => ?_)
          go_simp
          refine (hcc Z4).mono ?_
          rintro e Z5 ⟨rfl, hq5⟩
          have hS5 := hS4.trans (hq5.below.mono hS4.size)
          have K5 := K4.below hq5.below
          refine hK.out _ _ hS5 (fun _ => ?_)
          clear hK Kd
          try simp only [Act.put, List.setIfInBounds_toArray, List.set_cons_zero, List.set_cons_succ]
          refine held_one (i := 31) (by kernel_rfl) rfl (fun Kd hK => ?_)
          go_simp
          refine (hcr Z5).mono ?_
          rintro e Z6 ⟨rfl, hq6⟩
          have hS6 := hS5.trans (hq6.below.mono hS5.size)
          have K6 := K5.below hq6.below
          refine hK.out _ _ hS6 (fun _ => ?_)
          clear hK Kd
          try simp only [Act.put, List.setIfInBounds_toArray, List.set_cons_zero, List.set_cons_succ]
          refine' wpAnyH_take (i := 32) (oi := ⟨some 106, _, _, _, _, _⟩) (v := _) rfl (by kernel_rfl) (by kernel_rfl) (by kernel_rfl) (fun _ _ _ h => h) (Or.inl ⟨by rfl, ?y32d⟩) hS6 ?r32d
          case y32d => (intro w' hSw; go_simp; try rfl)
          try simp only [Act.put, List.setIfInBounds_toArray, List.set_cons_zero, List.set_cons_succ]
          refine' wpAnyH_take (i := 33) (oi := ⟨some 107, _, _, _, _, _⟩) (v := _) rfl (by kernel_rfl) (by kernel_rfl) (by kernel_rfl) (fun _ _ _ h => h) (Or.inl ⟨by rfl, ?y33d⟩) hS6 ?r33d
          case y33d => (intro w' hSw; go_simp; try rfl)
          try simp only [Act.put, List.setIfInBounds_toArray, List.set_cons_zero, List.set_cons_succ]
          refine' wpAnyH_take (i := 34) (oi := ⟨some 108, _, _, _, _, _⟩) (v := _) rfl (by kernel_rfl) (by kernel_rfl) (by kernel_rfl) (fun _ _ _ h => h) (Or.inl ⟨by rfl, ?y34d⟩) hS6 ?r34d
          case y34d => (intro w' hSw; go_simp; try rfl)
          try simp only [Act.put, List.setIfInBounds_toArray, List.set_cons_zero, List.set_cons_succ]
          refine held_one (i := 35) (by kernel_rfl) rfl (fun Kd hK => ?_)
          go_simp
          refine (cknown_any Z6 K6.gg).mono ?_
          rintro e Z7 ⟨rfl, hq7⟩
          have hS7 := hS6.trans (hq7.mono hS6.size)
          have K7 := K6.below hq7
          refine hK.out _ _ hS7 (fun _ => ?_)
          clear hK Kd
          try simp only [Act.put, List.setIfInBounds_toArray, List.set_cons_zero, List.set_cons_succ]
          refine' wpAnyH_take (i := 36) (oi := ⟨some 110, _, _, _, _, _⟩) (v := _) rfl (by kernel_rfl) (by kernel_rfl) (by kernel_rfl) (fun _ _ _ h => h) (Or.inl ⟨by rfl, ?y36d⟩) hS7 ?r36d
          case y36d => (intro w' hSw; go_simp; try rfl)
          try simp only [Act.put, List.setIfInBounds_toArray, List.set_cons_zero, List.set_cons_succ]
          refine' wpAnyH_take (i := 37) (oi := ⟨some 10, _, _, _, _, _⟩) (v := _) rfl (by kernel_rfl) (by kernel_rfl) (by kernel_rfl) (fun _ _ _ h => h) (Or.inl ⟨by rfl, ?y37d⟩) hS7 ?r37d
          case y37d => (intro w' hSw; go_simp; try rfl)
          try simp only [Act.put, List.setIfInBounds_toArray, List.set_cons_zero, List.set_cons_succ]
          refine wpAnyH_done (by kernel_rfl) ?_ _
          go_wp2_with fail
          go_ret
          exact ⟨rfl, K7.bb⟩
    · have hle : decide ((9000 : Int) < (l.length : Int)) = true := decide_eq_true (by omega)
      go_wp2_with (first | (go_at_call 6; refine (cknown_any _ L1.gg).mono ?_; rintro e wk ⟨rfl, hbk⟩))
      go_ret
      exact ⟨rfl, L1.bb.trans (hbk.mono L1.bb.size)⟩
  · have hld : decide ((300 : Int) < (s.length : Int)) = true := decide_eq_true (by omega)
    go_wp2_with (first | (go_at_call 6; refine (cknown_any _ L1.gg).mono ?_; rintro e wk ⟨rfl, hbk⟩))
    go_ret
    exact ⟨rfl, L1.bb.trans (hbk.mono L1.bb.size)⟩
end Go.Proofs.YthlopecllhdmhaaDoor

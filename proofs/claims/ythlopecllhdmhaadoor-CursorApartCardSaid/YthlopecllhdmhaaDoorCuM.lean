/-
  CursorApart's law.
-/
import Derived.Test.YthlopecllhdmhaaDoorCuL
namespace Go.Proofs.YthlopecllhdmhaaDoor
open Go.RowKit
open CtxM
set_option linter.unusedVariables false
set_option linter.unusedSimpArgs false
set_option maxRecDepth 20000

theorem vecB_inj {A B : List Nat} (hA : A.length = 16) (hB : B.length = 16) (la : ∀ n ∈ A, n < 18446744073709551616) (lb : ∀ n ∈ B, n < 18446744073709551616) (h : vecB A = vecB B) : A = B := by
  have h1 := vecN_vecB _ A (vec_of A hA la)
  have h2 := vecN_vecB _ B (vec_of B hB lb)
  rw [← h1, ← h2, h]
theorem curB_inj (s : List UInt8) (d : ByteArray) {A B : List Nat} (hA : A.length = 16) (hB : B.length = 16) (la : ∀ n ∈ A, n < 18446744073709551616) (lb : ∀ n ∈ B, n < 18446744073709551616) : curB s d A = curB s d B ↔ A = B := by
  constructor
  · intro h
    have h1 := (vecN_curB s d hA la).2.2
    have h2 := (vecN_curB s d hB lb).2.2
    rw [← h1, ← h2, h]
  · rintro rfl; rfl
/-- What Bytes answers. -/
def BytesE (s : List UInt8) (d : ByteArray) (V : List Nat) (w : World) (e : Ending) (w' : World) : Prop :=
  ∃ v n, e = .returned (.tuple #[v, .int .i64 n]) ∧ Below w.heap.size w w' ∧ ((n = 0 ∧ nameB d = true ∧ decide (∀ n ∈ V, n ≤ top) = true ∧ Sl w' v (curB s d V)) ∨ (n = 2 ∧ v = .slice none 0 0 ∧ (nameB d = false ∨ decide (∀ n ∈ V, n ≤ top) = false)))
theorem cbytes_any (sv : Value) (s : List UInt8) (d : ByteArray) (V : List Nat) (w : World) (hs : Sl w sv s) (hl : s.length ≤ 1000000) (hV : V.length = 16) (hg : Gl w) :
    Calls Tryd.prog 7 #[sv, .string d, .agg (uqs V)] w (BytesE s d V w) := by
  cases hN : nameB d
  · refine (cbytes_no sv d V w hV (.inl hN)).mono ?_
    rintro e w' ⟨rfl, hb⟩
    exact ⟨_, _, rfl, hb, .inr ⟨rfl, rfl, .inl hN⟩⟩
  · cases hM : decide (∀ n ∈ V, n ≤ top)
    · refine (cbytes_no sv d V w hV (.inr hM)).mono ?_
      rintro e w' ⟨rfl, hb⟩
      exact ⟨_, _, rfl, hb, .inr ⟨rfl, rfl, .inr hM⟩⟩
    · refine (cbytes_yes sv s d V w hs hl hV hN hM hg).mono ?_
      rintro e w' ⟨v', rfl, ho, hb⟩
      exact ⟨_, _, rfl, hb, .inl ⟨rfl, hN, hM, ho.sl⟩⟩
/-- Where the law stands. -/
structure Lp (w W : World) (sv : Value) (s : List UInt8) (A B : List Nat) : Prop where
  ss : Sl W sv s
  va : Blk W w.heap.size 25 (uqs A)
  vb : Blk W (w.heap.size + 1) 25 (uqs B)
  gg : Gl W
  bb : Below w.heap.size w W
theorem Lp.below {w W W' : World} {sv : Value} {s : List UInt8} {A B : List Nat} (h : Lp w W sv s A B) (hb : Below W.heap.size W W') : Lp w W' sv s A B :=
  ⟨h.ss.below hb, h.va.below hb h.va.lt, h.vb.below hb h.vb.lt, h.gg.below hb, h.bb.trans (hb.mono h.bb.size)⟩

set_option maxHeartbeats 8000000 in
theorem capart_any (sv : Value) (s : List UInt8) (d : ByteArray) (A B : List Nat) (w : World) (hs : Sl w sv s) (hA : A.length = 16) (hB : B.length = 16) (hg : Gl w) :
    Calls Tryd.prog 5 #[sv, .string d, .agg (uqs A), .agg (uqs B)] w fun e w' => e = .returned (.bool true) ∧ Below w.heap.size w w' := by
  have hfo : Tryd.prog.follows .mixedOrders = true := by kernel_rfl
  obtain ⟨b0, b1, hgr⟩ := two_boxes w 25 25 (uqs A) (uqs B)
  have L1 : Lp w ((w.alloc (.cells (uqs A) 25)).alloc (.cells (uqs B) 25)) sv s A B := ⟨hs.below hgr.below, b0, b1, hg.below hgr.below, hgr.below⟩
  obtain ⟨A0, n0, c0, rfl⟩ := hs.shape
  obtain rfl := hs.len
  clear b0 b1 hgr hs hg
  go_enter Tryd.func5, Tryd.ntmps5
  go_upto_region 1 with fail
  change Code.wp _ _ _ _ ((w.alloc (.cells (uqs A) 25)).alloc (.cells (uqs B) 25))
  generalize (w.alloc (.cells (uqs A) 25)).alloc (.cells (uqs B) 25) = w1 at L1 ⊢
  by_cases hl : s.length ≤ 300
  · have hli : ¬ (300 : Int) < (s.length : Int) := by omega
    have hld : decide ((300 : Int) < (s.length : Int)) = false := decide_eq_false hli
    go_upto_region 3 with fail
    clear hli hld
    go_upto_region 4 with (first | (refine wpList_load_mid_g (by rfl) 25 _ rfl (w.heap.size) 0 rfl (uqs A) _ (uqs_range L1.va) Tryd.underlying25 rfl (uqs_info hA) ?_; try simp only [Act.put, List.setIfInBounds_toArray, List.set_cons_zero, List.set_cons_succ]) | (go_at_call 7; refine (cbytes_any _ s d A _ L1.ss (by omega) hA L1.gg).mono ?_; rintro e w2 ⟨vx, nx, rfl, hb2, hx2⟩))
    have L2 := L1.below hb2
    clear L1 hb2
    go_upto_region 5 with (first | (refine wpList_load_mid_g (by rfl) 25 _ rfl (w.heap.size + 1) 0 rfl (uqs B) _ (uqs_range L2.vb) Tryd.underlying25 rfl (uqs_info hB) ?_; try simp only [Act.put, List.setIfInBounds_toArray, List.set_cons_zero, List.set_cons_succ]) | (go_at_call 7; refine (cbytes_any _ s d B _ L2.ss (by omega) hB L2.gg).mono ?_; rintro e w3 ⟨vy, ny, rfl, hb3, hy3⟩))
    have L3 := L2.below hb3
    have hx3 := hx2
    rcases hx3 with ⟨rfl, hN, hMA, hsx⟩ | ⟨rfl, rfl, _⟩
    · rcases hy3 with ⟨rfl, _, hMB, hsy⟩ | ⟨rfl, rfl, _⟩
      · clear hx2
        have hsx3 := hsx.below hb3
        clear hsx hb3 L2
        obtain ⟨ax, nx, cx, rfl⟩ := hsx3.shape
        obtain ⟨ay, ny, cy, rfl⟩ := hsy.shape
        have ta := of_decide_eq_true hMA
        have tb := of_decide_eq_true hMB
        have oa := curOf_curB s d hA hN ta
        have ob := curOf_curB s d hB hN tb
        have hci := curB_inj s d hA hB (top_lt ta) (top_lt tb)
        obtain ⟨XA, hXA⟩ : ∃ X, X = curB s d A := ⟨_, rfl⟩
        obtain ⟨XB, hXB⟩ : ∃ X, X = curB s d B := ⟨_, rfl⟩
        rw [← hXA] at oa hci hsx3
        rw [← hXB] at ob hci hsy
        clear hXA hXB ta tb hMA hMB
        go_upto_region 7 with (first | (go_at_call 11; refine (cnum_any _ _).mono ?_; rintro e wn ⟨rfl, hwn⟩; obtain rfl := hwn.symm))
        clear hwn
        go_wp2_with fail
        refine (cof_any _ s d _ XA _ L3.ss (hsx3) (by omega) L3.gg).mono ?_
        rintro e x7 ⟨rfl, hx⟩
        rw [oa]
        go_upto_region 8 with (refine wpList_store_mid rfl 25 _ _ rfl x7.heap.size 0 (uqs A) rfl rfl (boxThere _ _ hA) (uqs_info hA) (uqs_one _) ?_; try simp only [Act.put, List.setIfInBounds_toArray, List.set_cons_zero, List.set_cons_succ])
        change Code.wp _ _ _ _ ((x7.alloc (.cells (uqs (z16 0 0)) 25)).setCells x7.heap.size 0 (uqs A).toList)
        obtain ⟨p7, bq⟩ := boxNew x7 (V := A) hA
        have hz := hx.trans (bq.mono hx.size)
        have L7 := L3.below hz
        have hsx7 := hsx3.below hz
        have hsy7 := hsy.below hz
        generalize (x7.alloc (.cells (uqs (z16 0 0)) 25)).setCells x7.heap.size 0 (uqs A).toList = W7 at p7 L7 hsx7 hsy7 ⊢
        clear hz bq hx L3 hsx3 hsy
        generalize x7.heap.size = g7 at p7 ⊢
        go_wp2_with fail
        refine (cof_any _ s d _ XB _ L7.ss (hsy7) (by omega) L7.gg).mono ?_
        rintro e x8 ⟨rfl, hx⟩
        rw [ob]
        go_upto_region 9 with (refine wpList_store_mid rfl 25 _ _ rfl x8.heap.size 0 (uqs B) rfl rfl (boxThere _ _ hB) (uqs_info hB) (uqs_one _) ?_; try simp only [Act.put, List.setIfInBounds_toArray, List.set_cons_zero, List.set_cons_succ])
        change Code.wp _ _ _ _ ((x8.alloc (.cells (uqs (z16 0 0)) 25)).setCells x8.heap.size 0 (uqs B).toList)
        obtain ⟨p8, bq⟩ := boxNew x8 (V := B) hB
        have hz := hx.trans (bq.mono hx.size)
        have L9 := L7.below hz
        have hsx9 := hsx7.below hz
        have hsy9 := hsy7.below hz
        replace p7 := p7.below hz p7.lt
        generalize (x8.alloc (.cells (uqs (z16 0 0)) 25)).setCells x8.heap.size 0 (uqs B).toList = W9 at p8 p7 L9 hsx9 hsy9 ⊢
        clear hz bq hx L7 hsx7 hsy7
        generalize x8.heap.size = g8 at p8 ⊢
        obtain ⟨tx, htx⟩ : ∃ t : ByteArray, (⟨XA.toArray⟩ : ByteArray) = t := ⟨_, rfl⟩
        obtain ⟨ty, hty⟩ : ∃ t : ByteArray, (⟨XB.toArray⟩ : ByteArray) = t := ⟨_, rfl⟩
        have hcmp := str_ne htx hty
        have hcx : ∀ X, Below W9.heap.size W9 X → (convert 22 9 (.slice ax nx cx)).run Tryd.prog X = .ok (.string tx) X := fun X hX => conv_w (hsx9.below hX) htx
        have hcy : ∀ X, Below W9.heap.size W9 X → (convert 22 9 (.slice ay ny cy)).run Tryd.prog X = .ok (.string ty) X := fun X hX => conv_w (hsy9.below hX) hty
        have eA := fun W => vec_eq A A hA hA W
        have eB := fun W => vec_eq B B hB hB W
        have eAB := fun W => vec_eq A B hA hB W
        rw [decide_eq_true rfl] at eA eB
        rw [show decide (XA = XB) = decide (A = B) by rw [Bool.eq_iff_iff, decide_eq_true_iff, decide_eq_true_iff]; exact hci] at hcmp
        generalize decide (A = B) = q at hcmp eAB
        clear hci oa ob htx hty
        cases q
        · refine wp_region_held_drew (S := fun X => Below W9.heap.size W9 X) hfo (Below.refl _ _).drew (fun hS0 => ?_)
          have K9 := L9.below (show Below W9.heap.size W9 W9.drew from (Below.refl _ _).drew)
          generalize W9.drew = Z0 at hS0 K9 ⊢
          refine' wpAnyH_take (i := 0) (oi := ⟨some 56, _, _, _, _, _⟩) (v := _) rfl (by kernel_rfl) (by kernel_rfl) (by kernel_rfl) (fun _ _ _ h => h) (Or.inl ⟨by rfl, ?y0z⟩) hS0 ?r0z
          case y0z => (intro w' hSw; go_simp; try rfl)
          try simp only [Act.put, List.setIfInBounds_toArray, List.set_cons_zero, List.set_cons_succ]
          refine' wpAnyH_take (i := 1) (oi := ⟨some 57, _, _, _, _, _⟩) (v := (.string tx)) rfl (by kernel_rfl) (by kernel_rfl) (by kernel_rfl) (fun _ _ _ h => h) (Or.inl ⟨by rfl, ?y1z⟩) hS0 ?r1z
          case y1z =>
            intro w' hSw
            have hk := hcx w' hSw
            go_simp
            try rfl
          try simp only [Act.put, List.setIfInBounds_toArray, List.set_cons_zero, List.set_cons_succ]
          refine' wpAnyH_take (i := 2) (oi := ⟨some 58, _, _, _, _, _⟩) (v := _) rfl (by kernel_rfl) (by kernel_rfl) (by kernel_rfl) (fun _ _ _ h => h) (Or.inl ⟨by rfl, ?y2z⟩) hS0 ?r2z
          case y2z => (intro w' hSw; go_simp; try rfl)
          try simp only [Act.put, List.setIfInBounds_toArray, List.set_cons_zero, List.set_cons_succ]
          refine' wpAnyH_take (i := 3) (oi := ⟨some 59, _, _, _, _, _⟩) (v := (.string ty)) rfl (by kernel_rfl) (by kernel_rfl) (by kernel_rfl) (fun _ _ _ h => h) (Or.inl ⟨by rfl, ?y3z⟩) hS0 ?r3z
          case y3z =>
            intro w' hSw
            have hk := hcy w' hSw
            go_simp
            try rfl
          try simp only [Act.put, List.setIfInBounds_toArray, List.set_cons_zero, List.set_cons_succ]
          refine' wpAnyH_take (i := 4) (oi := ⟨some 60, _, _, _, _, _⟩) (v := _) rfl (by kernel_rfl) (by kernel_rfl) (by kernel_rfl) (fun _ _ _ h => h) (Or.inl ⟨by rfl, ?y4z⟩) hS0 ?r4z
          case y4z => (intro w' hSw; go_simp; try rfl)
          try simp only [Act.put, List.setIfInBounds_toArray, List.set_cons_zero, List.set_cons_succ]
          refine' wpAnyH_take (i := 5) (oi := ⟨some 61, _, _, _, _, _⟩) (v := (.agg (uqs A))) rfl (by kernel_rfl) (by kernel_rfl) (by kernel_rfl) (fun _ _ _ h => h) (Or.inl ⟨by rfl, ?y5z⟩) hS0 ?r5z
          case y5z =>
            intro w' hSw
            have hld := run_loadAt_mid (P := Tryd.prog) w' (w.heap.size) 0 25 (uqs A).toList _ (uqs_range ((L9.va).below hSw (L9.va).lt)) Tryd.underlying25 rfl (by rw [Array.length_toList]; exact uqs_info hA)
            rw [Array.toArray_toList] at hld
            exact run_exec_load _ _ _ _ rfl _ _ rfl _ hld
          try simp only [Act.put, List.setIfInBounds_toArray, List.set_cons_zero, List.set_cons_succ]
          refine' wpAnyH_take (i := 6) (oi := ⟨some 62, _, _, _, _, _⟩) (v := (.agg (uqs B))) rfl (by kernel_rfl) (by kernel_rfl) (by kernel_rfl) (fun _ _ _ h => h) (Or.inl ⟨by rfl, ?y6z⟩) hS0 ?r6z
          case y6z =>
            intro w' hSw
            have hld := run_loadAt_mid (P := Tryd.prog) w' (w.heap.size + 1) 0 25 (uqs B).toList _ (uqs_range ((L9.vb).below hSw (L9.vb).lt)) Tryd.underlying25 rfl (by rw [Array.length_toList]; exact uqs_info hB)
            rw [Array.toArray_toList] at hld
            exact run_exec_load _ _ _ _ rfl _ _ rfl _ hld
          try simp only [Act.put, List.setIfInBounds_toArray, List.set_cons_zero, List.set_cons_succ]
          refine' wpAnyH_take (i := 7) (oi := ⟨some 63, _, _, _, _, _⟩) (v := _) rfl (by kernel_rfl) (by kernel_rfl) (by kernel_rfl) (fun _ _ _ h => h) (Or.inl ⟨by rfl, ?y7z⟩) hS0 ?r7z
          case y7z => (intro w' hSw; go_simp; try rfl)
          try simp only [Act.put, List.setIfInBounds_toArray, List.set_cons_zero, List.set_cons_succ]
          refine' wpAnyH_take (i := 8) (oi := ⟨some 64, _, _, _, _, _⟩) (v := _) rfl (by kernel_rfl) (by kernel_rfl) (by kernel_rfl) (fun _ _ _ h => h) (Or.inl ⟨by rfl, ?y8z⟩) hS0 ?r8z
          case y8z => (intro w' hSw; go_simp; try rfl)
          try simp only [Act.put, List.setIfInBounds_toArray, List.set_cons_zero, List.set_cons_succ]
          refine' wpAnyH_take (i := 9) (oi := ⟨some 65, _, _, _, _, _⟩) (v := _) rfl (by kernel_rfl) (by kernel_rfl) (by kernel_rfl) (fun _ _ _ h => h) (Or.inl ⟨by rfl, ?y9z⟩) hS0 ?r9z
          case y9z => (intro w' hSw; go_simp; try rfl)
          try simp only [Act.put, List.setIfInBounds_toArray, List.set_cons_zero, List.set_cons_succ]
          refine' wpAnyH_take (i := 10) (oi := ⟨some 66, _, _, _, _, _⟩) (v := (.agg (uqs A))) rfl (by kernel_rfl) (by kernel_rfl) (by kernel_rfl) (fun _ _ _ h => h) (Or.inl ⟨by rfl, ?y10z⟩) hS0 ?r10z
          case y10z =>
            intro w' hSw
            have hld := run_loadAt_mid (P := Tryd.prog) w' (g7) 0 25 (uqs A).toList _ (uqs_range ((p7).below hSw (p7).lt)) Tryd.underlying25 rfl (by rw [Array.length_toList]; exact uqs_info hA)
            rw [Array.toArray_toList] at hld
            exact run_exec_load _ _ _ _ rfl _ _ rfl _ hld
          try simp only [Act.put, List.setIfInBounds_toArray, List.set_cons_zero, List.set_cons_succ]
          refine' wpAnyH_take (i := 11) (oi := ⟨some 67, _, _, _, _, _⟩) (v := (.agg (uqs A))) rfl (by kernel_rfl) (by kernel_rfl) (by kernel_rfl) (fun _ _ _ h => h) (Or.inl ⟨by rfl, ?y11z⟩) hS0 ?r11z
          case y11z =>
            intro w' hSw
            have hld := run_loadAt_mid (P := Tryd.prog) w' (w.heap.size) 0 25 (uqs A).toList _ (uqs_range ((L9.va).below hSw (L9.va).lt)) Tryd.underlying25 rfl (by rw [Array.length_toList]; exact uqs_info hA)
            rw [Array.toArray_toList] at hld
            exact run_exec_load _ _ _ _ rfl _ _ rfl _ hld
          try simp only [Act.put, List.setIfInBounds_toArray, List.set_cons_zero, List.set_cons_succ]
          refine' wpAnyH_take (i := 12) (oi := ⟨some 68, _, _, _, _, _⟩) (v := _) rfl (by kernel_rfl) (by kernel_rfl) (by kernel_rfl) (fun _ _ _ h => h) (Or.inl ⟨by rfl, ?y12z⟩) hS0 ?r12z
          case y12z => (intro w' hSw; go_simp; try rfl)
          try simp only [Act.put, List.setIfInBounds_toArray, List.set_cons_zero, List.set_cons_succ]
          refine' wpAnyH_take (i := 13) (oi := ⟨some 69, _, _, _, _, _⟩) (v := _) rfl (by kernel_rfl) (by kernel_rfl) (by kernel_rfl) (fun _ _ _ h => h) (Or.inl ⟨by rfl, ?y13z⟩) hS0 ?r13z
          case y13z => (intro w' hSw; go_simp; try rfl)
          try simp only [Act.put, List.setIfInBounds_toArray, List.set_cons_zero, List.set_cons_succ]
          refine' wpAnyH_take (i := 14) (oi := ⟨some 70, _, _, _, _, _⟩) (v := _) rfl (by kernel_rfl) (by kernel_rfl) (by kernel_rfl) (fun _ _ _ h => h) (Or.inl ⟨by rfl, ?y14z⟩) hS0 ?r14z
          case y14z => (intro w' hSw; go_simp; try rfl)
          try simp only [Act.put, List.setIfInBounds_toArray, List.set_cons_zero, List.set_cons_succ]
          refine' wpAnyH_take (i := 15) (oi := ⟨some 71, _, _, _, _, _⟩) (v := (.agg (uqs B))) rfl (by kernel_rfl) (by kernel_rfl) (by kernel_rfl) (fun _ _ _ h => h) (Or.inl ⟨by rfl, ?y15z⟩) hS0 ?r15z
          case y15z =>
            intro w' hSw
            have hld := run_loadAt_mid (P := Tryd.prog) w' (g8) 0 25 (uqs B).toList _ (uqs_range ((p8).below hSw (p8).lt)) Tryd.underlying25 rfl (by rw [Array.length_toList]; exact uqs_info hB)
            rw [Array.toArray_toList] at hld
            exact run_exec_load _ _ _ _ rfl _ _ rfl _ hld
          try simp only [Act.put, List.setIfInBounds_toArray, List.set_cons_zero, List.set_cons_succ]
          refine' wpAnyH_take (i := 16) (oi := ⟨some 72, _, _, _, _, _⟩) (v := (.agg (uqs B))) rfl (by kernel_rfl) (by kernel_rfl) (by kernel_rfl) (fun _ _ _ h => h) (Or.inl ⟨by rfl, ?y16z⟩) hS0 ?r16z
          case y16z =>
            intro w' hSw
            have hld := run_loadAt_mid (P := Tryd.prog) w' (w.heap.size + 1) 0 25 (uqs B).toList _ (uqs_range ((L9.vb).below hSw (L9.vb).lt)) Tryd.underlying25 rfl (by rw [Array.length_toList]; exact uqs_info hB)
            rw [Array.toArray_toList] at hld
            exact run_exec_load _ _ _ _ rfl _ _ rfl _ hld
          try simp only [Act.put, List.setIfInBounds_toArray, List.set_cons_zero, List.set_cons_succ]
          refine' wpAnyH_take (i := 17) (oi := ⟨some 73, _, _, _, _, _⟩) (v := _) rfl (by kernel_rfl) (by kernel_rfl) (by kernel_rfl) (fun _ _ _ h => h) (Or.inl ⟨by rfl, ?y17z⟩) hS0 ?r17z
          case y17z => (intro w' hSw; go_simp; try rfl)
          try simp only [Act.put, List.setIfInBounds_toArray, List.set_cons_zero, List.set_cons_succ]
          refine' wpAnyH_take (i := 18) (oi := ⟨some 74, _, _, _, _, _⟩) (v := _) rfl (by kernel_rfl) (by kernel_rfl) (by kernel_rfl) (fun _ _ _ h => h) (Or.inl ⟨by rfl, ?y18z⟩) hS0 ?r18z
          case y18z => (intro w' hSw; go_simp; try rfl)
          try simp only [Act.put, List.setIfInBounds_toArray, List.set_cons_zero, List.set_cons_succ]
          refine' wpAnyH_take (i := 19) (oi := ⟨some 75, _, _, _, _, _⟩) (v := _) rfl (by kernel_rfl) (by kernel_rfl) (by kernel_rfl) (fun _ _ _ h => h) (Or.inl ⟨by rfl, ?y19z⟩) hS0 ?r19z
          case y19z => (intro w' hSw; go_simp; try rfl)
          try simp only [Act.put, List.setIfInBounds_toArray, List.set_cons_zero, List.set_cons_succ]
          refine' wpAnyH_take (i := 20) (oi := ⟨some 76, _, _, _, _, _⟩) (v := _) rfl (by kernel_rfl) (by kernel_rfl) (by kernel_rfl) (fun _ _ _ h => h) (Or.inl ⟨by rfl, ?y20z⟩) hS0 ?r20z
          case y20z => (intro w' hSw; go_simp; try rfl)
          try simp only [Act.put, List.setIfInBounds_toArray, List.set_cons_zero, List.set_cons_succ]
          refine' wpAnyH_take (i := 22) (oi := ⟨some 78, _, _, _, _, _⟩) (v := _) rfl (by kernel_rfl) (by kernel_rfl) (by kernel_rfl) (fun _ _ _ h => h) (Or.inl ⟨by rfl, ?y22z⟩) hS0 ?r22z
          case y22z => (intro w' hSw; go_simp; try rfl)
          try simp only [Act.put, List.setIfInBounds_toArray, List.set_cons_zero, List.set_cons_succ]
          refine held_one (i := 21) (by kernel_rfl) rfl (fun Kz hK => ?_)
          go_simp
          refine (cnum_any _ _).mono ?_
          rintro e zN ⟨rfl, hzN⟩
          obtain rfl := hzN.symm
          refine hK.out _ _ hS0 (fun _ => ?_)
          clear hK Kz
          try simp only [Act.put, List.setIfInBounds_toArray, List.set_cons_zero, List.set_cons_succ]
          refine held_one (i := 23) (by kernel_rfl) rfl (fun Kz hK => ?_)
          go_simp
          refine (cnum_any _ _).mono ?_
          rintro e zN ⟨rfl, hzN⟩
          obtain rfl := hzN.symm
          refine hK.out _ _ hS0 (fun _ => ?_)
          clear hK Kz
          try simp only [Act.put, List.setIfInBounds_toArray, List.set_cons_zero, List.set_cons_succ]
          refine' wpAnyH_take (i := 24) (oi := ⟨some 80, _, _, _, _, _⟩) (v := _) rfl (by kernel_rfl) (by kernel_rfl) (by kernel_rfl) (fun _ _ _ h => h) (Or.inl ⟨by rfl, ?y24z⟩) hS0 ?r24z
          case y24z => (intro w' hSw; go_simp; try rfl)
          try simp only [Act.put, List.setIfInBounds_toArray, List.set_cons_zero, List.set_cons_succ]
          refine' wpAnyH_take (i := 25) (oi := ⟨some 81, _, _, _, _, _⟩) (v := _) rfl (by kernel_rfl) (by kernel_rfl) (by kernel_rfl) (fun _ _ _ h => h) (Or.inl ⟨by rfl, ?y25z⟩) hS0 ?r25z
          case y25z => (intro w' hSw; go_simp; try rfl)
          try simp only [Act.put, List.setIfInBounds_toArray, List.set_cons_zero, List.set_cons_succ]
          refine' wpAnyH_take (i := 26) (oi := ⟨some 82, _, _, _, _, _⟩) (v := _) rfl (by kernel_rfl) (by kernel_rfl) (by kernel_rfl) (fun _ _ _ h => h) (Or.inl ⟨by rfl, ?y26z⟩) hS0 ?r26z
          case y26z => (intro w' hSw; go_simp; try rfl)
          try simp only [Act.put, List.setIfInBounds_toArray, List.set_cons_zero, List.set_cons_succ]
          refine' wpAnyH_take (i := 27) (oi := ⟨some 83, _, _, _, _, _⟩) (v := _) rfl (by kernel_rfl) (by kernel_rfl) (by kernel_rfl) (fun _ _ _ h => h) (Or.inl ⟨by rfl, ?y27z⟩) hS0 ?r27z
          case y27z => (intro w' hSw; go_simp; try rfl)
          try simp only [Act.put, List.setIfInBounds_toArray, List.set_cons_zero, List.set_cons_succ]
          refine held_one (i := 28) (by kernel_rfl) rfl (fun Kz hK => ?_)
          go_simp
          refine (cknown_any _ K9.gg).mono ?_
          rintro e Z1 ⟨rfl, hbk⟩
          have hS1 := hS0.trans (hbk.mono hS0.size)
          refine hK.out _ _ hS1 (fun _ => ?_)
          clear hK Kz
          try simp only [Act.put, List.setIfInBounds_toArray, List.set_cons_zero, List.set_cons_succ]
          refine' wpAnyH_take (i := 29) (oi := ⟨some 85, _, _, _, _, _⟩) (v := _) rfl (by kernel_rfl) (by kernel_rfl) (by kernel_rfl) (fun _ _ _ h => h) (Or.inl ⟨by rfl, ?y29z⟩) hS1 ?r29z
          case y29z => (intro w' hSw; go_simp; try rfl)
          try simp only [Act.put, List.setIfInBounds_toArray, List.set_cons_zero, List.set_cons_succ]
          refine' wpAnyH_take (i := 30) (oi := ⟨some 8, _, _, _, _, _⟩) (v := _) rfl (by kernel_rfl) (by kernel_rfl) (by kernel_rfl) (fun _ _ _ h => h) (Or.inl ⟨by rfl, ?y30z⟩) hS1 ?r30z
          case y30z => (intro w' hSw; go_simp; try rfl)
          try simp only [Act.put, List.setIfInBounds_toArray, List.set_cons_zero, List.set_cons_succ]
          refine wpAnyH_done (by kernel_rfl) ?_ _
          go_wp2_with fail
          go_ret
          exact ⟨rfl, K9.bb.trans (hbk.mono K9.bb.size)⟩
        · refine wp_region_held_drew (S := fun X => Below W9.heap.size W9 X) hfo (Below.refl _ _).drew (fun hS0 => ?_)
          have K9 := L9.below (show Below W9.heap.size W9 W9.drew from (Below.refl _ _).drew)
          generalize W9.drew = Z0 at hS0 K9 ⊢
          refine' wpAnyH_take (i := 0) (oi := ⟨some 56, _, _, _, _, _⟩) (v := _) rfl (by kernel_rfl) (by kernel_rfl) (by kernel_rfl) (fun _ _ _ h => h) (Or.inl ⟨by rfl, ?y0v⟩) hS0 ?r0v
          case y0v => (intro w' hSw; go_simp; try rfl)
          try simp only [Act.put, List.setIfInBounds_toArray, List.set_cons_zero, List.set_cons_succ]
          refine' wpAnyH_take (i := 1) (oi := ⟨some 57, _, _, _, _, _⟩) (v := (.string tx)) rfl (by kernel_rfl) (by kernel_rfl) (by kernel_rfl) (fun _ _ _ h => h) (Or.inl ⟨by rfl, ?y1v⟩) hS0 ?r1v
          case y1v =>
            intro w' hSw
            have hk := hcx w' hSw
            go_simp
            try rfl
          try simp only [Act.put, List.setIfInBounds_toArray, List.set_cons_zero, List.set_cons_succ]
          refine' wpAnyH_take (i := 2) (oi := ⟨some 58, _, _, _, _, _⟩) (v := _) rfl (by kernel_rfl) (by kernel_rfl) (by kernel_rfl) (fun _ _ _ h => h) (Or.inl ⟨by rfl, ?y2v⟩) hS0 ?r2v
          case y2v => (intro w' hSw; go_simp; try rfl)
          try simp only [Act.put, List.setIfInBounds_toArray, List.set_cons_zero, List.set_cons_succ]
          refine' wpAnyH_take (i := 3) (oi := ⟨some 59, _, _, _, _, _⟩) (v := (.string ty)) rfl (by kernel_rfl) (by kernel_rfl) (by kernel_rfl) (fun _ _ _ h => h) (Or.inl ⟨by rfl, ?y3v⟩) hS0 ?r3v
          case y3v =>
            intro w' hSw
            have hk := hcy w' hSw
            go_simp
            try rfl
          try simp only [Act.put, List.setIfInBounds_toArray, List.set_cons_zero, List.set_cons_succ]
          refine' wpAnyH_take (i := 4) (oi := ⟨some 60, _, _, _, _, _⟩) (v := _) rfl (by kernel_rfl) (by kernel_rfl) (by kernel_rfl) (fun _ _ _ h => h) (Or.inl ⟨by rfl, ?y4v⟩) hS0 ?r4v
          case y4v => (intro w' hSw; go_simp; try rfl)
          try simp only [Act.put, List.setIfInBounds_toArray, List.set_cons_zero, List.set_cons_succ]
          refine' wpAnyH_take (i := 5) (oi := ⟨some 61, _, _, _, _, _⟩) (v := (.agg (uqs A))) rfl (by kernel_rfl) (by kernel_rfl) (by kernel_rfl) (fun _ _ _ h => h) (Or.inl ⟨by rfl, ?y5v⟩) hS0 ?r5v
          case y5v =>
            intro w' hSw
            have hld := run_loadAt_mid (P := Tryd.prog) w' (w.heap.size) 0 25 (uqs A).toList _ (uqs_range ((L9.va).below hSw (L9.va).lt)) Tryd.underlying25 rfl (by rw [Array.length_toList]; exact uqs_info hA)
            rw [Array.toArray_toList] at hld
            exact run_exec_load _ _ _ _ rfl _ _ rfl _ hld
          try simp only [Act.put, List.setIfInBounds_toArray, List.set_cons_zero, List.set_cons_succ]
          refine' wpAnyH_take (i := 6) (oi := ⟨some 62, _, _, _, _, _⟩) (v := (.agg (uqs B))) rfl (by kernel_rfl) (by kernel_rfl) (by kernel_rfl) (fun _ _ _ h => h) (Or.inl ⟨by rfl, ?y6v⟩) hS0 ?r6v
          case y6v =>
            intro w' hSw
            have hld := run_loadAt_mid (P := Tryd.prog) w' (w.heap.size + 1) 0 25 (uqs B).toList _ (uqs_range ((L9.vb).below hSw (L9.vb).lt)) Tryd.underlying25 rfl (by rw [Array.length_toList]; exact uqs_info hB)
            rw [Array.toArray_toList] at hld
            exact run_exec_load _ _ _ _ rfl _ _ rfl _ hld
          try simp only [Act.put, List.setIfInBounds_toArray, List.set_cons_zero, List.set_cons_succ]
          refine' wpAnyH_take (i := 7) (oi := ⟨some 63, _, _, _, _, _⟩) (v := _) rfl (by kernel_rfl) (by kernel_rfl) (by kernel_rfl) (fun _ _ _ h => h) (Or.inl ⟨by rfl, ?y7v⟩) hS0 ?r7v
          case y7v => (intro w' hSw; go_simp; try rfl)
          try simp only [Act.put, List.setIfInBounds_toArray, List.set_cons_zero, List.set_cons_succ]
          refine' wpAnyH_take (i := 8) (oi := ⟨some 64, _, _, _, _, _⟩) (v := _) rfl (by kernel_rfl) (by kernel_rfl) (by kernel_rfl) (fun _ _ _ h => h) (Or.inl ⟨by rfl, ?y8v⟩) hS0 ?r8v
          case y8v => (intro w' hSw; go_simp; try rfl)
          try simp only [Act.put, List.setIfInBounds_toArray, List.set_cons_zero, List.set_cons_succ]
          refine' wpAnyH_take (i := 9) (oi := ⟨some 65, _, _, _, _, _⟩) (v := _) rfl (by kernel_rfl) (by kernel_rfl) (by kernel_rfl) (fun _ _ _ h => h) (Or.inl ⟨by rfl, ?y9v⟩) hS0 ?r9v
          case y9v => (intro w' hSw; go_simp; try rfl)
          try simp only [Act.put, List.setIfInBounds_toArray, List.set_cons_zero, List.set_cons_succ]
          refine' wpAnyH_take (i := 10) (oi := ⟨some 66, _, _, _, _, _⟩) (v := (.agg (uqs A))) rfl (by kernel_rfl) (by kernel_rfl) (by kernel_rfl) (fun _ _ _ h => h) (Or.inl ⟨by rfl, ?y10v⟩) hS0 ?r10v
          case y10v =>
            intro w' hSw
            have hld := run_loadAt_mid (P := Tryd.prog) w' (g7) 0 25 (uqs A).toList _ (uqs_range ((p7).below hSw (p7).lt)) Tryd.underlying25 rfl (by rw [Array.length_toList]; exact uqs_info hA)
            rw [Array.toArray_toList] at hld
            exact run_exec_load _ _ _ _ rfl _ _ rfl _ hld
          try simp only [Act.put, List.setIfInBounds_toArray, List.set_cons_zero, List.set_cons_succ]
          refine' wpAnyH_take (i := 11) (oi := ⟨some 67, _, _, _, _, _⟩) (v := (.agg (uqs A))) rfl (by kernel_rfl) (by kernel_rfl) (by kernel_rfl) (fun _ _ _ h => h) (Or.inl ⟨by rfl, ?y11v⟩) hS0 ?r11v
          case y11v =>
            intro w' hSw
            have hld := run_loadAt_mid (P := Tryd.prog) w' (w.heap.size) 0 25 (uqs A).toList _ (uqs_range ((L9.va).below hSw (L9.va).lt)) Tryd.underlying25 rfl (by rw [Array.length_toList]; exact uqs_info hA)
            rw [Array.toArray_toList] at hld
            exact run_exec_load _ _ _ _ rfl _ _ rfl _ hld
          try simp only [Act.put, List.setIfInBounds_toArray, List.set_cons_zero, List.set_cons_succ]
          refine' wpAnyH_take (i := 12) (oi := ⟨some 68, _, _, _, _, _⟩) (v := _) rfl (by kernel_rfl) (by kernel_rfl) (by kernel_rfl) (fun _ _ _ h => h) (Or.inl ⟨by rfl, ?y12v⟩) hS0 ?r12v
          case y12v => (intro w' hSw; go_simp; try rfl)
          try simp only [Act.put, List.setIfInBounds_toArray, List.set_cons_zero, List.set_cons_succ]
          refine' wpAnyH_take (i := 13) (oi := ⟨some 69, _, _, _, _, _⟩) (v := _) rfl (by kernel_rfl) (by kernel_rfl) (by kernel_rfl) (fun _ _ _ h => h) (Or.inl ⟨by rfl, ?y13v⟩) hS0 ?r13v
          case y13v => (intro w' hSw; go_simp; try rfl)
          try simp only [Act.put, List.setIfInBounds_toArray, List.set_cons_zero, List.set_cons_succ]
          refine' wpAnyH_take (i := 14) (oi := ⟨some 70, _, _, _, _, _⟩) (v := _) rfl (by kernel_rfl) (by kernel_rfl) (by kernel_rfl) (fun _ _ _ h => h) (Or.inl ⟨by rfl, ?y14v⟩) hS0 ?r14v
          case y14v => (intro w' hSw; go_simp; try rfl)
          try simp only [Act.put, List.setIfInBounds_toArray, List.set_cons_zero, List.set_cons_succ]
          refine' wpAnyH_take (i := 15) (oi := ⟨some 71, _, _, _, _, _⟩) (v := (.agg (uqs B))) rfl (by kernel_rfl) (by kernel_rfl) (by kernel_rfl) (fun _ _ _ h => h) (Or.inl ⟨by rfl, ?y15v⟩) hS0 ?r15v
          case y15v =>
            intro w' hSw
            have hld := run_loadAt_mid (P := Tryd.prog) w' (g8) 0 25 (uqs B).toList _ (uqs_range ((p8).below hSw (p8).lt)) Tryd.underlying25 rfl (by rw [Array.length_toList]; exact uqs_info hB)
            rw [Array.toArray_toList] at hld
            exact run_exec_load _ _ _ _ rfl _ _ rfl _ hld
          try simp only [Act.put, List.setIfInBounds_toArray, List.set_cons_zero, List.set_cons_succ]
          refine' wpAnyH_take (i := 16) (oi := ⟨some 72, _, _, _, _, _⟩) (v := (.agg (uqs B))) rfl (by kernel_rfl) (by kernel_rfl) (by kernel_rfl) (fun _ _ _ h => h) (Or.inl ⟨by rfl, ?y16v⟩) hS0 ?r16v
          case y16v =>
            intro w' hSw
            have hld := run_loadAt_mid (P := Tryd.prog) w' (w.heap.size + 1) 0 25 (uqs B).toList _ (uqs_range ((L9.vb).below hSw (L9.vb).lt)) Tryd.underlying25 rfl (by rw [Array.length_toList]; exact uqs_info hB)
            rw [Array.toArray_toList] at hld
            exact run_exec_load _ _ _ _ rfl _ _ rfl _ hld
          try simp only [Act.put, List.setIfInBounds_toArray, List.set_cons_zero, List.set_cons_succ]
          refine' wpAnyH_take (i := 17) (oi := ⟨some 73, _, _, _, _, _⟩) (v := _) rfl (by kernel_rfl) (by kernel_rfl) (by kernel_rfl) (fun _ _ _ h => h) (Or.inl ⟨by rfl, ?y17v⟩) hS0 ?r17v
          case y17v => (intro w' hSw; go_simp; try rfl)
          try simp only [Act.put, List.setIfInBounds_toArray, List.set_cons_zero, List.set_cons_succ]
          refine' wpAnyH_take (i := 18) (oi := ⟨some 74, _, _, _, _, _⟩) (v := _) rfl (by kernel_rfl) (by kernel_rfl) (by kernel_rfl) (fun _ _ _ h => h) (Or.inl ⟨by rfl, ?y18v⟩) hS0 ?r18v
          case y18v => (intro w' hSw; go_simp; try rfl)
          try simp only [Act.put, List.setIfInBounds_toArray, List.set_cons_zero, List.set_cons_succ]
          refine' wpAnyH_take (i := 19) (oi := ⟨some 75, _, _, _, _, _⟩) (v := _) rfl (by kernel_rfl) (by kernel_rfl) (by kernel_rfl) (fun _ _ _ h => h) (Or.inl ⟨by rfl, ?y19v⟩) hS0 ?r19v
          case y19v => (intro w' hSw; go_simp; try rfl)
          try simp only [Act.put, List.setIfInBounds_toArray, List.set_cons_zero, List.set_cons_succ]
          refine' wpAnyH_take (i := 20) (oi := ⟨some 76, _, _, _, _, _⟩) (v := _) rfl (by kernel_rfl) (by kernel_rfl) (by kernel_rfl) (fun _ _ _ h => h) (Or.inl ⟨by rfl, ?y20v⟩) hS0 ?r20v
          case y20v => (intro w' hSw; go_simp; try rfl)
          try simp only [Act.put, List.setIfInBounds_toArray, List.set_cons_zero, List.set_cons_succ]
          refine' wpAnyH_take (i := 22) (oi := ⟨some 78, _, _, _, _, _⟩) (v := _) rfl (by kernel_rfl) (by kernel_rfl) (by kernel_rfl) (fun _ _ _ h => h) (Or.inl ⟨by rfl, ?y22v⟩) hS0 ?r22v
          case y22v => (intro w' hSw; go_simp; try rfl)
          try simp only [Act.put, List.setIfInBounds_toArray, List.set_cons_zero, List.set_cons_succ]
          refine held_one (i := 21) (by kernel_rfl) rfl (fun Kz hK => ?_)
          go_simp
          refine (cnum_any _ _).mono ?_
          rintro e zN ⟨rfl, hzN⟩
          obtain rfl := hzN.symm
          refine hK.out _ _ hS0 (fun _ => ?_)
          clear hK Kz
          try simp only [Act.put, List.setIfInBounds_toArray, List.set_cons_zero, List.set_cons_succ]
          refine held_one (i := 23) (by kernel_rfl) rfl (fun Kz hK => ?_)
          go_simp
          refine (cnum_any _ _).mono ?_
          rintro e zN ⟨rfl, hzN⟩
          obtain rfl := hzN.symm
          refine hK.out _ _ hS0 (fun _ => ?_)
          clear hK Kz
          try simp only [Act.put, List.setIfInBounds_toArray, List.set_cons_zero, List.set_cons_succ]
          refine' wpAnyH_take (i := 24) (oi := ⟨some 80, _, _, _, _, _⟩) (v := _) rfl (by kernel_rfl) (by kernel_rfl) (by kernel_rfl) (fun _ _ _ h => h) (Or.inl ⟨by rfl, ?y24v⟩) hS0 ?r24v
          case y24v => (intro w' hSw; go_simp; try rfl)
          try simp only [Act.put, List.setIfInBounds_toArray, List.set_cons_zero, List.set_cons_succ]
          refine' wpAnyH_take (i := 25) (oi := ⟨some 81, _, _, _, _, _⟩) (v := _) rfl (by kernel_rfl) (by kernel_rfl) (by kernel_rfl) (fun _ _ _ h => h) (Or.inl ⟨by rfl, ?y25v⟩) hS0 ?r25v
          case y25v => (intro w' hSw; go_simp; try rfl)
          try simp only [Act.put, List.setIfInBounds_toArray, List.set_cons_zero, List.set_cons_succ]
          refine' wpAnyH_take (i := 26) (oi := ⟨some 82, _, _, _, _, _⟩) (v := _) rfl (by kernel_rfl) (by kernel_rfl) (by kernel_rfl) (fun _ _ _ h => h) (Or.inl ⟨by rfl, ?y26v⟩) hS0 ?r26v
          case y26v => (intro w' hSw; go_simp; try rfl)
          try simp only [Act.put, List.setIfInBounds_toArray, List.set_cons_zero, List.set_cons_succ]
          refine' wpAnyH_take (i := 27) (oi := ⟨some 83, _, _, _, _, _⟩) (v := _) rfl (by kernel_rfl) (by kernel_rfl) (by kernel_rfl) (fun _ _ _ h => h) (Or.inl ⟨by rfl, ?y27v⟩) hS0 ?r27v
          case y27v => (intro w' hSw; go_simp; try rfl)
          try simp only [Act.put, List.setIfInBounds_toArray, List.set_cons_zero, List.set_cons_succ]
          refine held_one (i := 28) (by kernel_rfl) rfl (fun Kz hK => ?_)
          go_simp
          refine (cknown_any _ K9.gg).mono ?_
          rintro e Z1 ⟨rfl, hbk⟩
          have hS1 := hS0.trans (hbk.mono hS0.size)
          refine hK.out _ _ hS1 (fun _ => ?_)
          clear hK Kz
          try simp only [Act.put, List.setIfInBounds_toArray, List.set_cons_zero, List.set_cons_succ]
          refine' wpAnyH_take (i := 29) (oi := ⟨some 85, _, _, _, _, _⟩) (v := _) rfl (by kernel_rfl) (by kernel_rfl) (by kernel_rfl) (fun _ _ _ h => h) (Or.inl ⟨by rfl, ?y29v⟩) hS1 ?r29v
          case y29v => (intro w' hSw; go_simp; try rfl)
          try simp only [Act.put, List.setIfInBounds_toArray, List.set_cons_zero, List.set_cons_succ]
          refine' wpAnyH_take (i := 30) (oi := ⟨some 8, _, _, _, _, _⟩) (v := _) rfl (by kernel_rfl) (by kernel_rfl) (by kernel_rfl) (fun _ _ _ h => h) (Or.inl ⟨by rfl, ?y30v⟩) hS1 ?r30v
          case y30v => (intro w' hSw; go_simp; try rfl)
          try simp only [Act.put, List.setIfInBounds_toArray, List.set_cons_zero, List.set_cons_succ]
          refine wpAnyH_done (by kernel_rfl) ?_ _
          go_wp2_with fail
          go_ret
          exact ⟨rfl, K9.bb.trans (hbk.mono K9.bb.size)⟩
      · have L3' := L3
        clear hx2
        go_wp2_with (first | (go_at_call 11; refine (cnum_any _ _).mono ?_; rintro e wn ⟨rfl, hwn⟩; obtain rfl := hwn.symm) | (go_at_call 6; refine (cknown_any _ L3.gg).mono ?_; rintro e wk ⟨rfl, hbk⟩))
        go_ret
        exact ⟨rfl, L3.bb.trans (hbk.mono L3.bb.size)⟩
    · rcases hy3 with ⟨rfl, _, hMB, hsy⟩ | ⟨rfl, rfl, _⟩
      all_goals
        clear hx2
        go_wp2_with (first | (go_at_call 11; refine (cnum_any _ _).mono ?_; rintro e wn ⟨rfl, hwn⟩; obtain rfl := hwn.symm) | (go_at_call 6; refine (cknown_any _ L3.gg).mono ?_; rintro e wk ⟨rfl, hbk⟩))
        go_ret
        exact ⟨rfl, L3.bb.trans (hbk.mono L3.bb.size)⟩
  · have hli : (300 : Int) < (s.length : Int) := by omega
    have hld : decide ((300 : Int) < (s.length : Int)) = true := decide_eq_true hli
    go_wp2_with (first | (go_at_call 6; refine (cknown_any _ L1.gg).mono ?_; rintro e wk ⟨rfl, hbk⟩))
    go_ret
    exact ⟨rfl, L1.bb.trans (hbk.mono L1.bb.size)⟩
end Go.Proofs.YthlopecllhdmhaaDoor

/-
  The walk of minsterlaw01.WireBack.
-/
import Derived.Test.YteneicngmglgbaaBackRead
import Derived.Test.YteneicngmglgbaaLawHex
import Derived.Test.YteneicngmglgbaaLawCuts
namespace Go.Proofs.Yteneicngmglgbaa
open Go.RowKit
set_option linter.unusedVariables false
set_option linter.unusedSimpArgs false

set_option maxRecDepth 100000 in
set_option maxHeartbeats 1000000 in
theorem wb_out (n : Nat) (r : Int) (m : Nat) (cs : Array Value) (v0 : Value) (l : List UInt8) (w : World) (h0 : Sl w v0 l) (hb : 9000 < l.length ∨ r < 0 ∨ 255 < r) :
    Calls Try.prog 7 #[.int .u64 (n : Int), .agg #[.int .i64 r, .int .u64 (m : Int)], .agg cs, v0] w fun e w' => e = .returned (.bool true) ∧ Below w.heap.size w w' := by
  have hb0 : Below w.heap.size w ((w.alloc (.cells #[.int .i64 r, .int .u64 (m : Int)] 36)).alloc (.cells cs 38)) := ((Below.refl _ _).alloc (Nat.le_refl _) _).alloc (by simp) _
  have hD : Blk ((w.alloc (.cells #[.int .i64 r, .int .u64 (m : Int)] 36)).alloc (.cells cs 38)) w.heap.size 36 #[.int .i64 r, .int .u64 (m : Int)] := (Blk.new w _ _).alloc _
  obtain ⟨A, c, rfl, _, _⟩ := h0
  have hcases : (9000 : Int) < (l.length : Int) ∨ ¬ (9000 : Int) < (l.length : Int) ∧ r < 0 ∨ ¬ (9000 : Int) < (l.length : Int) ∧ ¬ r < 0 ∧ 255 < r := by omega
  clear hb
  go_enter Try.func7, Try.ntmps7
  go_wp2_with fail
  refine (known_any _).mono ?_
  rintro e w1 ⟨rfl, hb1⟩
  have hD1 := hD.below hb1 hD.lt
  have d0 : w1.cell? ⟨w.heap.size, 0, none⟩ = some (.int .i64 r) := hD1.cell 0
  have d1 : w1.cell? ⟨w.heap.size, 1, none⟩ = some (.int .u64 (m : Int)) := hD1.cell 1
  have hb2 := hb0.trans (hb1.mono hb0.size)
  clear hb0 hb1 hD hD1
  rcases hcases with h1 | ⟨h1, h2⟩ | ⟨h1, h2, h3⟩
  all_goals
    go_wp2
    go_ret
    exact ⟨rfl, hb2⟩

set_option maxRecDepth 100000 in
set_option maxHeartbeats 8000000 in
theorem wb_in (n k m : Nat) (cs : List Value) (vec : List Nat) (v0 : Value) (l : List UInt8) (w : World) (h0 : Sl w v0 l) (hl : l.length ≤ 9000) (hk : k ≤ 255) (hn : n < 18446744073709551616) (hm : m < 18446744073709551616) (hv : Vec cs.toArray vec) :
    Calls Try.prog 7 #[.int .u64 (n : Int), .agg #[.int .i64 (k : Int), .int .u64 (m : Int)], .agg cs.toArray, v0] w fun e w' => e = .returned (.bool true) ∧ Below w.heap.size w w' := by
  have hb0 : Below w.heap.size w ((w.alloc (.cells #[.int .i64 (k : Int), .int .u64 (m : Int)] 36)).alloc (.cells cs.toArray 38)) := ((Below.refl _ _).alloc (Nat.le_refl _) _).alloc (by simp) _
  have hsz0 : ((w.alloc (.cells #[.int .i64 (k : Int), .int .u64 (m : Int)] 36)).alloc (.cells cs.toArray 38)).heap.size = w.heap.size + 2 := by simp
  have hD : Blk ((w.alloc (.cells #[.int .i64 (k : Int), .int .u64 (m : Int)] 36)).alloc (.cells cs.toArray 38)) w.heap.size 36 #[.int .i64 (k : Int), .int .u64 (m : Int)] := (Blk.new w _ _).alloc _
  have hV : Blk ((w.alloc (.cells #[.int .i64 (k : Int), .int .u64 (m : Int)] 36)).alloc (.cells cs.toArray 38)) (w.heap.size + 1) 38 cs.toArray := by
    have := Blk.new (w.alloc (.cells #[.int .i64 (k : Int), .int .u64 (m : Int)] 36)) 38 cs.toArray
    simpa using this
  have hsl := h0
  obtain ⟨A, c, rfl, _, _⟩ := h0
  have hl1 : ¬ (9000 : Int) < (l.length : Int) := by omega
  have hk1 : ¬ (k : Int) < 0 := by omega
  have hk2 : ¬ (255 : Int) < (k : Int) := by omega
  obtain ⟨str, hstr⟩ : ∃ t : ByteArray, (⟨l.toArray⟩ : ByteArray) = t := ⟨_, rfl⟩
  have Hstr := Lib.hid hstr
  clear hstr
  have hu : Try.prog.underlying 38 = some (.array 16 22) := Try.underlying38
  have hi : (Try.prog.info? 38).map (·.size) = some cs.length := by rw [info_vec]; have := hv.size; simp at this; rw [this]
  have hiA : (Try.prog.info? 38).map (·.size) = some cs.toArray.size := by rw [hi]; simp
  go_enter Try.func7, Try.ntmps7
  go_wp2_with fail
  refine (known_any _).mono ?_
  generalize ((w.alloc (.cells #[.int .i64 (k : Int), .int .u64 (m : Int)] 36)).alloc (.cells cs.toArray 38)) = w0 at hb0 hD hV hsz0 ⊢
  rintro e w1 ⟨rfl, hb1⟩
  have hD1 := hD.below hb1 hD.lt
  have hV1 := hV.below hb1 hV.lt
  have c1 := hb0.trans (hb1.mono hb0.size)
  have hz1 := hb1.size
  clear hb0 hb1 hD hV
  have d0 : w1.cell? ⟨w.heap.size, 0, none⟩ = some (.int .i64 (k : Int)) := hD1.cell 0
  have d1 : w1.cell? ⟨w.heap.size, 1, none⟩ = some (.int .u64 (m : Int)) := hD1.cell 1
  go_wp2_with fail
  refine (put_yes n 8 _ (by decide) (by decide) hn (by simpa using hn)).mono ?_
  rintro e w2 ⟨v2, rfl, ho2, hb2⟩
  obtain ⟨A2, n2, cc2, rfl⟩ := ho2.shape
  have s2 := Lib.hid ho2.sl
  have hD2 := hD1.below hb2 hD1.lt
  have hV2 := hV1.below hb2 hV1.lt
  have c2 := c1.trans (hb2.mono c1.size)
  have hz2 := Nat.le_trans hz1 hb2.size
  clear ho2 hb2 hD1 hV1 c1 d0 d1 hz1
  have d0 : w2.cell? ⟨w.heap.size, 0, none⟩ = some (.int .i64 (k : Int)) := hD2.cell 0
  have d1 : w2.cell? ⟨w.heap.size, 1, none⟩ = some (.int .u64 (m : Int)) := hD2.cell 1
  go_wp2_with fail
  refine (dot_yes k m _ hk hm).mono ?_
  rintro e w3 ⟨v3, rfl, ho3, hb3⟩
  obtain ⟨A3, n3, cc3, rfl⟩ := ho3.shape
  have s3 := Lib.hid ho3.sl
  have s2 := Lib.hid (s2.out.below hb3)
  have hD3 := hD2.below hb3 hD2.lt
  have hV3 := hV2.below hb3 hV2.lt
  have c3 := c2.trans (hb3.mono c2.size)
  have hz3 := Nat.le_trans hz2 hb3.size
  clear ho3 hb3 hD2 hV2 c2 d0 d1 hz2
  go_wp2_with fail
  refine (blob_yes _ l _ (hsl.below c3) (by omega)).mono ?_
  rintro e w4 ⟨v4, rfl, ho4, hb4⟩
  obtain ⟨A4, n4, cc4, rfl⟩ := ho4.shape
  have s4 := Lib.hid ho4.sl
  have s2 := Lib.hid (s2.out.below hb4)
  have s3 := Lib.hid (s3.out.below hb4)
  have hD4 := hD3.below hb4 hD3.lt
  have hV4 := hV3.below hb4 hV3.lt
  have c4 := c3.trans (hb4.mono c3.size)
  have hz4 := Nat.le_trans hz3 hb4.size
  clear ho4 hb4 hD3 hV3 c3 hz3
  go_wp2_with (refine wpList_load_row rfl 38 _ rfl (w.heap.size + 1) rfl 38 cs.toArray (0, 0) _ hV4 Try.underlying38 rfl hiA ?_)
  refine (vector_any cs.toArray vec _ hv).mono ?_
  rintro e w5 ⟨v5, rfl, ho5, hb5⟩
  obtain ⟨A5, n5, cc5, rfl⟩ := ho5.shape
  have s5 := Lib.hid ho5.sl
  have s2 := Lib.hid (s2.out.below hb5)
  have s3 := Lib.hid (s3.out.below hb5)
  have s4 := Lib.hid (s4.out.below hb5)
  have hD5 := hD4.below hb5 hD4.lt
  have hV5 := hV4.below hb5 hV4.lt
  have c5 := c4.trans (hb5.mono c4.size)
  have hz5 := Nat.le_trans hz4 hb5.size
  clear ho5 hb5 hD4 hV4 c4 hz4
  go_wp2_with fail
  refine (join_any _ [beB 8 n, beB 2 l.length ++ l, beB 1 k ++ beB 8 m, vecB vec, l] _ (Sls.of_new w5 _ _ _ 5 rfl ?_) ?_ (by simp)).mono ?_
  · exact ⟨s2.out, s4.out, s3.out, s5.out, hsl.below c5, trivial⟩
  · simp only [List.flatten_cons, List.flatten_nil, List.length_append, beB_length, vecB_length, hv.len, List.length_nil]; omega
  rintro e w6 ⟨v6, rfl, ho6, hb6⟩
  have e6 : [beB 8 n, beB 2 l.length ++ l, beB 1 k ++ beB 8 m, vecB vec, l].flatten = beB 8 n ++ ((beB 2 l.length ++ l) ++ ((beB 1 k ++ beB 8 m) ++ (vecB vec ++ l))) := by simp
  rw [e6] at ho6
  clear e6
  obtain ⟨A6, n6, cc6, rfl⟩ := ho6.shape
  have s6 := Lib.hid ho6.sl
  have hD6 := (hD5.alloc _).below hb6 (hD5.alloc _).lt
  have hV6 := (hV5.alloc _).below hb6 (hV5.alloc _).lt
  have c6 : Below w.heap.size w w6 := (c5.alloc c5.size _).trans (hb6.mono (by simp; have := c5.size; omega))
  have hz6 : w0.heap.size ≤ w6.heap.size := Nat.le_trans hz5 (Nat.le_trans (by simp) hb6.size)
  clear ho6 hb6 hD5 hV5 c5 hz5 s2 s3 s4 s5
  go_wp2_with fail
  refine (read_any _ _ _ s6.out (by simp only [List.length_append, beB_length, vecB_length, hv.len]; omega)).mono ?_
  rintro e w7 ⟨g, rfl, hg7, hr7, hb7⟩
  have hD7 := hD6.below hb7 hD6.lt
  have hV7 := hV6.below hb7 hV6.lt
  have c7 := c6.trans (hb7.mono c6.size)
  have hgw : w.heap.size ≤ g := Nat.le_trans c6.size hg7
  have hdg : w.heap.size ≠ g := by omega
  have hvg : w.heap.size + 1 ≠ g := by omega
  clear s6 hb7 hD6 hV6 c6
  go_wp2_with (go_at_call 13; refine (num_any _ _).mono ?_; rintro e w' ⟨rfl, rfl⟩)
  have huD := Try.underlying36
  have hiD : (Try.prog.info? 36).map (·.size) = some 2 := by kernel_rfl
  have HU := Lib.hid huD
  have HI := Lib.hid hiD
  have HUV := Lib.hid hu
  have HIV := Lib.hid hi
  clear huD hiD hu hi hiA
  have hr0 : Rd w7.drew g (beB 8 n ++ ((beB 2 l.length ++ l) ++ ((beB 1 k ++ beB 8 m) ++ (vecB vec ++ l)))) := hr7
  have B0 : Below w.heap.size w w7.drew := c7.drew
  have hlt0 : g < w7.drew.heap.size := hr7.lt
  have hD0 : w7.drew.rangeAt w.heap.size 0 [.int .i64 (k : Int), .int .u64 (m : Int)] := hD7.drew.range
  have hV0 : w7.drew.rangeAt (w.heap.size + 1) 0 cs := hV7.drew.range
  clear hr7 c7 hD7 hV7
  refine heldB_begin g (by kernel_rfl) ?_
  generalize w7.drew = W0 at hr0 B0 hlt0 hD0 hV0 ⊢
  have hKS : ∀ w', KB g W0 w' → Sl w' (.slice A l.length c) l := fun w' hk => KB.sl hsl B0 hgw hk
  have hC0 : KB g W0 W0 := KB.refl g W0
  refine' wpAnyH_take (i := 0) (oi := ⟨some 70, _, _, _, _, _⟩) (v := _) rfl (by kernel_rfl) (by kernel_rfl) (by kernel_rfl) (fun _ _ _ h => h) (Or.inl ⟨by rfl, ?y0⟩) (KB.refl _ _) ?r0
  case y0 => (intro w' hSw; go_simp; try rfl)
  try simp only [Act.put, List.setIfInBounds_toArray, List.set_cons_zero, List.set_cons_succ]
  refine' wpAnyH_take (i := 2) (oi := ⟨some 72, _, _, _, _, _⟩) (v := _) rfl (by kernel_rfl) (by kernel_rfl) (by kernel_rfl) (fun _ _ _ h => h) (Or.inl ⟨by rfl, ?y2⟩) (KB.refl _ _) ?r2
  case y2 => (intro w' hSw; go_simp; try rfl)
  try simp only [Act.put, List.setIfInBounds_toArray, List.set_cons_zero, List.set_cons_succ]
  refine held_one (i := 1) (by kernel_rfl) rfl (fun K hK => ?_)
  go_simp
  refine (back_number g n _ _ hr0 hn (by simp only [List.length_append, beB_length, vecB_length, hv.len]; omega)).mono ?_
  rintro e W1 ⟨rfl, hr1, hg1⟩
  clear hr0
  have hk1 := KB.of_grown hg1
  have B1 := Below.only B0 hg1 hgw (Nat.le_trans hgw (Nat.le_of_lt hlt0))
  have hlt1 := Nat.lt_of_lt_of_le hlt0 hg1.size
  have hD1 := KB.range hD0 hdg hk1
  have hV1 := KB.range hV0 hvg hk1
  have hC1 : KB g W0 W1 := hC0.trans hk1
  refine hK.out _ _ hk1 (fun _ => ?_)
  clear hK K
  refine heldB_next hk1 ?_
  clear hk1 B0 hlt0 hD0 hV0 hC0
  refine' wpAnyH_take (i := 3) (oi := ⟨some 73, _, _, _, _, _⟩) (v := _) rfl (by kernel_rfl) (by kernel_rfl) (by kernel_rfl) (fun _ _ _ h => h) (Or.inl ⟨by rfl, ?y3⟩) (KB.refl _ _) ?r3
  case y3 => (intro w' hSw; go_simp; try rfl)
  try simp only [Act.put, List.setIfInBounds_toArray, List.set_cons_zero, List.set_cons_succ]
  refine' wpAnyH_take (i := 4) (oi := ⟨some 74, _, _, _, _, _⟩) (v := _) rfl (by kernel_rfl) (by kernel_rfl) (by kernel_rfl) (fun _ _ _ h => h) (Or.inl ⟨by rfl, ?y4⟩) (KB.refl _ _) ?r4
  case y4 => (intro w' hSw; go_simp; try rfl)
  try simp only [Act.put, List.setIfInBounds_toArray, List.set_cons_zero, List.set_cons_succ]
  refine' wpAnyH_take (i := 5) (oi := ⟨some 75, _, _, _, _, _⟩) (v := _) rfl (by kernel_rfl) (by kernel_rfl) (by kernel_rfl) (fun _ _ _ h => h) (Or.inl ⟨by rfl, ?y5⟩) (KB.refl _ _) ?r5
  case y5 => (intro w' hSw; go_simp; try rfl)
  try simp only [Act.put, List.setIfInBounds_toArray, List.set_cons_zero, List.set_cons_succ]
  refine' wpAnyH_take (i := 8) (oi := ⟨some 78, _, _, _, _, _⟩) (v := _) rfl (by kernel_rfl) (by kernel_rfl) (by kernel_rfl) (fun _ _ _ h => h) (Or.inl ⟨by rfl, ?y8⟩) (KB.refl _ _) ?r8
  case y8 => (intro w' hSw; go_simp; try rfl)
  try simp only [Act.put, List.setIfInBounds_toArray, List.set_cons_zero, List.set_cons_succ]
  have q9 : ∀ w', KB g W1 w' → (convert 23 9 (.slice A l.length c)).run Try.prog w' = .ok (.string str) w' := fun w' hk => conv_mk2 (hKS w' (hC1.trans hk)) Hstr.out
  refine' wpAnyH_take (i := 9) (oi := ⟨some 79, _, _, _, _, _⟩) (v := _) rfl (by kernel_rfl) (by kernel_rfl) (by kernel_rfl) (fun _ _ _ h => h) (Or.inl ⟨by rfl, ?y9⟩) (KB.refl _ _) ?r9
  case y9 => (intro w' hSw; go_simp; try rfl)
  try simp only [Act.put, List.setIfInBounds_toArray, List.set_cons_zero, List.set_cons_succ]
  clear q9
  refine held_one (i := 6) (by kernel_rfl) rfl (fun K hK => ?_)
  go_simp
  refine (back_blob g l _ _ hr1 (by omega) (by simp only [List.length_append, beB_length, vecB_length, hv.len]; omega)).mono ?_
  rintro e W2 ⟨A2, rfl, hp2, hg2⟩
  clear hr1
  have hk2 := KB.of_grown hg2
  have B2 := Below.only B1 hg2 hgw (Nat.le_trans hgw (Nat.le_of_lt hlt1))
  have hlt2 := Nat.lt_of_lt_of_le hlt1 hg2.size
  have hD2 := KB.range hD1 hdg hk2
  have hV2 := KB.range hV1 hvg hk2
  have hC2 : KB g W0 W2 := hC1.trans hk2
  refine hK.out _ _ hk2 (fun _ => ?_)
  clear hK K
  refine heldB_next hk2 ?_
  clear hk2 B1 hlt1 hD1 hV1 hC1
  have q7 : ∀ w', KB g W2 w' → (convert 23 9 (.slice A2 l.length l.length)).run Try.prog w' = .ok (.string str) w' := fun w' hk => conv_mk2 (hp2.slKB hk rfl (Nat.le_refl _)) Hstr.out
  refine' wpAnyH_take (i := 7) (oi := ⟨some 77, _, _, _, _, _⟩) (v := _) rfl (by kernel_rfl) (by kernel_rfl) (by kernel_rfl) (fun _ _ _ h => h) (Or.inl ⟨by rfl, ?y7⟩) (KB.refl _ _) ?r7
  case y7 => (intro w' hSw; go_simp; try rfl)
  try simp only [Act.put, List.setIfInBounds_toArray, List.set_cons_zero, List.set_cons_succ]
  clear q7
  have hr2 := hp2.rd
  clear hp2
  refine' wpAnyH_take (i := 10) (oi := ⟨some 80, _, _, _, _, _⟩) (v := _) rfl (by kernel_rfl) (by kernel_rfl) (by kernel_rfl) (fun _ _ _ h => h) (Or.inl ⟨by rfl, ?y10⟩) (KB.refl _ _) ?r10
  case y10 => (intro w' hSw; go_simp; try rfl)
  try simp only [Act.put, List.setIfInBounds_toArray, List.set_cons_zero, List.set_cons_succ]
  refine' wpAnyH_take (i := 11) (oi := ⟨some 81, _, _, _, _, _⟩) (v := _) rfl (by kernel_rfl) (by kernel_rfl) (by kernel_rfl) (fun _ _ _ h => h) (Or.inl ⟨by rfl, ?y11⟩) (KB.refl _ _) ?r11
  case y11 => (intro w' hSw; go_simp; try rfl)
  try simp only [Act.put, List.setIfInBounds_toArray, List.set_cons_zero, List.set_cons_succ]
  refine' wpAnyH_take (i := 12) (oi := ⟨some 82, _, _, _, _, _⟩) (v := _) rfl (by kernel_rfl) (by kernel_rfl) (by kernel_rfl) (fun _ _ _ h => h) (Or.inl ⟨by rfl, ?y12⟩) (KB.refl _ _) ?r12
  case y12 => (intro w' hSw; go_simp; try rfl)
  try simp only [Act.put, List.setIfInBounds_toArray, List.set_cons_zero, List.set_cons_succ]
  refine' wpAnyH_take (i := 13) (oi := ⟨some 83, _, _, _, _, _⟩) (v := _) rfl (by kernel_rfl) (by kernel_rfl) (by kernel_rfl) (fun _ _ _ h => h) (Or.inl ⟨by rfl, ?y13⟩) (KB.refl _ _) ?r13
  case y13 => (intro w' hSw; go_simp; try rfl)
  try simp only [Act.put, List.setIfInBounds_toArray, List.set_cons_zero, List.set_cons_succ]
  refine' wpAnyH_take (i := 15) (oi := ⟨some 85, _, _, _, _, _⟩) rfl (by kernel_rfl) (by kernel_rfl) (by kernel_rfl) (fun _ _ _ h => h) (yieldsIf_load_mid (by rfl) _ _ rfl _ _ rfl [.int .i64 (k : Int), .int .u64 (m : Int)] _ (fun w' hk => KB.range hD2 hdg hk) HU.out rfl HI.out) (KB.refl _ _) ?r15
  try simp only [Act.put, List.setIfInBounds_toArray, List.set_cons_zero, List.set_cons_succ]
  refine held_one (i := 14) (by kernel_rfl) rfl (fun K hK => ?_)
  go_simp
  refine (back_dot g k m _ _ hr2 hk hm (by simp only [List.length_append, beB_length, vecB_length, hv.len]; omega)).mono ?_
  rintro e W3 ⟨rfl, hr3, hg3⟩
  clear hr2
  have hk3 := KB.of_grown hg3
  have B3 := Below.only B2 hg3 hgw (Nat.le_trans hgw (Nat.le_of_lt hlt2))
  have hlt3 := Nat.lt_of_lt_of_le hlt2 hg3.size
  have hD3 := KB.range hD2 hdg hk3
  have hV3 := KB.range hV2 hvg hk3
  have hC3 : KB g W0 W3 := hC2.trans hk3
  refine hK.out _ _ hk3 (fun _ => ?_)
  clear hK K
  refine heldB_next hk3 ?_
  clear hk3 B2 hlt2 hD2 hV2 hC2
  refine' wpAnyH_take (i := 16) (oi := ⟨some 86, _, _, _, _, _⟩) (v := _) rfl (by kernel_rfl) (by kernel_rfl) (by kernel_rfl) (fun _ _ _ h => h) (Or.inl ⟨by rfl, ?y16⟩) (KB.refl _ _) ?r16
  case y16 => (intro w' hSw; go_simp; try rfl)
  try simp only [Act.put, List.setIfInBounds_toArray, List.set_cons_zero, List.set_cons_succ]
  refine' wpAnyH_take (i := 17) (oi := ⟨some 87, _, _, _, _, _⟩) (v := _) rfl (by kernel_rfl) (by kernel_rfl) (by kernel_rfl) (fun _ _ _ h => h) (Or.inl ⟨by rfl, ?y17⟩) (KB.refl _ _) ?r17
  case y17 => (intro w' hSw; go_simp; try rfl)
  try simp only [Act.put, List.setIfInBounds_toArray, List.set_cons_zero, List.set_cons_succ]
  refine' wpAnyH_take (i := 18) (oi := ⟨some 88, _, _, _, _, _⟩) (v := _) rfl (by kernel_rfl) (by kernel_rfl) (by kernel_rfl) (fun _ _ _ h => h) (Or.inl ⟨by rfl, ?y18⟩) (KB.refl _ _) ?r18
  case y18 => (intro w' hSw; go_simp; try rfl)
  try simp only [Act.put, List.setIfInBounds_toArray, List.set_cons_zero, List.set_cons_succ]
  refine' wpAnyH_take (i := 19) (oi := ⟨some 89, _, _, _, _, _⟩) (v := _) rfl (by kernel_rfl) (by kernel_rfl) (by kernel_rfl) (fun _ _ _ h => h) (Or.inl ⟨by rfl, ?y19⟩) (KB.refl _ _) ?r19
  case y19 => (intro w' hSw; go_simp; try rfl)
  try simp only [Act.put, List.setIfInBounds_toArray, List.set_cons_zero, List.set_cons_succ]
  refine' wpAnyH_take (i := 21) (oi := ⟨some 91, _, _, _, _, _⟩) rfl (by kernel_rfl) (by kernel_rfl) (by kernel_rfl) (fun _ _ _ h => h) (yieldsIf_load_mid (by rfl) _ _ rfl _ _ rfl cs _ (fun w' hk => KB.range hV3 hvg hk) HUV.out rfl HIV.out) (KB.refl _ _) ?r21
  try simp only [Act.put, List.setIfInBounds_toArray, List.set_cons_zero, List.set_cons_succ]
  refine held_one (i := 20) (by kernel_rfl) rfl (fun K hK => ?_)
  go_simp
  refine (back_vec g cs.toArray vec _ _ hr3 hv (by simp only [List.length_append, beB_length, vecB_length, hv.len]; omega)).mono ?_
  rintro e W4 ⟨rfl, hr4, hg4⟩
  clear hr3
  have hk4 := KB.of_grown hg4
  have B4 := Below.only B3 hg4 hgw (Nat.le_trans hgw (Nat.le_of_lt hlt3))
  have hlt4 := Nat.lt_of_lt_of_le hlt3 hg4.size
  have hD4 := KB.range hD3 hdg hk4
  have hV4 := KB.range hV3 hvg hk4
  have hC4 : KB g W0 W4 := hC3.trans hk4
  refine hK.out _ _ hk4 (fun _ => ?_)
  clear hK K
  refine heldB_next hk4 ?_
  clear hk4 B3 hlt3 hD3 hV3 hC3
  have hvs := vec_self hv
  refine' wpAnyH_take (i := 22) (oi := ⟨some 92, _, _, _, _, _⟩) (v := _) rfl (by kernel_rfl) (by kernel_rfl) (by kernel_rfl) (fun _ _ _ h => h) (Or.inl ⟨by rfl, ?y22⟩) (KB.refl _ _) ?r22
  case y22 => (intro w' hSw; go_simp; try rfl)
  try simp only [Act.put, List.setIfInBounds_toArray, List.set_cons_zero, List.set_cons_succ]
  clear hvs
  refine' wpAnyH_take (i := 23) (oi := ⟨some 93, _, _, _, _, _⟩) (v := _) rfl (by kernel_rfl) (by kernel_rfl) (by kernel_rfl) (fun _ _ _ h => h) (Or.inl ⟨by rfl, ?y23⟩) (KB.refl _ _) ?r23
  case y23 => (intro w' hSw; go_simp; try rfl)
  try simp only [Act.put, List.setIfInBounds_toArray, List.set_cons_zero, List.set_cons_succ]
  refine' wpAnyH_take (i := 24) (oi := ⟨some 94, _, _, _, _, _⟩) (v := _) rfl (by kernel_rfl) (by kernel_rfl) (by kernel_rfl) (fun _ _ _ h => h) (Or.inl ⟨by rfl, ?y24⟩) (KB.refl _ _) ?r24
  case y24 => (intro w' hSw; go_simp; try rfl)
  try simp only [Act.put, List.setIfInBounds_toArray, List.set_cons_zero, List.set_cons_succ]
  refine' wpAnyH_take (i := 25) (oi := ⟨some 95, _, _, _, _, _⟩) (v := _) rfl (by kernel_rfl) (by kernel_rfl) (by kernel_rfl) (fun _ _ _ h => h) (Or.inl ⟨by rfl, ?y25⟩) (KB.refl _ _) ?r25
  case y25 => (intro w' hSw; go_simp; try rfl)
  try simp only [Act.put, List.setIfInBounds_toArray, List.set_cons_zero, List.set_cons_succ]
  refine' wpAnyH_take (i := 26) (oi := ⟨some 96, _, _, _, _, _⟩) (v := _) rfl (by kernel_rfl) (by kernel_rfl) (by kernel_rfl) (fun _ _ _ h => h) (Or.inl ⟨by rfl, ?y26⟩) (KB.refl _ _) ?r26
  case y26 => (intro w' hSw; go_simp; try rfl)
  try simp only [Act.put, List.setIfInBounds_toArray, List.set_cons_zero, List.set_cons_succ]
  refine' wpAnyH_take (i := 27) (oi := ⟨some 97, _, _, _, _, _⟩) (v := _) rfl (by kernel_rfl) (by kernel_rfl) (by kernel_rfl) (fun _ _ _ h => h) (Or.inl ⟨by rfl, ?y27⟩) (KB.refl _ _) ?r27
  case y27 => (intro w' hSw; go_simp; try rfl)
  try simp only [Act.put, List.setIfInBounds_toArray, List.set_cons_zero, List.set_cons_succ]
  refine' wpAnyH_take (i := 30) (oi := ⟨some 100, _, _, _, _, _⟩) (v := _) rfl (by kernel_rfl) (by kernel_rfl) (by kernel_rfl) (fun _ _ _ h => h) (Or.inl ⟨by rfl, ?y30⟩) (KB.refl _ _) ?r30
  case y30 => (intro w' hSw; go_simp; try rfl)
  try simp only [Act.put, List.setIfInBounds_toArray, List.set_cons_zero, List.set_cons_succ]
  have q31 : ∀ w', KB g W4 w' → (convert 23 9 (.slice A l.length c)).run Try.prog w' = .ok (.string str) w' := fun w' hk => conv_mk2 (hKS w' (hC4.trans hk)) Hstr.out
  refine' wpAnyH_take (i := 31) (oi := ⟨some 101, _, _, _, _, _⟩) (v := _) rfl (by kernel_rfl) (by kernel_rfl) (by kernel_rfl) (fun _ _ _ h => h) (Or.inl ⟨by rfl, ?y31⟩) (KB.refl _ _) ?r31
  case y31 => (intro w' hSw; go_simp; try rfl)
  try simp only [Act.put, List.setIfInBounds_toArray, List.set_cons_zero, List.set_cons_succ]
  clear q31
  refine held_one (i := 28) (by kernel_rfl) rfl (fun K hK => ?_)
  go_simp
  refine (back_bytes g l _ hr4 (by omega)).mono ?_
  rintro e W5 ⟨A5, rfl, hp5, hg5⟩
  clear hr4
  have hk5 := KB.of_grown hg5
  have B5 := Below.only B4 hg5 hgw (Nat.le_trans hgw (Nat.le_of_lt hlt4))
  have hlt5 := Nat.lt_of_lt_of_le hlt4 hg5.size
  have hD5 := KB.range hD4 hdg hk5
  have hV5 := KB.range hV4 hvg hk5
  have hC5 : KB g W0 W5 := hC4.trans hk5
  refine hK.out _ _ hk5 (fun _ => ?_)
  clear hK K
  refine heldB_next hk5 ?_
  clear hk5 B4 hlt4 hD4 hV4 hC4
  have q29 : ∀ w', KB g W5 w' → (convert 23 9 (.slice A5 l.length l.length)).run Try.prog w' = .ok (.string str) w' := fun w' hk => conv_mk2 (hp5.slKB hk rfl (Nat.le_refl _)) Hstr.out
  refine' wpAnyH_take (i := 29) (oi := ⟨some 99, _, _, _, _, _⟩) (v := _) rfl (by kernel_rfl) (by kernel_rfl) (by kernel_rfl) (fun _ _ _ h => h) (Or.inl ⟨by rfl, ?y29⟩) (KB.refl _ _) ?r29
  case y29 => (intro w' hSw; go_simp; try rfl)
  try simp only [Act.put, List.setIfInBounds_toArray, List.set_cons_zero, List.set_cons_succ]
  clear q29
  have hr5 := hp5.rd
  clear hp5
  refine' wpAnyH_take (i := 32) (oi := ⟨some 102, _, _, _, _, _⟩) (v := _) rfl (by kernel_rfl) (by kernel_rfl) (by kernel_rfl) (fun _ _ _ h => h) (Or.inl ⟨by rfl, ?y32⟩) (KB.refl _ _) ?r32
  case y32 => (intro w' hSw; go_simp; try rfl)
  try simp only [Act.put, List.setIfInBounds_toArray, List.set_cons_zero, List.set_cons_succ]
  refine' wpAnyH_take (i := 33) (oi := ⟨some 103, _, _, _, _, _⟩) (v := _) rfl (by kernel_rfl) (by kernel_rfl) (by kernel_rfl) (fun _ _ _ h => h) (Or.inl ⟨by rfl, ?y33⟩) (KB.refl _ _) ?r33
  case y33 => (intro w' hSw; go_simp; try rfl)
  try simp only [Act.put, List.setIfInBounds_toArray, List.set_cons_zero, List.set_cons_succ]
  refine' wpAnyH_take (i := 34) (oi := ⟨some 104, _, _, _, _, _⟩) (v := _) rfl (by kernel_rfl) (by kernel_rfl) (by kernel_rfl) (fun _ _ _ h => h) (Or.inl ⟨by rfl, ?y34⟩) (KB.refl _ _) ?r34
  case y34 => (intro w' hSw; go_simp; try rfl)
  try simp only [Act.put, List.setIfInBounds_toArray, List.set_cons_zero, List.set_cons_succ]
  refine' wpAnyH_take (i := 35) (oi := ⟨some 105, _, _, _, _, _⟩) (v := _) rfl (by kernel_rfl) (by kernel_rfl) (by kernel_rfl) (fun _ _ _ h => h) (Or.inl ⟨by rfl, ?y35⟩) (KB.refl _ _) ?r35
  case y35 => (intro w' hSw; go_simp; try rfl)
  try simp only [Act.put, List.setIfInBounds_toArray, List.set_cons_zero, List.set_cons_succ]
  refine held_one (i := 36) (by kernel_rfl) rfl (fun K hK => ?_)
  go_simp
  refine (back_end g _ hr5).mono ?_
  rintro e w' ⟨rfl, rfl⟩
  refine hK.out _ _ (KB.refl _ _) (fun _ => ?_)
  clear hK K
  refine held_one (i := 37) (by kernel_rfl) rfl (fun K hK => ?_)
  go_simp
  refine (num_any _ _).mono ?_
  rintro e w' ⟨rfl, rfl⟩
  refine hK.out _ _ (KB.refl _ _) (fun _ => ?_)
  clear hK K
  refine' wpAnyH_take (i := 38) (oi := ⟨some 108, _, _, _, _, _⟩) (v := _) rfl (by kernel_rfl) (by kernel_rfl) (by kernel_rfl) (fun _ _ _ h => h) (Or.inl ⟨by rfl, ?y38⟩) (KB.refl _ _) ?r38
  case y38 => (intro w' hSw; go_simp; try rfl)
  try simp only [Act.put, List.setIfInBounds_toArray, List.set_cons_zero, List.set_cons_succ]
  refine' wpAnyH_take (i := 39) (oi := ⟨some 109, _, _, _, _, _⟩) (v := _) rfl (by kernel_rfl) (by kernel_rfl) (by kernel_rfl) (fun _ _ _ h => h) (Or.inl ⟨by rfl, ?y39⟩) (KB.refl _ _) ?r39
  case y39 => (intro w' hSw; go_simp; try rfl)
  try simp only [Act.put, List.setIfInBounds_toArray, List.set_cons_zero, List.set_cons_succ]
  refine wpAnyH_done (by kernel_rfl) ?_ _
  have Hs5 := Lib.hid (hKS _ hC5)
  clear hKS hC5 hD5 hV5
  go_wp2_with fail
  refine (hex_any _ l _ Hs5.out (by omega)).mono ?_
  rintro e W6 ⟨rfl, hb6⟩
  have hr6 := hr5.below hb6
  have B6 := B5.trans (hb6.mono B5.size)
  have hlt6 := Nat.lt_of_lt_of_le hlt5 hb6.size
  have hs6 := Hs5.out.below hb6
  clear hr5 B5 hlt5 hb6 Hs5
  have hun := unhex_any ⟨(hexB l).toArray⟩ W6 (by show (hexB l).toArray.size ≤ 20000; simp [hexB_length]; omega)
  have Hun := Lib.hid hun
  clear hun
  go_wp2_with fail
  refine Hun.out.mono ?_
  rintro e W7 ⟨v7, n7, rfl, hb7, hor⟩
  have hr7 := hr6.below hb7
  have B7 := B6.trans (hb7.mono B6.size)
  have hlt7 := Nat.lt_of_lt_of_le hlt6 hb7.size
  have hs7 := hs6.below hb7
  clear hr6 B6 hlt6 hb7 hs6 Hun
  have hget : n7 = 0 ∧ Sl W7 v7 l := by
    have e : unhexB (⟨(hexB l).toArray⟩ : ByteArray).data.toList = some l := by rw [show (⟨(hexB l).toArray⟩ : ByteArray).data.toList = hexB l by simp]; exact unhex_hex l
    rcases hor with ⟨m', hm', h0, hs⟩ | ⟨hno, _, _⟩
    · rw [e] at hm'
      injection hm' with hm'
      subst hm'
      exact ⟨h0, hs⟩
    · rw [e] at hno; cases hno
  clear hor
  obtain ⟨rfl, hs8⟩ := hget
  obtain ⟨A8, n8, c8, rfl⟩ := hs8.shape
  have k1 := conv_mk2 hs8 Hstr.out
  have k2 := conv_mk2 hs7 Hstr.out
  go_wp2_with (go_at_call 13; refine (num_any _ _).mono ?_; rintro e w' ⟨rfl, rfl⟩)
  refine (number_short g 1 [] _ hr7 (.inr (by decide)) (by decide)).mono ?_
  rintro e W8 ⟨rfl, hf8, hg8⟩
  have B8 := Below.only B7 hg8 hgw (Nat.le_trans hgw (Nat.le_of_lt hlt7))
  clear k1 k2 hs7 hs8 hr7 B7 hg8
  go_wp2_with fail
  refine (failed_yes g _ hf8).mono ?_
  rintro e w' ⟨rfl, rfl⟩
  go_wp2
  go_ret
  exact ⟨rfl, B8⟩
end Go.Proofs.Yteneicngmglgbaa

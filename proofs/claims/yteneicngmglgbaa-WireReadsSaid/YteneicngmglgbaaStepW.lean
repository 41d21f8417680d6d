/-
  The walk of minsterlaw01.step, over whatever the two readings leave.
-/
import Derived.Test.YteneicngmglgbaaRB
namespace Go.Proofs.Yteneicngmglgbaa.RB
open Go.RowKit
set_option linter.unusedVariables false
set_option linter.unusedSimpArgs false

/-- The world behind a step's box. -/
def boxed (w : World) (k N : Int) : World := w.alloc (.cells #[.int .i64 k, .int .i64 N] 62)
/-- The step's box holds its number. -/
def Box (w : World) (sb : Nat) (N : Int) : Prop := w.cell? ⟨sb, 1, none⟩ = some (.int .i64 N)

theorem step_none (g h : Nat) (k N : Int) (w : World) (hk : k < 1 ∨ 5 < k) :
    Calls Try.prog 30 #[.pointer (some ⟨g, 0, none⟩), .pointer (some ⟨h, 0, none⟩), .agg #[.int .i64 k, .int .i64 N]] w fun e w' => e = .returned (.bool true) ∧ w' = boxed w k N := by
  have b1 : (k == 1) = false := by simp; omega
  have b2 : (k == 2) = false := by simp; omega
  have b3 : (k == 3) = false := by simp; omega
  have b4 : (k == 4) = false := by simp; omega
  have b5 : (k == 5) = false := by simp; omega
  clear hk
  go_enter Try.func30, Try.ntmps30
  go_wp2
  go_ret
  exact ⟨rfl, rfl⟩

set_option maxHeartbeats 1000000 in
theorem step_number (g h : Nat) (N x : Int) (w : World) (P Q : World → Prop)
    (hw : Calls Try.prog 36 #[.pointer (some ⟨g, 0, none⟩), .int .i64 N] (boxed w 1 N).drew fun e w' => e = .returned (.int .u64 x) ∧ P w' ∧ Box w' w.heap.size N)
    (hr : ∀ w1, P w1 → Calls Try.prog 45 #[.pointer (some ⟨h, 0, none⟩), .int .i64 N] w1 fun e w' => e = .returned (.int .u64 x) ∧ Q w' ∧ Box w' w.heap.size N) :
    Calls Try.prog 30 #[.pointer (some ⟨g, 0, none⟩), .pointer (some ⟨h, 0, none⟩), .agg #[.int .i64 1, .int .i64 N]] w fun e w' => e = .returned (.bool true) ∧ Q w' := by
  have HW := Lib.hid hw
  have HR := Lib.hid hr
  clear hw hr
  have hbx : Box (boxed w 1 N).drew w.heap.size N := (Blk.new w 62 #[.int .i64 1, .int .i64 N]).cell 1
  go_enter Try.func30, Try.ntmps30
  go_wp2_with fail
  change Code.wp _ _ _ _ (boxed w 1 N)
  refine wp_region_held_drew (S := fun w' => Box w' w.heap.size N) (by kernel_rfl) hbx (fun _ => ?_)
  generalize (boxed w 1 N).drew = W at HW hbx ⊢
  refine' wpAnyH_take (i := 0) (oi := ⟨some 14, _, _, _, _, _⟩) (v := _) rfl (by kernel_rfl) (by kernel_rfl) (by kernel_rfl) (fun _ _ _ h => h) (Or.inl ⟨by rfl, ?y0⟩) hbx ?r0
  case y0 => (intro w' hSw; go_simp; try rfl)
  try simp only [Act.put, List.setIfInBounds_toArray, List.set_cons_zero, List.set_cons_succ]
  refine' wpAnyH_take (i := 1) (oi := ⟨some 15, _, _, _, _, _⟩) (v := _) rfl (by kernel_rfl) (by kernel_rfl) (by kernel_rfl) (fun _ _ _ h => h) (Or.inl ⟨by rfl, ?y1⟩) hbx ?r1
  case y1 => (intro w' hSw; go_simp; try rfl)
  try simp only [Act.put, List.setIfInBounds_toArray, List.set_cons_zero, List.set_cons_succ]
  refine' wpAnyH_take (i := 2) (oi := ⟨some 16, _, _, _, _, _⟩) (v := _) rfl (by kernel_rfl) (by kernel_rfl) (by kernel_rfl) (fun _ _ _ h => h) (Or.inl ⟨by rfl, ?y2⟩) hbx ?r2
  case y2 => (intro w' hSw; have hbw : w'.cell? ⟨w.heap.size, 1, none⟩ = some (.int .i64 N) := hSw; go_simp; try rfl)
  try simp only [Act.put, List.setIfInBounds_toArray, List.set_cons_zero, List.set_cons_succ]
  refine' wpAnyH_take (i := 4) (oi := ⟨some 18, _, _, _, _, _⟩) (v := _) rfl (by kernel_rfl) (by kernel_rfl) (by kernel_rfl) (fun _ _ _ h => h) (Or.inl ⟨by rfl, ?y4⟩) hbx ?r4
  case y4 => (intro w' hSw; go_simp; try rfl)
  try simp only [Act.put, List.setIfInBounds_toArray, List.set_cons_zero, List.set_cons_succ]
  refine' wpAnyH_take (i := 5) (oi := ⟨some 19, _, _, _, _, _⟩) (v := _) rfl (by kernel_rfl) (by kernel_rfl) (by kernel_rfl) (fun _ _ _ h => h) (Or.inl ⟨by rfl, ?y5⟩) hbx ?r5
  case y5 => (intro w' hSw; go_simp; try rfl)
  try simp only [Act.put, List.setIfInBounds_toArray, List.set_cons_zero, List.set_cons_succ]
  refine' wpAnyH_take (i := 6) (oi := ⟨some 20, _, _, _, _, _⟩) (v := _) rfl (by kernel_rfl) (by kernel_rfl) (by kernel_rfl) (fun _ _ _ h => h) (Or.inl ⟨by rfl, ?y6⟩) hbx ?r6
  case y6 => (intro w' hSw; have hbw : w'.cell? ⟨w.heap.size, 1, none⟩ = some (.int .i64 N) := hSw; go_simp; try rfl)
  try simp only [Act.put, List.setIfInBounds_toArray, List.set_cons_zero, List.set_cons_succ]
  refine held_one (i := 3) (by kernel_rfl) rfl (fun K hK => ?_)
  go_simp
  refine HW.out.mono ?_
  rintro e w1 ⟨rfl, hp1, hb1⟩
  refine hK.out _ _ hb1 (fun _ => ?_)
  clear hK K
  refine held_one (i := 7) (by kernel_rfl) rfl (fun K hK => ?_)
  go_simp
  refine (HR.out _ hp1).mono ?_
  rintro e w2 ⟨rfl, hq2, hb2⟩
  clear HW HR
  refine hK.out _ _ hb2 (fun _ => ?_)
  clear hK K
  refine' wpAnyH_take (i := 8) (oi := ⟨some 22, _, _, _, _, _⟩) (v := _) rfl (by kernel_rfl) (by kernel_rfl) (by kernel_rfl) (fun _ _ _ h => h) (Or.inl ⟨by rfl, ?y8⟩) hb2 ?r8
  case y8 => (intro w' hSw; go_simp; try rfl)
  try simp only [Act.put, List.setIfInBounds_toArray, List.set_cons_zero, List.set_cons_succ]
  refine' wpAnyH_take (i := 9) (oi := ⟨some 6, _, _, _, _, _⟩) (v := _) rfl (by kernel_rfl) (by kernel_rfl) (by kernel_rfl) (fun _ _ _ h => h) (Or.inl ⟨by rfl, ?y9⟩) hb2 ?r9
  case y9 => (intro w' hSw; go_simp; try rfl)
  try simp only [Act.put, List.setIfInBounds_toArray, List.set_cons_zero, List.set_cons_succ]
  refine wpAnyH_done (by kernel_rfl) ?_ _
  go_wp2_with fail
  go_ret
  exact ⟨rfl, hq2⟩

set_option maxHeartbeats 1000000 in
theorem step_blob (g h : Nat) (N : Int) (str : ByteArray) (w : World) (P : Value → World → Prop) (Q : World → Prop)
    (hw : Calls Try.prog 37 #[.pointer (some ⟨g, 0, none⟩)] (boxed w 2 N).drew fun e w' => ∃ v, e = .returned v ∧ P v w')
    (hc : ∀ v w1 w', P v w1 → KB h w1 w' → (convert 23 9 v).run Try.prog w' = .ok (.string str) w')
    (hr : ∀ v w1, P v w1 → Calls Try.prog 46 #[.pointer (some ⟨h, 0, none⟩)] w1 fun e w' => ∃ v2, e = .returned v2 ∧ KB h w1 w' ∧ Q w' ∧ ∀ w'', KB h w' w'' → (convert 23 9 v2).run Try.prog w'' = .ok (.string str) w'') :
    Calls Try.prog 30 #[.pointer (some ⟨g, 0, none⟩), .pointer (some ⟨h, 0, none⟩), .agg #[.int .i64 2, .int .i64 N]] w fun e w' => e = .returned (.bool true) ∧ Q w' := by
  have HW := Lib.hid hw
  have HR := Lib.hid hr
  have HC := Lib.hid hc
  clear hw hr hc
  go_enter Try.func30, Try.ntmps30
  go_wp2_with fail
  change Code.wp _ _ _ _ (boxed w 2 N)
  refine wp_region_held_drew (S := fun _ => True) (by kernel_rfl) trivial (fun _ => ?_)
  generalize (boxed w 2 N).drew = W at HW ⊢
  refine' wpAnyH_take (i := 0) (oi := ⟨some 25, _, _, _, _, _⟩) (v := _) rfl (by kernel_rfl) (by kernel_rfl) (by kernel_rfl) (fun _ _ _ h => h) (Or.inl ⟨by rfl, ?y0⟩) trivial ?r0
  case y0 => (intro w' hSw; go_simp; try rfl)
  try simp only [Act.put, List.setIfInBounds_toArray, List.set_cons_zero, List.set_cons_succ]
  refine' wpAnyH_take (i := 3) (oi := ⟨some 28, _, _, _, _, _⟩) (v := _) rfl (by kernel_rfl) (by kernel_rfl) (by kernel_rfl) (fun _ _ _ h => h) (Or.inl ⟨by rfl, ?y3⟩) trivial ?r3
  case y3 => (intro w' hSw; go_simp; try rfl)
  try simp only [Act.put, List.setIfInBounds_toArray, List.set_cons_zero, List.set_cons_succ]
  refine held_one (i := 1) (by kernel_rfl) rfl (fun K hK => ?_)
  go_simp
  refine HW.out.mono ?_
  rintro e w1 ⟨v1, rfl, hp1⟩
  refine hK.out _ _ trivial (fun _ => ?_)
  clear hK K
  refine wpAnyH_more (S' := KB h w1) (fun _ _ => trivial) _ _ _ _ ?_
  have q2 : ∀ w', KB h w1 w' → (convert 23 9 v1).run Try.prog w' = .ok (.string str) w' := fun w' hk => HC.out v1 w1 w' hp1 hk
  refine' wpAnyH_take (i := 2) (oi := ⟨some 27, _, _, _, _, _⟩) (v := _) rfl (by kernel_rfl) (by kernel_rfl) (by kernel_rfl) (fun _ _ _ h => h) (Or.inl ⟨by rfl, ?y2⟩) (KB.refl _ _) ?r2
  case y2 => (intro w' hSw; go_simp; try rfl)
  try simp only [Act.put, List.setIfInBounds_toArray, List.set_cons_zero, List.set_cons_succ]
  clear q2
  refine held_one (i := 4) (by kernel_rfl) rfl (fun K hK => ?_)
  go_simp
  refine (HR.out _ _ hp1).mono ?_
  rintro e w2 ⟨v2, rfl, hk2, hq2, hc2⟩
  clear HW HR HC
  refine hK.out _ _ hk2 (fun _ => ?_)
  clear hK K
  refine heldB_next hk2 ?_
  refine' wpAnyH_take (i := 5) (oi := ⟨some 30, _, _, _, _, _⟩) (v := _) rfl (by kernel_rfl) (by kernel_rfl) (by kernel_rfl) (fun _ _ _ h => h) (Or.inl ⟨by rfl, ?y5⟩) (KB.refl _ _) ?r5
  case y5 => (intro w' hSw; have q5 := hc2 w' hSw; go_simp; try rfl)
  try simp only [Act.put, List.setIfInBounds_toArray, List.set_cons_zero, List.set_cons_succ]
  refine' wpAnyH_take (i := 6) (oi := ⟨some 31, _, _, _, _, _⟩) (v := _) rfl (by kernel_rfl) (by kernel_rfl) (by kernel_rfl) (fun _ _ _ h => h) (Or.inl ⟨by rfl, ?y6⟩) (KB.refl _ _) ?r6
  case y6 => (intro w' hSw; go_simp; try rfl)
  try simp only [Act.put, List.setIfInBounds_toArray, List.set_cons_zero, List.set_cons_succ]
  refine' wpAnyH_take (i := 7) (oi := ⟨some 6, _, _, _, _, _⟩) (v := _) rfl (by kernel_rfl) (by kernel_rfl) (by kernel_rfl) (fun _ _ _ h => h) (Or.inl ⟨by rfl, ?y7⟩) (KB.refl _ _) ?r7
  case y7 => (intro w' hSw; go_simp; try rfl)
  try simp only [Act.put, List.setIfInBounds_toArray, List.set_cons_zero, List.set_cons_succ]
  refine wpAnyH_done (by kernel_rfl) ?_ _
  go_wp2_with fail
  go_ret
  exact ⟨rfl, hq2⟩

set_option maxHeartbeats 1000000 in
theorem step_dot (g h : Nat) (N x y : Int) (w : World) (P Q : World → Prop)
    (hw : Calls Try.prog 38 #[.pointer (some ⟨g, 0, none⟩)] (boxed w 3 N) fun e w' => e = .returned (.agg #[.int .i64 x, .int .u64 y]) ∧ P w')
    (hr : ∀ w1, P w1 → Calls Try.prog 47 #[.pointer (some ⟨h, 0, none⟩)] w1 fun e w' => e = .returned (.agg #[.int .i64 x, .int .u64 y]) ∧ Q w') :
    Calls Try.prog 30 #[.pointer (some ⟨g, 0, none⟩), .pointer (some ⟨h, 0, none⟩), .agg #[.int .i64 3, .int .i64 N]] w fun e w' => e = .returned (.bool true) ∧ Q w' := by
  have HW := Lib.hid hw
  have HR := Lib.hid hr
  clear hw hr
  go_enter Try.func30, Try.ntmps30
  go_wp2_with fail
  refine HW.out.mono ?_
  rintro e w1 ⟨rfl, hp1⟩
  go_wp2_with fail
  refine (HR.out _ hp1).mono ?_
  rintro e w2 ⟨rfl, hq2⟩
  go_wp2
  go_ret
  exact ⟨rfl, hq2⟩
set_option maxHeartbeats 1000000 in
theorem step_vec (g h : Nat) (N : Int) (C : Array Value) (vec : List Nat) (hv : Vec C vec) (w : World) (P Q : World → Prop)
    (hw : Calls Try.prog 39 #[.pointer (some ⟨g, 0, none⟩)] (boxed w 4 N) fun e w' => e = .returned (.agg C) ∧ P w')
    (hr : ∀ w1, P w1 → Calls Try.prog 48 #[.pointer (some ⟨h, 0, none⟩)] w1 fun e w' => e = .returned (.agg C) ∧ Q w') :
    Calls Try.prog 30 #[.pointer (some ⟨g, 0, none⟩), .pointer (some ⟨h, 0, none⟩), .agg #[.int .i64 4, .int .i64 N]] w fun e w' => e = .returned (.bool true) ∧ Q w' := by
  have HW := Lib.hid hw
  have HR := Lib.hid hr
  have hvs := vec_self hv
  clear hw hr hv
  go_enter Try.func30, Try.ntmps30
  go_wp2_with fail
  refine HW.out.mono ?_
  rintro e w1 ⟨rfl, hp1⟩
  go_wp2_with fail
  refine (HR.out _ hp1).mono ?_
  rintro e w2 ⟨rfl, hq2⟩
  go_wp2
  go_ret
  exact ⟨rfl, hq2⟩
end Go.Proofs.Yteneicngmglgbaa.RB

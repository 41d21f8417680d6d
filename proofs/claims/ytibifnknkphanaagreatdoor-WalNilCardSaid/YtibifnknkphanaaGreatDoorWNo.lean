/-
  Logs that are not there: what each method answers.
-/
import Derived.Test.YtibifnknkphanaaGreatDoorWOnce
import Derived.Test.YtibifnknkphanaaGreatDoorWLawBytes
import Derived.Test.YtibifnknkphanaaGreatDoorWAppA
namespace Go.Proofs.YtibifnknkphanaaGreatDoor
open Go.RowKit Go.Maps
open DskM WalM
set_option linter.unusedVariables false
set_option linter.unusedSimpArgs false
set_option maxRecDepth 20000
attribute [local go_sem] Oper.semAt_some

/-- At a no log stands, from w on. -/
def NoLog (w : World) (a : Option Addr) : Prop := ∀ W, Below w.heap.size w W → Calls Tryz.prog 69 #[.pointer a] W fun e W' => e = .returned (.bool true) ∧ W' = W
theorem NoLog.nil (w : World) : NoLog w none := fun W _ => wnone_nil W
theorem NoLog.zero {w : World} {g : Nat} {cs : Array Value} (h : Blk w g 60 cs) (h0 : cs[0]? = some (.pointer none)) : NoLog w (some ⟨g, 0, none⟩) := fun W hb => wnone_zero (h.below hb h.lt) h0
theorem NoLog.below {w w' : World} {a : Option Addr} (h : NoLog w a) (hb : Below w.heap.size w w') : NoLog w' a := fun W hW => h W (hb.trans (hW.mono hb.size))
section
variable {w : World} {a : Option Addr}
theorem no_refuses (hn : NoLog w a) (long : Int) : Calls Tryz.prog 58 #[.pointer a, .int .i64 long] w fun e w' => e = .returned (.int .i64 1) ∧ w' = w := by
  have HN := Lib.hid (hn w (Below.refl _ _))
  clear hn
  go_enter Tryz.func58, Tryz.ntmps58
  go_wp2_with fail
  refine HN.out.mono ?_
  rintro e wx ⟨rfl, hwx⟩
  rw [hwx]
  clear hwx wx HN
  go_wp2
  go_ret
  exact ⟨rfl, rfl⟩
theorem no_append (hn : NoLog w a) : Calls Tryz.prog 20 #[.pointer a, .slice none 0 0] w fun e w' => e = .returned (.int .i64 1) ∧ Below w.heap.size w w' := by
  obtain ⟨w1, hw1⟩ : ∃ w1, w1 = w.alloc (.cells #[.pointer a] 40) := ⟨_, rfl⟩
  have hb1 : Below w.heap.size w w1 := by rw [hw1]; exact al_one w _
  have k0 : Blk w1 w.heap.size 40 #[.pointer a] := by rw [hw1]; exact Blk.new w _ _
  have HRC := Lib.hid (record_any (.slice none 0 0) [] w1 (Sl.nil none 0) (by simp))
  have HW1 := Lib.hid hw1
  have HX := Lib.hid (And.intro hb1 (And.intro k0 hn))
  clear hw1 hb1 k0 hn
  go_enter Tryz.func20, Tryz.ntmps20
  go_wp2_with fail
  rw [← HW1.out]
  refine HRC.out.mono ?_
  rintro e w2 ⟨v2, rfl, ho2, hb2⟩
  obtain ⟨br, cr, hv2, hcr, hbr⟩ := own_some ho2 (by rw [recP_length]; omega)
  subst hv2
  obtain ⟨rl, hrl⟩ : ∃ rl, rl = (recP []).length := ⟨_, rfl⟩
  rw [← hrl]
  obtain ⟨w3, hw3⟩ : ∃ w3, w3 = w2.alloc (.cells #[.slice (some ⟨br, 0, none⟩) rl cr] 22) := ⟨_, rfl⟩
  have hb3 : Below w2.heap.size w2 w3 := by rw [hw3]; exact al_one w2 _
  have hb13 : Below w1.heap.size w1 w3 := hb2.trans (hb3.mono hb2.size)
  have hb03 : Below w.heap.size w w3 := HX.out.1.trans (hb13.mono HX.out.1.size)
  have c0 : w3.cell? ⟨w.heap.size, 0, none⟩ = some (.pointer a) := by rw [(HX.out.2.1.below hb13 HX.out.2.1.lt).cell]; rfl
  have HRF := Lib.hid (no_refuses (HX.out.2.2.below hb03) 0)
  have HW3 := Lib.hid hw3
  have HB := Lib.hid hb03
  rw [hw3] at c0
  clear ho2 hb2 hcr hbr hrl hw3 hb3 hb13 hb03 HRC
  go_wp2_with fail
  try rw [← HW3.out]
  refine HRF.out.mono ?_
  rintro e wx ⟨rfl, hwx⟩
  rw [hwx]
  clear hwx wx HRF
  go_wp2
  go_ret
  exact ⟨rfl, HB.out⟩
theorem no_sync (hn : NoLog w a) : Calls Tryz.prog 21 #[.pointer a] w fun e w' => e = .returned (.int .i64 1) ∧ Below w.heap.size w w' := by
  obtain ⟨w1, hw1⟩ : ∃ w1, w1 = w.alloc (.cells #[.pointer a] 40) := ⟨_, rfl⟩
  have hb1 : Below w.heap.size w w1 := by rw [hw1]; exact al_one w _
  have k0 : w1.cell? ⟨w.heap.size, 0, none⟩ = some (.pointer a) := by rw [hw1, (Blk.new w _ _).cell]; rfl
  have HRF := Lib.hid (no_refuses (hn.below hb1) 0)
  have HW1 := Lib.hid hw1
  have HB := Lib.hid hb1
  rw [hw1] at k0
  clear hw1 hb1 hn
  go_enter Tryz.func21, Tryz.ntmps21
  go_wp2_with fail
  try rw [← HW1.out]
  refine HRF.out.mono ?_
  rintro e wx ⟨rfl, hwx⟩
  rw [hwx]
  clear hwx wx HRF
  go_wp2
  go_ret
  exact ⟨rfl, HB.out⟩
theorem no_turn (hn : NoLog w a) : Calls Tryz.prog 22 #[.pointer a, .slice none 0 0] w fun e w' => e = .returned (.int .i64 1) ∧ Below w.heap.size w w' := by
  have HRC := Lib.hid (record_any (.slice none 0 0) [] w (Sl.nil none 0) (by simp))
  have HN := Lib.hid hn
  clear hn
  go_enter Tryz.func22, Tryz.ntmps22
  go_wp2_with fail
  refine HRC.out.mono ?_
  rintro e w2 ⟨v2, rfl, ho2, hb2⟩
  obtain ⟨br, cr, hv2, hcr, hbr⟩ := own_some ho2 (by rw [recP_length]; omega)
  subst hv2
  obtain ⟨rl, hrl⟩ : ∃ rl, rl = (recP []).length := ⟨_, rfl⟩
  rw [← hrl]
  have HRF := Lib.hid (no_refuses (HN.out.below hb2) 0)
  have HB := Lib.hid hb2
  clear ho2 hb2 hcr hbr hrl HRC
  go_wp2_with fail
  refine HRF.out.mono ?_
  rintro e wx ⟨rfl, hwx⟩
  rw [hwx]
  clear hwx wx HRF
  go_wp2
  go_ret
  exact ⟨rfl, HB.out⟩
theorem no_segment (hn : NoLog w a) : Calls Tryz.prog 40 #[.pointer a] w fun e w' => e = .returned (.int .i64 0) ∧ w' = w := by
  have HN := Lib.hid (hn w (Below.refl _ _))
  clear hn
  go_enter Tryz.func40, Tryz.ntmps40
  go_wp2_with fail
  refine HN.out.mono ?_
  rintro e wx ⟨rfl, hwx⟩
  rw [hwx]
  clear hwx wx HN
  go_wp2
  go_ret
  exact ⟨rfl, rfl⟩
theorem no_size (hn : NoLog w a) : Calls Tryz.prog 27 #[.pointer a] w fun e w' => e = .returned (.int .i64 0) ∧ w' = w := by
  have HN := Lib.hid (hn w (Below.refl _ _))
  clear hn
  go_enter Tryz.func27, Tryz.ntmps27
  go_wp2_with fail
  refine HN.out.mono ?_
  rintro e wx ⟨rfl, hwx⟩
  rw [hwx]
  clear hwx wx HN
  go_wp2
  go_ret
  exact ⟨rfl, rfl⟩
theorem no_len (hn : NoLog w a) : Calls Tryz.prog 39 #[.pointer a] w fun e w' => e = .returned (.int .i64 0) ∧ w' = w := by
  have HN := Lib.hid (hn w (Below.refl _ _))
  clear hn
  go_enter Tryz.func39, Tryz.ntmps39
  go_wp2_with fail
  refine HN.out.mono ?_
  rintro e wx ⟨rfl, hwx⟩
  rw [hwx]
  clear hwx wx HN
  go_wp2
  go_ret
  exact ⟨rfl, rfl⟩
theorem no_synced (hn : NoLog w a) : Calls Tryz.prog 41 #[.pointer a] w fun e w' => e = .returned (.int .i64 0) ∧ w' = w := by
  have HN := Lib.hid (hn w (Below.refl _ _))
  clear hn
  go_enter Tryz.func41, Tryz.ntmps41
  go_wp2_with fail
  refine HN.out.mono ?_
  rintro e wx ⟨rfl, hwx⟩
  rw [hwx]
  clear hwx wx HN
  go_wp2
  go_ret
  exact ⟨rfl, rfl⟩
theorem no_big (hn : NoLog w a) : Calls Tryz.prog 28 #[.pointer a] w fun e w' => e = .returned (.bool false) ∧ Below w.heap.size w w' := by
  have hfo : Tryz.prog.follows .mixedOrders = true := by kernel_rfl
  have HN := Lib.hid (fun W hb => hn W hb)
  clear hn
  go_enter Tryz.func28, Tryz.ntmps28
  go_wp2_with fail
  have HB := Lib.hid (show ∀ X, Below w.heap.size w.drew X → Below w.heap.size w X from fun X hX => (Below.refl _ w).drew.trans hX)
  refine wp_region_held_drew (S := fun X => Below w.heap.size w.drew X) hfo (Below.refl _ _) (fun hS0 => ?_)
  generalize w.drew = Z0 at hS0 HB ⊢
  refine' wpAnyH_take (i := 0) (oi := ⟨some 3, _, _, _, _, _⟩) (v := _) rfl (by kernel_rfl) (by kernel_rfl) (by kernel_rfl) (fun _ _ _ h => h) (Or.inl ⟨by rfl, ?y0b⟩) hS0 ?r0b
  case y0b => (intro w' hSw; go_simp; try rfl)
  try simp only [Act.put, List.setIfInBounds_toArray, List.set_cons_zero, List.set_cons_succ]
  refine held_one (i := 1) (by kernel_rfl) rfl (fun Kb hK => ?_)
  go_simp
  refine (HN.out _ (HB.out _ hS0)).mono ?_
  rintro e wx ⟨rfl, hwx⟩
  rw [hwx]
  clear hwx wx
  refine hK.out _ _ hS0 (fun _ => ?_)
  clear hK Kb
  try simp only [Act.put, List.setIfInBounds_toArray, List.set_cons_zero, List.set_cons_succ]
  refine' wpAnyH_take (i := 2) (oi := ⟨some 5, _, _, _, _, _⟩) (v := _) rfl (by kernel_rfl) (by kernel_rfl) (by kernel_rfl) (fun _ _ _ h => h) (Or.inl ⟨by rfl, ?y2b⟩) hS0 ?r2b
  case y2b => (intro w' hSw; go_simp; try rfl)
  try simp only [Act.put, List.setIfInBounds_toArray, List.set_cons_zero, List.set_cons_succ]
  refine' wpAnyH_take (i := 3) (oi := ⟨some 6, _, _, _, _, _⟩) (v := _) rfl (by kernel_rfl) (by kernel_rfl) (by kernel_rfl) (fun _ _ _ h => h) (Or.inl ⟨by rfl, ?y3b⟩) hS0 ?r3b
  case y3b => (intro w' hSw; go_simp; try rfl)
  try simp only [Act.put, List.setIfInBounds_toArray, List.set_cons_zero, List.set_cons_succ]
  refine' wpAnyH_take (i := 4) (oi := ⟨some 7, _, _, _, _, _⟩) (v := undef) rfl (by kernel_rfl) (by kernel_rfl) (by kernel_rfl) (fun _ _ _ h => h) (Or.inr ⟨by rfl, rfl⟩) hS0 ?r4b
  try simp only [Act.put, List.setIfInBounds_toArray, List.set_cons_zero, List.set_cons_succ]
  refine' wpAnyH_take (i := 5) (oi := ⟨some 8, _, _, _, _, _⟩) (v := undef) rfl (by kernel_rfl) (by kernel_rfl) (by kernel_rfl) (fun _ _ _ h => h) (Or.inr ⟨by rfl, rfl⟩) hS0 ?r5b
  try simp only [Act.put, List.setIfInBounds_toArray, List.set_cons_zero, List.set_cons_succ]
  refine' wpAnyH_take (i := 6) (oi := ⟨some 9, _, _, _, _, _⟩) (v := undef) rfl (by kernel_rfl) (by kernel_rfl) (by kernel_rfl) (fun _ _ _ h => h) (Or.inr ⟨by rfl, rfl⟩) hS0 ?r6b
  try simp only [Act.put, List.setIfInBounds_toArray, List.set_cons_zero, List.set_cons_succ]
  refine' wpAnyH_take (i := 7) (oi := ⟨some 10, _, _, _, _, _⟩) (v := undef) rfl (by kernel_rfl) (by kernel_rfl) (by kernel_rfl) (fun _ _ _ h => h) (Or.inr ⟨by rfl, rfl⟩) hS0 ?r7b
  try simp only [Act.put, List.setIfInBounds_toArray, List.set_cons_zero, List.set_cons_succ]
  refine' wpAnyH_take (i := 8) (oi := ⟨some 11, _, _, _, _, _⟩) (v := undef) rfl (by kernel_rfl) (by kernel_rfl) (by kernel_rfl) (fun _ _ _ h => h) (Or.inr ⟨by rfl, rfl⟩) hS0 ?r8b
  try simp only [Act.put, List.setIfInBounds_toArray, List.set_cons_zero, List.set_cons_succ]
  refine' wpAnyH_take (i := 9) (oi := ⟨some 12, _, _, _, _, _⟩) (v := undef) rfl (by kernel_rfl) (by kernel_rfl) (by kernel_rfl) (fun _ _ _ h => h) (Or.inr ⟨by rfl, rfl⟩) hS0 ?r9b
  try simp only [Act.put, List.setIfInBounds_toArray, List.set_cons_zero, List.set_cons_succ]
  refine' wpAnyH_take (i := 10) (oi := ⟨some 13, _, _, _, _, _⟩) (v := undef) rfl (by kernel_rfl) (by kernel_rfl) (by kernel_rfl) (fun _ _ _ h => h) (Or.inr ⟨by rfl, rfl⟩) hS0 ?r10b
  try simp only [Act.put, List.setIfInBounds_toArray, List.set_cons_zero, List.set_cons_succ]
  refine' wpAnyH_take (i := 11) (oi := ⟨some 14, _, _, _, _, _⟩) (v := undef) rfl (by kernel_rfl) (by kernel_rfl) (by kernel_rfl) (fun _ _ _ h => h) (Or.inr ⟨by rfl, rfl⟩) hS0 ?r11b
  try simp only [Act.put, List.setIfInBounds_toArray, List.set_cons_zero, List.set_cons_succ]
  refine' wpAnyH_take (i := 12) (oi := ⟨some 15, _, _, _, _, _⟩) (v := undef) rfl (by kernel_rfl) (by kernel_rfl) (by kernel_rfl) (fun _ _ _ h => h) (Or.inr ⟨by rfl, rfl⟩) hS0 ?r12b
  try simp only [Act.put, List.setIfInBounds_toArray, List.set_cons_zero, List.set_cons_succ]
  refine' wpAnyH_take (i := 13) (oi := ⟨some 16, _, _, _, _, _⟩) (v := undef) rfl (by kernel_rfl) (by kernel_rfl) (by kernel_rfl) (fun _ _ _ h => h) (Or.inr ⟨by rfl, rfl⟩) hS0 ?r13b
  try simp only [Act.put, List.setIfInBounds_toArray, List.set_cons_zero, List.set_cons_succ]
  refine' wpAnyH_take (i := 14) (oi := ⟨some 17, _, _, _, _, _⟩) (v := _) rfl (by kernel_rfl) (by kernel_rfl) (by kernel_rfl) (fun _ _ _ h => h) (Or.inl ⟨by rfl, ?y14b⟩) hS0 ?r14b
  case y14b => (intro w' hSw; go_simp; try rfl)
  try simp only [Act.put, List.setIfInBounds_toArray, List.set_cons_zero, List.set_cons_succ]
  refine' wpAnyH_take (i := 15) (oi := ⟨some 2, _, _, _, _, _⟩) (v := _) rfl (by kernel_rfl) (by kernel_rfl) (by kernel_rfl) (fun _ _ _ h => h) (Or.inl ⟨by rfl, ?y15b⟩) hS0 ?r15b
  case y15b => (intro w' hSw; go_simp; try rfl)
  try simp only [Act.put, List.setIfInBounds_toArray, List.set_cons_zero, List.set_cons_succ]
  refine wpAnyH_done (by kernel_rfl) ?_ _
  have HZ := Lib.hid (HB.out _ hS0)
  clear hS0 HB HN
  go_wp2
  go_ret
  exact ⟨rfl, HZ.out⟩
theorem wnothing_any (hn : NoLog w a) : Calls Tryz.prog 29 #[.pointer a] w fun e w' => e = .returned (.bool true) ∧ Below w.heap.size w w' := by
  have hfo : Tryz.prog.follows .mixedOrders = true := by kernel_rfl
  have HN := Lib.hid hn
  have HO := Lib.hid (fun W (hb : Below w.heap.size w W) => wonce_any (fun _ => False) (fun _ => False) a W [] [] (.slice none 0 0) (recsOk_no (fun X hX => hn X (hb.trans (hX.mono hb.size))) _ _) (fun _ h => h.elim) (by simp) (by simp) (Sls.nil W none 0))
  clear hn
  go_enter Tryz.func29, Tryz.ntmps29
  go_wp2_with fail
  refine (no_append HN.out).mono ?_
  rintro e x1 ⟨rfl, hb⟩
  have HBx1 := Lib.hid (hb)
  clear hb
  go_wp2_with fail
  refine (lnum_any 1 _).mono ?_
  rintro e wx ⟨rfl, hwx⟩
  rw [hwx]
  clear hwx wx
  go_wp2_with fail
  refine (no_sync (HN.out.below HBx1.out)).mono ?_
  rintro e x2 ⟨rfl, hb⟩
  have HBx2 := Lib.hid (HBx1.out.trans (hb.mono HBx1.out.size))
  clear hb
  go_wp2_with fail
  refine (lnum_any 1 _).mono ?_
  rintro e wx ⟨rfl, hwx⟩
  rw [hwx]
  clear hwx wx
  go_wp2_with fail
  refine (no_turn (HN.out.below HBx2.out)).mono ?_
  rintro e x3 ⟨rfl, hb⟩
  have HBx3 := Lib.hid (HBx2.out.trans (hb.mono HBx2.out.size))
  clear hb
  go_wp2_with fail
  refine (lnum_any 1 _).mono ?_
  rintro e wx ⟨rfl, hwx⟩
  rw [hwx]
  clear hwx wx
  go_wp2_with fail
  refine (wsnap_no ((HN.out.below HBx3.out) _ (Below.refl _ _))).mono ?_
  rintro e wx ⟨rfl, hwx⟩
  rw [hwx]
  clear hwx wx
  go_wp2_with fail
  refine (HO.out _ HBx3.out).mono ?_
  rintro e x4 ⟨rfl, hb⟩
  try simp only [decide_true]
  have HBx4 := Lib.hid (HBx3.out.trans (hb.mono HBx3.out.size))
  clear hb
  go_wp2_with fail
  refine (no_big (HN.out.below HBx4.out)).mono ?_
  rintro e x5 ⟨rfl, hb⟩
  have HBx5 := Lib.hid (HBx4.out.trans (hb.mono HBx4.out.size))
  clear hb
  go_wp2_with fail
  refine (no_segment (HN.out.below HBx5.out)).mono ?_
  rintro e wx ⟨rfl, hwx⟩
  rw [hwx]
  clear hwx wx
  go_wp2_with fail
  refine (no_size (HN.out.below HBx5.out)).mono ?_
  rintro e wx ⟨rfl, hwx⟩
  rw [hwx]
  clear hwx wx
  go_wp2_with fail
  refine (no_len (HN.out.below HBx5.out)).mono ?_
  rintro e wx ⟨rfl, hwx⟩
  rw [hwx]
  clear hwx wx
  go_wp2_with fail
  refine (no_synced (HN.out.below HBx5.out)).mono ?_
  rintro e wx ⟨rfl, hwx⟩
  rw [hwx]
  clear hwx wx
  have HZ := Lib.hid HBx5.out
  go_wp2
  go_ret
  exact ⟨rfl, HZ.out⟩
end
end Go.Proofs.YtibifnknkphanaaGreatDoor

/-
  The walk of a tree's sum: a node is made anew.
-/
import Derived.Test.YtdbhffkfkklehaaDoorMkLeaf
namespace Go.Proofs.YtdbhffkfkklehaaDoor
open Go.RowKit
set_option linter.unusedVariables false
set_option linter.unusedSimpArgs false
set_option maxRecDepth 100000

theorem grown_drew (w : World) (r : Option Nat) : w.grownBy w.drew r := ⟨rfl, rfl, rfl, Nat.le_refl _, fun _ _ _ => rfl⟩

set_option maxHeartbeats 1600000 in
theorem sum_tree (w : World) (g n : Nat) (H : Nat → List UInt8) (h : Tr w g H) (h1 : 1 ≤ n) (h64 : n < 64) (hg : Gl w) :
    Calls Tryd.prog 31 #[.pointer (some ⟨g, 0, none⟩), .int .i64 (n : Int)] w fun e w' => e = .returned (.tuple #[]) ∧ Tr w' g (anew H n) ∧ w.grownBy w' (some g) := by
  have hfo : Tryd.prog.follows .mixedOrders = true := by kernel_rfl
  have HT := Lib.hid h.drew
  have HG := Lib.hid hg.drew
  have HD := Lib.hid (grown_drew w (some g))
  have HE := Lib.hid (show anew H n = upd H n (shaN ([[1], H (2 * n), H (2 * n + 1)].flatten)) by simp [anew, nodeN])
  have HL := Lib.hid (shaN_len32 ([[1], H (2 * n), H (2 * n + 1)].flatten))
  have HF := Lib.hid (show ([[1], H (2 * n), H (2 * n + 1)].flatten).length ≤ 1000000 by simp; rw [h.len _ (by omega), h.len _ (by omega)]; decide)
  clear hg h
  obtain ⟨a, ha⟩ : ∃ a, a = 2 * n := ⟨_, rfl⟩
  obtain ⟨b, hb⟩ : ∃ b, b = 2 * n + 1 := ⟨_, rfl⟩
  have E2 := Lib.hid (show IntKind.i64.wrap (2 * (n : Int)) = (a : Int) by rw [IntKind.wrap_i64]; omega)
  have E3 := Lib.hid (show IntKind.i64.wrap ((a : Int) + 1) = (b : Int) by rw [IntKind.wrap_i64]; omega)
  have BA := Lib.hid (show (a : Int) < 128 by omega)
  have BB := Lib.hid (show (b : Int) < 128 by omega)
  have BN := Lib.hid (show (n : Int) < 128 by omega)
  have ha128 : a < 128 := by omega
  have hb128 : b < 128 := by omega
  rw [← hb, ← ha] at HE HL HF
  clear ha hb
  go_enter Tryd.func31, Tryd.ntmps31
  refine wp_region_held_drew (S := fun X => World.grownBy w.drew X (some g)) hfo (grown_refl _ _) (fun hS0 => ?_)
  generalize w.drew = Z0 at *
  refine' wpAnyH_take (i := 0) (oi := ⟨some 4, _, _, _, _, _⟩) (v := _) rfl (by kernel_rfl) (by kernel_rfl) (by kernel_rfl) (fun _ _ _ h => h) (Or.inl ⟨by rfl, ?y0⟩) hS0 ?r0
  case y0 => (intro w' hSw; go_simp; try rfl)
  try simp only [Act.put, List.setIfInBounds_toArray, List.set_cons_zero, List.set_cons_succ]
  refine' wpAnyH_take (i := 1) (oi := ⟨some 5, _, _, _, _, _⟩) (v := _) rfl (by kernel_rfl) (by kernel_rfl) (by kernel_rfl) (fun _ _ _ h => h) (Or.inl ⟨by rfl, ?y1⟩) hS0 ?r1
  case y1 => (intro w' hSw; go_simp; try rfl)
  try simp only [Act.put, List.setIfInBounds_toArray, List.set_cons_zero, List.set_cons_succ]
  refine' wpAnyH_take (i := 3) (oi := ⟨some 7, _, _, _, _, _⟩) (v := _) rfl (by kernel_rfl) (by kernel_rfl) (by kernel_rfl) (fun _ _ _ h => h) (Or.inl ⟨by rfl, ?y3⟩) hS0 ?r3
  case y3 => (intro w' hSw; go_simp; try rfl)
  try simp only [Act.put, List.setIfInBounds_toArray, List.set_cons_zero, List.set_cons_succ]
  refine' wpAnyH_take (i := 4) (oi := ⟨some 8, _, _, _, _, _⟩) (v := _) rfl (by kernel_rfl) (by kernel_rfl) (by kernel_rfl) (fun _ _ _ h => h) (Or.inl ⟨by rfl, ?y4⟩) hS0 ?r4
  case y4 => (intro w' hSw; go_simp; try rfl)
  try simp only [Act.put, List.setIfInBounds_toArray, List.set_cons_zero, List.set_cons_succ]
  refine' wpAnyH_take (i := 5) (oi := ⟨some 9, _, _, _, _, _⟩) (v := _) rfl (by kernel_rfl) (by kernel_rfl) (by kernel_rfl) (fun _ _ _ h => h) (Or.inl ⟨by rfl, ?y5⟩) hS0 ?r5
  case y5 => (intro w' hSw; go_simp; rw [E2.out]; try rfl)
  try simp only [Act.put, List.setIfInBounds_toArray, List.set_cons_zero, List.set_cons_succ]
  refine' wpAnyH_take (i := 6) (oi := ⟨some 10, _, _, _, _, _⟩) (v := _) rfl (by kernel_rfl) (by kernel_rfl) (by kernel_rfl) (fun _ _ _ h => h) (Or.inl ⟨by rfl, ?y6⟩) hS0 ?r6
  case y6 => (intro w' hSw; go_simp; try rfl)
  try simp only [Act.put, List.setIfInBounds_toArray, List.set_cons_zero, List.set_cons_succ]
  refine' wpAnyH_take (i := 7) (oi := ⟨some 11, _, _, _, _, _⟩) (v := _) rfl (by kernel_rfl) (by kernel_rfl) (by kernel_rfl) (fun _ _ _ h => h) (Or.inl ⟨by rfl, ?y7⟩) hS0 ?r7
  case y7 => (intro w' hSw; go_simp; try rfl)
  try simp only [Act.put, List.setIfInBounds_toArray, List.set_cons_zero, List.set_cons_succ]
  refine' wpAnyH_take (i := 8) (oi := ⟨some 12, _, _, _, _, _⟩) (v := _) rfl (by kernel_rfl) (by kernel_rfl) (by kernel_rfl) (fun _ _ _ h => h) (Or.inl ⟨by rfl, ?y8⟩) hS0 ?r8
  case y8 => (intro w' hSw; go_simp; rw [if_pos BA.out]; try rfl)
  try simp only [Act.put, List.setIfInBounds_toArray, List.set_cons_zero, List.set_cons_succ]
  refine' wpAnyH_take (i := 9) (oi := ⟨some 13, _, _, _, _, _⟩) (v := _) rfl (by kernel_rfl) (by kernel_rfl) (by kernel_rfl) (fun _ _ _ h => h) (Or.inl ⟨by rfl, ?y9⟩) hS0 ?r9
  case y9 => (intro w' hSw; go_simp; try rfl)
  try simp only [Act.put, List.setIfInBounds_toArray, List.set_cons_zero, List.set_cons_succ]
  refine' wpAnyH_take (i := 10) (oi := ⟨some 14, _, _, _, _, _⟩) (v := _) rfl (by kernel_rfl) (by kernel_rfl) (by kernel_rfl) (fun _ _ _ h => h) (Or.inl ⟨by rfl, ?y10⟩) hS0 ?r10
  case y10 => (intro w' hSw; go_simp; try rfl)
  try simp only [Act.put, List.setIfInBounds_toArray, List.set_cons_zero, List.set_cons_succ]
  refine' wpAnyH_take (i := 11) (oi := ⟨some 15, _, _, _, _, _⟩) (v := _) rfl (by kernel_rfl) (by kernel_rfl) (by kernel_rfl) (fun _ _ _ h => h) (Or.inl ⟨by rfl, ?y11⟩) hS0 ?r11
  case y11 => (intro w' hSw; go_simp; try rfl)
  try simp only [Act.put, List.setIfInBounds_toArray, List.set_cons_zero, List.set_cons_succ]
  refine' wpAnyH_take (i := 12) (oi := ⟨some 16, _, _, _, _, _⟩) (v := _) rfl (by kernel_rfl) (by kernel_rfl) (by kernel_rfl) (fun _ _ _ h => h) (Or.inl ⟨by rfl, ?y12⟩) hS0 ?r12
  case y12 => (intro w' hSw; go_simp; rw [E2.out]; try rfl)
  try simp only [Act.put, List.setIfInBounds_toArray, List.set_cons_zero, List.set_cons_succ]
  refine' wpAnyH_take (i := 13) (oi := ⟨some 17, _, _, _, _, _⟩) (v := _) rfl (by kernel_rfl) (by kernel_rfl) (by kernel_rfl) (fun _ _ _ h => h) (Or.inl ⟨by rfl, ?y13⟩) hS0 ?r13
  case y13 => (intro w' hSw; go_simp; rw [E3.out]; try rfl)
  try simp only [Act.put, List.setIfInBounds_toArray, List.set_cons_zero, List.set_cons_succ]
  refine' wpAnyH_take (i := 14) (oi := ⟨some 18, _, _, _, _, _⟩) (v := _) rfl (by kernel_rfl) (by kernel_rfl) (by kernel_rfl) (fun _ _ _ h => h) (Or.inl ⟨by rfl, ?y14⟩) hS0 ?r14
  case y14 => (intro w' hSw; go_simp; try rfl)
  try simp only [Act.put, List.setIfInBounds_toArray, List.set_cons_zero, List.set_cons_succ]
  refine' wpAnyH_take (i := 15) (oi := ⟨some 19, _, _, _, _, _⟩) (v := _) rfl (by kernel_rfl) (by kernel_rfl) (by kernel_rfl) (fun _ _ _ h => h) (Or.inl ⟨by rfl, ?y15⟩) hS0 ?r15
  case y15 => (intro w' hSw; go_simp; try rfl)
  try simp only [Act.put, List.setIfInBounds_toArray, List.set_cons_zero, List.set_cons_succ]
  refine' wpAnyH_take (i := 16) (oi := ⟨some 20, _, _, _, _, _⟩) (v := _) rfl (by kernel_rfl) (by kernel_rfl) (by kernel_rfl) (fun _ _ _ h => h) (Or.inl ⟨by rfl, ?y16⟩) hS0 ?r16
  case y16 => (intro w' hSw; go_simp; rw [if_pos BB.out]; try rfl)
  try simp only [Act.put, List.setIfInBounds_toArray, List.set_cons_zero, List.set_cons_succ]
  refine' wpAnyH_take (i := 17) (oi := ⟨some 21, _, _, _, _, _⟩) (v := _) rfl (by kernel_rfl) (by kernel_rfl) (by kernel_rfl) (fun _ _ _ h => h) (Or.inl ⟨by rfl, ?y17⟩) hS0 ?r17
  case y17 => (intro w' hSw; go_simp; try rfl)
  try simp only [Act.put, List.setIfInBounds_toArray, List.set_cons_zero, List.set_cons_succ]
  refine' wpAnyH_take (i := 20) (oi := ⟨some 24, _, _, _, _, _⟩) (v := _) rfl (by kernel_rfl) (by kernel_rfl) (by kernel_rfl) (fun _ _ _ h => h) (Or.inl ⟨by rfl, ?y20⟩) hS0 ?r20
  case y20 => (intro w' hSw; go_simp; try rfl)
  try simp only [Act.put, List.setIfInBounds_toArray, List.set_cons_zero, List.set_cons_succ]
  refine' wpAnyH_take (i := 21) (oi := ⟨some 25, _, _, _, _, _⟩) (v := _) rfl (by kernel_rfl) (by kernel_rfl) (by kernel_rfl) (fun _ _ _ h => h) (Or.inl ⟨by rfl, ?y21⟩) hS0 ?r21
  case y21 => (intro w' hSw; go_simp; try rfl)
  try simp only [Act.put, List.setIfInBounds_toArray, List.set_cons_zero, List.set_cons_succ]
  refine held_one (i := 2) (by kernel_rfl) rfl (fun K hK => ?_)
  go_simp
  have hS1 := hS0.trans (grown_of_below ((Below.refl _ _).alloc (Nat.le_refl _) (.cells #[.int .u8 1] 5)) (some g))
  refine hK.out _ _ hS1 (fun _ => ?_)
  clear hK K
  try simp only [Act.put, List.setIfInBounds_toArray, List.set_cons_zero, List.set_cons_succ]
  refine held_one (i := 18) (by kernel_rfl) rfl (fun K hK => ?_)
  go_simp
  have hS2 := hS1.trans (grown_of_below ((Below.refl _ _).alloc (Nat.le_refl _) (.cells #[.slice (some ⟨Z0.heap.size, 0, none⟩) 1 1, .slice (some ⟨g, 1 + a * 32, none⟩) 32 32, .slice (some ⟨g, 1 + b * 32, none⟩) 32 32] 45)) (some g))
  refine hK.out _ _ hS2 (fun _ => ?_)
  clear hK K
  try simp only [Act.put, List.setIfInBounds_toArray, List.set_cons_zero, List.set_cons_succ]
  have hls := Sls.three (Z0.alloc (.cells #[.int .u8 1] 5)) 45 _ _ _ [1] (H a) (H b) (Sl.one Z0 5 1 1 rfl) ((HT.out.alloc _).node a ha128 32 (Nat.le_refl _)) ((HT.out.alloc _).node b hb128 32 (Nat.le_refl _))
  rw [show (Z0.alloc (.cells #[.int .u8 1] 5)).heap.size = Z0.heap.size + 1 by simp] at hls
  have HG2 := Lib.hid ((HG.out.alloc (.cells #[.int .u8 1] 5)).alloc (.cells #[.slice (some ⟨Z0.heap.size, 0, none⟩) 1 1, .slice (some ⟨g, 1 + a * 32, none⟩) 32 32, .slice (some ⟨g, 1 + b * 32, none⟩) 32 32] 45))
  have HT2 := Lib.hid ((HT.out.alloc (.cells #[.int .u8 1] 5)).alloc (.cells #[.slice (some ⟨Z0.heap.size, 0, none⟩) 1 1, .slice (some ⟨g, 1 + a * 32, none⟩) 32 32, .slice (some ⟨g, 1 + b * 32, none⟩) 32 32] 45))
  have HLS := Lib.hid hls
  clear hls
  refine held_one (i := 19) (by kernel_rfl) rfl (fun K hK => ?_)
  go_simp
  refine (sum_any _ _ _ HLS.out HF.out (by simp) HG2.out).mono ?_
  rintro e Z1 ⟨rfl, hb1⟩
  have hS1 := hS2.trans (grown_of_below hb1 (some g))
  refine hK.out _ _ hS1 (fun _ => ?_)
  clear hK K
  try simp only [Act.put, List.setIfInBounds_toArray, List.set_cons_zero, List.set_cons_succ]
  have HT3 := Lib.hid (HT2.out.past hb1)
  clear hb1 HLS HG2 HT2
  generalize hR : rowB (shaN ([[1], H a, H b].flatten)) = R at *
  have ER := Lib.hid hR
  clear hR
  refine' wpAnyH_take (i := 22) (oi := ⟨some 26, _, _, _, _, _⟩) (v := _) rfl (by kernel_rfl) (by kernel_rfl) (by kernel_rfl) (fun _ _ _ h => h) (Or.inl ⟨by rfl, ?y22⟩) hS1 ?r22
  case y22 => (intro w' hSw; go_simp; rw [if_pos BN.out]; try rfl)
  try simp only [Act.put, List.setIfInBounds_toArray, List.set_cons_zero, List.set_cons_succ]
  have hth : Z1.there g (1 + n * 32) R.size := by rw [← ER.out, rowB_size, HL.out]; exact HT3.out.there _ _ (by omega)
  have hi : (Tryd.prog.info? 39).map (·.size) = some R.size := by rw [← ER.out]; exact rowB_info HL.out
  have hone : R.all (·.oneCell') = true := by rw [← ER.out]; exact rowB_one _
  refine held_one (i := 23) (by kernel_rfl) rfl (fun K hK => ?_)
  rw [if_pos (by rfl)]
  refine wp_store_mid 39 _ _ rfl g (1 + n * 32) R rfl rfl hth hi hone ?_
  have hS4 := hS1.trans (grown_setCells g R.toList (1 + n * 32) Z1)
  refine hK.out _ _ hS4 (fun _ => ?_)
  clear hK K
  try simp only [Act.put, List.setIfInBounds_toArray, List.set_cons_zero, List.set_cons_succ]
  refine wpAnyH_done (by kernel_rfl) ?_ _
  have hE : Tr (Z1.setCells g (1 + n * 32) R.toList) g (anew H n) := by
    rw [← ER.out, rowB_list, HE.out]
    exact HT3.out.set n (by omega) HL.out
  exact bodyPost_end (results_none rfl _ _ _) rfl ⟨rfl, hE, HD.out.trans hS4⟩
end Go.Proofs.YtdbhffkfkklehaaDoor

/-
  The walks of Leaves, Copy, Same of a tree, and of slices.Clone at hashes.
-/
import Derived.Test.YtdbhffkfkklehaaDoorMkEq
namespace Go.Proofs.YtdbhffkfkklehaaDoor
open Go.RowKit
set_option linter.unusedVariables false
set_option linter.unusedSimpArgs false
set_option maxRecDepth 100000

set_option maxHeartbeats 800000 in
theorem clone_hs (a : Addr) (n c : Nat) (L : List (List UInt8)) (w : World) (h : Sh w (.slice (some a) n c) L) (hl : L.length ≤ 100000) :
    Calls Tryd.prog 35 #[.slice (some a) n c] w fun e w' => ∃ v', e = .returned v' ∧ OwnH w' w.heap.size v' L ∧ Below w.heap.size w w' := by
  obtain ⟨i0, hi, hz0, hz1, hz2⟩ := info_parts info_hash
  have heq := fun (w : World) (a : Option Addr) (n c : Nat) => Lib.run_eql_slice_nil (P := Tryd.prog) w 27 39 a n c 0 0 Tryd.underlying27
  have hn := h.sizes.1
  subst hn
  go_enter Tryd.func35, Tryd.ntmps35
  have hO : OwnH (w.alloc (.cells #[] 39)) w.heap.size (.slice (some ⟨w.heap.size, 0, none⟩) 0 0) [] := ⟨fun _ h => (by cases h), World.ownsRow_made w #[] 0 (Nat.le_refl _) (by decide) rfl⟩
  have hS := h.alloc (.cells #[] 39)
  have hlen : ([] : List (List UInt8)).length + L.length ≤ 1000000 := by simp; omega
  have hal : w.heap.size ≤ (w.alloc (.cells #[] 39)).heap.size := by simp
  have hbl : Below w.heap.size w (w.alloc (.cells #[] 39)) := (Below.refl _ _).alloc (Nat.le_refl _) _
  go_wp2_with (at_builtin; refine wpList_append_hs _ rfl _ _ 27 rfl w.heap.size i0 Tryd.underlying27 hi hz0 hz1 hz2 _ [] rfl hO _ L rfl hS hlen hal ?_)
  intro v2 w2 ho2 hb2
  have HO := Lib.hid (show OwnH w2 w.heap.size v2 L by simpa using ho2)
  have HB := Lib.hid (hbl.trans hb2)
  clear ho2 hb2
  go_wp2
  go_ret
  exact ⟨_, rfl, HO.out, HB.out⟩

set_option maxHeartbeats 800000 in
theorem leaves_tree (w : World) (g : Nat) (H : Nat → List UInt8) (h : Tr w g H) :
    Calls Tryd.prog 23 #[.pointer (some ⟨g, 0, none⟩)] w fun e w' => ∃ v', e = .returned v' ∧ OwnH w' w.heap.size v' (leavesOf H) ∧ Below w.heap.size w w' := by
  go_enter Tryd.func23, Tryd.ntmps23
  go_wp2_with fail
  refine (none_tree w h).mono ?_
  rintro e w1 ⟨rfl, rfl⟩
  go_wp2_with fail
  refine (clone_hs ⟨g, 2049, none⟩ 64 64 (leavesOf H) _ h.leaves (by rw [leavesOf_length]; decide)).mono ?_
  rintro e w2 ⟨v2, rfl, ho, hb⟩
  have HO := Lib.hid ho
  have HB := Lib.hid hb
  clear ho hb
  go_wp2
  go_ret
  exact ⟨_, rfl, HO.out, HB.out⟩
theorem leaves_no (w : World) (p : Value) (h : NoTr w p) :
    Calls Tryd.prog 23 #[p] w fun e w' => e = .returned (.slice none 0 0) ∧ w = w' := by
  have hsh : ∃ q, p = .pointer q := by rcases h with rfl | ⟨g, rfl, _⟩ <;> exact ⟨_, rfl⟩
  obtain ⟨q, rfl⟩ := hsh
  go_enter Tryd.func23, Tryd.ntmps23
  go_wp2_with fail
  refine (none_no w _ h).mono ?_
  rintro e w1 ⟨rfl, rfl⟩
  go_wp2
  go_ret
  exact ⟨rfl, rfl⟩
theorem copy_no (w : World) (p : Value) (h : NoTr w p) :
    Calls Tryd.prog 13 #[p] w fun e w' => e = .returned (.pointer none) ∧ w = w' := by
  have hsh : ∃ q, p = .pointer q := by rcases h with rfl | ⟨g, rfl, _⟩ <;> exact ⟨_, rfl⟩
  obtain ⟨q, rfl⟩ := hsh
  go_enter Tryd.func13, Tryd.ntmps13
  go_wp2_with fail
  refine (none_no w _ h).mono ?_
  rintro e w1 ⟨rfl, rfl⟩
  go_wp2
  go_ret
  exact ⟨rfl, rfl⟩

set_option maxHeartbeats 1600000 in
theorem same_tree (w : World) (g k : Nat) (H J : Nat → List UInt8) (h : Tr w g H) (hk : Tr w k J) :
    Calls Tryd.prog 14 #[.pointer (some ⟨g, 0, none⟩), .pointer (some ⟨k, 0, none⟩)] w fun e w' => e = .returned (.bool (decide (leavesOf H = leavesOf J))) ∧ Below w.heap.size w w' := by
  have hfo : Tryd.prog.follows .mixedOrders = true := by kernel_rfl
  have HT := Lib.hid h.drew
  have HK := Lib.hid hk.drew
  have HD := Lib.hid (show Below w.heap.size w w.drew from (Below.refl _ _).drew)
  obtain ⟨Q, hQ⟩ : ∃ Q : Bool, decide (leavesOf H = leavesOf J) = Q := ⟨_, rfl⟩
  have HQ := Lib.hid hQ
  rw [hQ]
  clear hQ
  go_enter Tryd.func14, Tryd.ntmps14
  go_wp2_with fail
  refine (none_tree w h).mono ?_
  rintro e w1 ⟨rfl, rfl⟩
  go_wp2_with fail
  refine (none_tree w hk).mono ?_
  rintro e w1 ⟨rfl, rfl⟩
  go_wp2_with fail
  clear h hk
  refine wp_region_held_drew (S := fun X => World.grownBy w.drew X none) hfo (grown_refl _ _) (fun hS0 => ?_)
  generalize w.drew = Z0 at *
  refine' wpAnyH_take (i := 0) (oi := ⟨some 17, _, _, _, _, _⟩) (v := _) rfl (by kernel_rfl) (by kernel_rfl) (by kernel_rfl) (fun _ _ _ h => h) (Or.inl ⟨by rfl, ?y0⟩) hS0 ?r0
  case y0 => (intro w' hSw; go_simp; try rfl)
  try simp only [Act.put, List.setIfInBounds_toArray, List.set_cons_zero, List.set_cons_succ]
  refine' wpAnyH_take (i := 1) (oi := ⟨some 18, _, _, _, _, _⟩) (v := _) rfl (by kernel_rfl) (by kernel_rfl) (by kernel_rfl) (fun _ _ _ h => h) (Or.inl ⟨by rfl, ?y1⟩) hS0 ?r1
  case y1 => (intro w' hSw; go_simp; try rfl)
  try simp only [Act.put, List.setIfInBounds_toArray, List.set_cons_zero, List.set_cons_succ]
  refine' wpAnyH_take (i := 2) (oi := ⟨some 19, _, _, _, _, _⟩) (v := _) rfl (by kernel_rfl) (by kernel_rfl) (by kernel_rfl) (fun _ _ _ h => h) (Or.inl ⟨by rfl, ?y2⟩) hS0 ?r2
  case y2 => (intro w' hSw; go_simp; try rfl)
  try simp only [Act.put, List.setIfInBounds_toArray, List.set_cons_zero, List.set_cons_succ]
  refine' wpAnyH_take (i := 3) (oi := ⟨some 20, _, _, _, _, _⟩) (v := _) rfl (by kernel_rfl) (by kernel_rfl) (by kernel_rfl) (fun _ _ _ h => h) (Or.inl ⟨by rfl, ?y3⟩) hS0 ?r3
  case y3 => (intro w' hSw; go_simp; try rfl)
  try simp only [Act.put, List.setIfInBounds_toArray, List.set_cons_zero, List.set_cons_succ]
  refine' wpAnyH_take (i := 4) (oi := ⟨some 21, _, _, _, _, _⟩) (v := _) rfl (by kernel_rfl) (by kernel_rfl) (by kernel_rfl) (fun _ _ _ h => h) (Or.inl ⟨by rfl, ?y4⟩) hS0 ?r4
  case y4 => (intro w' hSw; go_simp; try rfl)
  try simp only [Act.put, List.setIfInBounds_toArray, List.set_cons_zero, List.set_cons_succ]
  refine' wpAnyH_take (i := 5) (oi := ⟨some 22, _, _, _, _, _⟩) (v := _) rfl (by kernel_rfl) (by kernel_rfl) (by kernel_rfl) (fun _ _ _ h => h) (Or.inl ⟨by rfl, ?y5⟩) hS0 ?r5
  case y5 => (intro w' hSw; go_simp; try rfl)
  try simp only [Act.put, List.setIfInBounds_toArray, List.set_cons_zero, List.set_cons_succ]
  refine' wpAnyH_take (i := 6) (oi := ⟨some 23, _, _, _, _, _⟩) (v := _) rfl (by kernel_rfl) (by kernel_rfl) (by kernel_rfl) (fun _ _ _ h => h) (Or.inl ⟨by rfl, ?y6⟩) hS0 ?r6
  case y6 => (intro w' hSw; go_simp; try rfl)
  try simp only [Act.put, List.setIfInBounds_toArray, List.set_cons_zero, List.set_cons_succ]
  refine' wpAnyH_take (i := 7) (oi := ⟨some 24, _, _, _, _, _⟩) (v := _) rfl (by kernel_rfl) (by kernel_rfl) (by kernel_rfl) (fun _ _ _ h => h) (Or.inl ⟨by rfl, ?y7⟩) hS0 ?r7
  case y7 => (intro w' hSw; go_simp; try rfl)
  try simp only [Act.put, List.setIfInBounds_toArray, List.set_cons_zero, List.set_cons_succ]
  refine held_one (i := 8) (by kernel_rfl) rfl (fun K hK => ?_)
  go_simp
  refine (equalH_any _ _ (leavesOf H) (leavesOf J) Z0 HT.out.leaves HK.out.leaves (by rw [leavesOf_length]; decide) (by rw [leavesOf_length]; decide)).mono ?_
  rintro e Z1 ⟨rfl, hb1⟩
  have hS1 := hS0.trans (grown_of_below hb1 none)
  refine hK.out _ _ hS1 (fun _ => ?_)
  clear hK K
  try simp only [Act.put, List.setIfInBounds_toArray, List.set_cons_zero, List.set_cons_succ]
  refine' wpAnyH_take (i := 9) (oi := ⟨some 4, _, _, _, _, _⟩) (v := _) rfl (by kernel_rfl) (by kernel_rfl) (by kernel_rfl) (fun _ _ _ h => h) (Or.inl ⟨by rfl, ?y9⟩) hS1 ?r9
  case y9 => (intro w' hSw; go_simp; try rfl)
  try simp only [Act.put, List.setIfInBounds_toArray, List.set_cons_zero, List.set_cons_succ]
  refine wpAnyH_done (by kernel_rfl) ?_ _
  have HB := Lib.hid (HD.out.trans (hb1.mono HD.out.size))
  clear hb1
  go_wp2
  go_ret
  exact ⟨ret_bool (HQ.out), HB.out⟩
theorem same_no (w : World) (p q : Value) (hp : NoTr w p) (hq : NoTr w q) :
    Calls Tryd.prog 14 #[p, q] w fun e w' => e = .returned (.bool true) ∧ w = w' := by
  have hsh : ∃ q, p = .pointer q := by rcases hp with rfl | ⟨g, rfl, _⟩ <;> exact ⟨_, rfl⟩
  obtain ⟨p, rfl⟩ := hsh
  have hsh : ∃ p, q = .pointer p := by rcases hq with rfl | ⟨g, rfl, _⟩ <;> exact ⟨_, rfl⟩
  obtain ⟨q, rfl⟩ := hsh
  go_enter Tryd.func14, Tryd.ntmps14
  go_wp2_with fail
  refine (none_no w _ hp).mono ?_
  rintro e w1 ⟨rfl, rfl⟩
  go_wp2_with fail
  refine (none_no w _ hp).mono ?_
  rintro e w1 ⟨rfl, rfl⟩
  go_wp2_with fail
  refine (none_no w _ hq).mono ?_
  rintro e w1 ⟨rfl, rfl⟩
  go_wp2
  go_ret
  exact ⟨rfl, rfl⟩
theorem same_one (w : World) (p : Value) (g : Nat) (H : Nat → List UInt8) (hp : NoTr w p) (h : Tr w g H) :
    Calls Tryd.prog 14 #[p, .pointer (some ⟨g, 0, none⟩)] w fun e w' => e = .returned (.bool false) ∧ w = w' := by
  have hsh : ∃ q, p = .pointer q := by rcases hp with rfl | ⟨g, rfl, _⟩ <;> exact ⟨_, rfl⟩
  obtain ⟨p, rfl⟩ := hsh
  go_enter Tryd.func14, Tryd.ntmps14
  go_wp2_with fail
  refine (none_no w _ hp).mono ?_
  rintro e w1 ⟨rfl, rfl⟩
  go_wp2_with fail
  refine (none_no w _ hp).mono ?_
  rintro e w1 ⟨rfl, rfl⟩
  go_wp2_with fail
  refine (none_tree w h).mono ?_
  rintro e w1 ⟨rfl, rfl⟩
  go_wp2
  go_ret
  exact ⟨rfl, rfl⟩
theorem same_two (w : World) (p : Value) (g : Nat) (H : Nat → List UInt8) (hp : NoTr w p) (h : Tr w g H) :
    Calls Tryd.prog 14 #[.pointer (some ⟨g, 0, none⟩), p] w fun e w' => e = .returned (.bool false) ∧ w = w' := by
  have hsh : ∃ q, p = .pointer q := by rcases hp with rfl | ⟨g, rfl, _⟩ <;> exact ⟨_, rfl⟩
  obtain ⟨p, rfl⟩ := hsh
  go_enter Tryd.func14, Tryd.ntmps14
  go_wp2_with fail
  refine (none_tree w h).mono ?_
  rintro e w1 ⟨rfl, rfl⟩
  go_wp2_with fail
  refine (none_no w _ hp).mono ?_
  rintro e w1 ⟨rfl, rfl⟩
  go_wp2_with fail
  refine (none_tree w h).mono ?_
  rintro e w1 ⟨rfl, rfl⟩
  go_wp2
  go_ret
  exact ⟨rfl, rfl⟩
end Go.Proofs.YtdbhffkfkklehaaDoor

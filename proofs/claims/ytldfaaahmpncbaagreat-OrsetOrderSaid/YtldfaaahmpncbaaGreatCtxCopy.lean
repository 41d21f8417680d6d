/-
  The walks of Copy: the program's, and the document's.
-/
import Derived.Test.YtldfaaahmpncbaaGreatCtxSame
namespace Go.Proofs.YtldfaaahmpncbaaGreat
open Go.RowKit
open CtxM
set_option linter.unusedVariables false
set_option linter.unusedSimpArgs false
set_option maxRecDepth 20000

theorem list16 {V : List Nat} (h : V.length = 16) : ∃ a0  a1  a2  a3  a4  a5  a6  a7  a8  a9  a10  a11  a12  a13  a14  a15, V = [a0, a1, a2, a3, a4, a5, a6, a7, a8, a9, a10, a11, a12, a13, a14, a15] := by
  match V, h with
  | [a0, a1, a2, a3, a4, a5, a6, a7, a8, a9, a10, a11, a12, a13, a14, a15], _ => exact ⟨_, _, _, _, _, _, _, _, _, _, _, _, _, _, _, _, rfl⟩
theorem cx_new (w : World) (V : List Nat) (X : List Dt) (v : Value) (ho : OwnD w 0 v X) (hf : Fit V X) : Cx (w.alloc (.cells (cxc V v) 109)) w.heap.size v V X :=
  ⟨Blk.new _ _ _, ho.alloc _, (fun e => by have := (ho.lt _ e).2; omega), hf⟩
theorem sx_new (w : World) (V : List Nat) (X : List Dt) (v : Value) (ho : OwnD w 0 v X) (hf : Fit V X) : Sx (w.alloc (.cells (sxc V v) 32)) w.heap.size v V X :=
  ⟨Blk.new _ _ _, (ho.alloc _).sd, (fun i hi => by have := (ho.lt _ hi).2; simp; omega), (fun e => by have := (ho.lt _ e).2; omega), hf⟩

set_option maxHeartbeats 4000000 in
theorem copy_any (g : Nat) (v : Value) (V : List Nat) (X : List Dt) (w : World) (hc : Cx w g v V X) (hl : X.length ≤ 100000) :
    Calls Tryz.prog 49 #[.pointer (some ⟨g, 0, none⟩)] w fun e w' => ∃ h v', e = .returned (.pointer (some ⟨h, 0, none⟩)) ∧ Cx w' h v' V X ∧ (∀ j, Foot h v' j → w.heap.size ≤ j) ∧ Below w.heap.size w w' := by
  have hfo : Tryz.prog.follows .mixedOrders = true := by kernel_rfl
  have hn1 := none_at g true w hc.made
  have Hc := Lib.hid hc
  clear hc
  go_enter Tryz.func49, Tryz.ntmps49
  go_wp2_with fail
  refine hn1.mono ?_
  rintro e w1 ⟨rfl, rfl⟩
  go_wp2_with fail
  clear hn1
  refine held_begin hfo ?_
  have Cc := Cx.below Hc.out (Below.refl _ _).drew
  have Hb1 : Below w1.heap.size w1 w1.drew := (Below.refl _ _).drew
  have hsz : w1.drew.heap.size = w1.heap.size := rfl
  clear Hc
  generalize w1.drew = W2 at Cc Hb1 hsz ⊢
  have rc := Cc.range
  have pc := Cc.extra
  have hV := Cc.fit.len
  have hcl := clone_any v X W2 Cc.row hl
  obtain ⟨A, c, rfl, _⟩ := Cc.row.sd
  refine' wpAnyH_take (i := 0) (oi := ⟨some 5, _, _, _, _, _⟩) (v := _) rfl (by kernel_rfl) (by kernel_rfl) (by kernel_rfl) (fun _ _ _ h => h) (Or.inl ⟨by rfl, ?y0⟩) (Keeps.refl _) ?ry0
  case y0 => (intro w' hSw; go_simp; try rfl)
  try simp only [Act.put, List.setIfInBounds_toArray, List.set_cons_zero, List.set_cons_succ]
  refine' wpAnyH_take (i := 1) (oi := ⟨some 6, _, _, _, _, _⟩) (v := _) rfl (by kernel_rfl) (by kernel_rfl) (by kernel_rfl) (fun _ _ _ h => h) (Or.inl ⟨by rfl, ?y1⟩) (Keeps.refl _) ?ry1
  case y1 => (intro w' hSw; go_simp; try rfl)
  try simp only [Act.put, List.setIfInBounds_toArray, List.set_cons_zero, List.set_cons_succ]
  refine' wpAnyH_take (i := 2) (oi := ⟨some 7, _, _, _, _, _⟩) (v := _) rfl (by kernel_rfl) (by kernel_rfl) (by kernel_rfl) (fun _ _ _ h => h) (Or.inl ⟨by rfl, ?y2⟩) (Keeps.refl _) ?ry2
  case y2 => (intro w' hSw; go_simp; try rfl)
  try simp only [Act.put, List.setIfInBounds_toArray, List.set_cons_zero, List.set_cons_succ]
  refine' wpAnyH_take (i := 3) (oi := ⟨some 8, _, _, _, _, _⟩) (v := _) rfl (by kernel_rfl) (by kernel_rfl) (by kernel_rfl) (fun _ _ _ h => h) (yieldsIf_load_mid (by rfl) 97 (.tmp 7) rfl g 1 rfl (V.map uq) _ (fun w' hSw => Keeps.range rc hSw) Tryz.underlying97 rfl (by rw [info_vec, List.length_map, hV])) (Keeps.refl _) ?ry3
  try simp only [Act.put, List.setIfInBounds_toArray, List.set_cons_zero, List.set_cons_succ]
  refine' wpAnyH_take (i := 4) (oi := ⟨some 9, _, _, _, _, _⟩) (v := _) rfl (by kernel_rfl) (by kernel_rfl) (by kernel_rfl) (fun _ _ _ h => h) (Or.inl ⟨by rfl, ?y4⟩) (Keeps.refl _) ?ry4
  case y4 => (intro w' hSw; go_simp; try rfl)
  try simp only [Act.put, List.setIfInBounds_toArray, List.set_cons_zero, List.set_cons_succ]
  refine' wpAnyH_take (i := 5) (oi := ⟨some 10, _, _, _, _, _⟩) (v := _) rfl (by kernel_rfl) (by kernel_rfl) (by kernel_rfl) (fun _ _ _ h => h) (Or.inl ⟨by rfl, ?y5⟩) (Keeps.refl _) ?ry5
  case y5 => (intro w' hSw; go_simp; try rfl)
  try simp only [Act.put, List.setIfInBounds_toArray, List.set_cons_zero, List.set_cons_succ]
  refine' wpAnyH_take (i := 6) (oi := ⟨some 11, _, _, _, _, _⟩) (v := _) rfl (by kernel_rfl) (by kernel_rfl) (by kernel_rfl) (fun _ _ _ h => h) (Or.inl ⟨by rfl, ?y6⟩) (Keeps.refl _) ?ry6
  case y6 => (intro w' hSw; go_simp; try rfl)
  try simp only [Act.put, List.setIfInBounds_toArray, List.set_cons_zero, List.set_cons_succ]
  refine' wpAnyH_take (i := 7) (oi := ⟨some 12, _, _, _, _, _⟩) (v := _) rfl (by kernel_rfl) (by kernel_rfl) (by kernel_rfl) (fun _ _ _ h => h) (Or.inl ⟨by rfl, ?y7⟩) (Keeps.refl _) ?ry7
  case y7 => (intro w' hSw; have q0 := hSw _ _ pc; go_simp; try rfl)
  try simp only [Act.put, List.setIfInBounds_toArray, List.set_cons_zero, List.set_cons_succ]
  refine held_one (i := 8) (by kernel_rfl) rfl (fun K hK => ?_)
  go_simp
  refine hcl.mono ?_
  rintro e W3 ⟨v', rfl, ho, hb⟩
  have kS := Keeps.of_below hb
  obtain ⟨A', c', rfl, _⟩ := id ho.sd
  refine hK.out _ _ kS (fun _ => ?_)
  clear hK K
  try simp only [Act.put, List.setIfInBounds_toArray, List.set_cons_zero, List.set_cons_succ]
  refine' wpAnyH_take (i := 9) (oi := ⟨some 14, _, _, _, _, _⟩) (v := (.agg (cxc V (.slice A' X.length c')))) rfl (by kernel_rfl) (by kernel_rfl) (by kernel_rfl) (fun _ _ _ h => h) (Or.inl ⟨by rfl, ?y9⟩) kS ?ry9
  case y9 => (intro w' hSw; clear Cc rc pc hcl; obtain ⟨a0, a1, a2, a3, a4, a5, a6, a7, a8, a9, a10, a11, a12, a13, a14, a15, rfl⟩ := list16 hV; go_simp; try rfl)
  try simp only [Act.put, List.setIfInBounds_toArray, List.set_cons_zero, List.set_cons_succ]
  refine held_one (i := 10) (by kernel_rfl) rfl (fun K hK => ?_)
  go_simp
  have kS2 := kS.trans (Keeps.of_below ((Below.refl W3.heap.size W3).alloc (Nat.le_refl _) (.cells (cxc V (.slice A' X.length c')) 109)))
  have e1 : (Value.bool true :: (V.map uq ++ [Value.slice A' X.length c'])).toArray = cxc V (.slice A' X.length c') := rfl
  refine hK.out _ _ kS2 (fun _ => ?_)
  clear hK K
  try simp only [Act.put, List.setIfInBounds_toArray, List.set_cons_zero, List.set_cons_succ]
  refine' wpAnyH_take (i := 11) (oi := ⟨some 2, _, _, _, _, _⟩) (v := _) rfl (by kernel_rfl) (by kernel_rfl) (by kernel_rfl) (fun _ _ _ h => h) (Or.inl ⟨by rfl, ?y11⟩) kS2 ?ry11
  case y11 => (intro w' hSw; go_simp; try rfl)
  try simp only [Act.put, List.setIfInBounds_toArray, List.set_cons_zero, List.set_cons_succ]
  refine wpAnyH_done (by kernel_rfl) ?_ _
  go_wp2
  go_ret
  refine ⟨W3.heap.size, .slice A' X.length c', rfl, cx_new W3 V X _ (ho.mono (Nat.zero_le _)) Cc.fit, ?_, ?_⟩
  · rintro j (rfl | hj)
    · have := hb.size; omega
    · have := (ho.lt j hj).1; omega
  · exact (Hb1.trans (hb.mono (by omega))).alloc (by have := hb.size; omega) _
end Go.Proofs.YtldfaaahmpncbaaGreat

/-
  Copies of both nets; the laws' looks.
-/
import Derived.Test.YtellbmghahgjfaaNfN
namespace Go.Proofs.Ytellbmghahgjfaa
open Go.RowKit Go.Maps
open NetM
set_option linter.unusedVariables false
set_option linter.unusedSimpArgs false
set_option maxRecDepth 20000
section
variable {w w' W W' : World} {B p b x : Nat} {E lv lr : Int} {V R : List (Fl Pl)}
set_option maxHeartbeats 4000000 in
theorem copyNet_any {K : Kl} {G : Nat → Prop} (h : Nt W p b E lv K V G) : Calls Try.prog 13 #[.pointer (some ⟨p, 0, none⟩)] W fun e W' => ∃ p2 b2, e = .returned (.pointer (some ⟨p2, 0, none⟩)) ∧ Nt W' p2 b2 E lv K V G ∧ W.heap.size ≤ p2 ∧ W.heap.size ≤ b2 ∧ Below W.heap.size W W' := by
  have hfo : Try.prog.follows .mixedOrders = true := by kernel_rfl
  have hq := none_any h
  have HCX := Lib.hid (show ∀ Z, Below W.heap.size W Z → Z.cell? ⟨p, 0, none⟩ = some (.int .i64 E) ∧ Z.cell? ⟨p, 1, none⟩ = some (.map (some b)) ∧ Z.cell? ⟨p, 2, none⟩ = some (.int .i64 lv) from fun Z hZ => ⟨(h.below hZ).c0, (h.below hZ).c1, (h.below hZ).c2⟩)
  have HCL := Lib.hid (show ∀ X, Below W.heap.size W X → Calls Try.prog 30 #[.map (some b)] X fun e w' => e = .returned (.map (some X.heap.size)) ∧ w'.ownsMap Try.prog 61 heldR X.heap.size K.length (MD svD K) ∧ Below X.heap.size X w' from fun X hX => (cloneL_any K.length b K X (h.below hX).map).mono fun e w' ⟨h1, h2, h3, h4⟩ => ⟨h1, h2, h4⟩)
  have HH := Lib.hid h
  clear h
  go_enter Try.func13, Try.ntmps13
  go_upto_region 3 with (go_at_call 29; refine hq.mono ?_; rintro e w2 ⟨rfl, hwd⟩; obtain rfl := hwd.symm)
  clear hq
  refine wp_region_held_drew (S := fun Z => Below W.heap.size W Z) hfo ((Below.refl _ _).drew) (fun hS0 => ?_)
  generalize W.drew = Z0 at hS0 ⊢
  refine' wpAnyH_take (i := 0) (oi := ⟨some 5, _, _, _, _, _⟩) (v := _) rfl (by kernel_rfl) (by kernel_rfl) (by kernel_rfl) (fun _ _ _ h => h) (Or.inl ⟨by rfl, ?y0a⟩) hS0 ?r0a
  case y0a =>
    intro w' hSw
    obtain ⟨q0, q1, q2⟩ := HCX.out _ hSw
    go_simp
    try rfl
  try simp only [Act.put, List.setIfInBounds_toArray, List.set_cons_zero, List.set_cons_succ]
  refine' wpAnyH_take (i := 1) (oi := ⟨some 6, _, _, _, _, _⟩) (v := _) rfl (by kernel_rfl) (by kernel_rfl) (by kernel_rfl) (fun _ _ _ h => h) (Or.inl ⟨by rfl, ?y1a⟩) hS0 ?r1a
  case y1a =>
    intro w' hSw
    obtain ⟨q0, q1, q2⟩ := HCX.out _ hSw
    go_simp
    try rfl
  try simp only [Act.put, List.setIfInBounds_toArray, List.set_cons_zero, List.set_cons_succ]
  refine' wpAnyH_take (i := 2) (oi := ⟨some 7, _, _, _, _, _⟩) (v := _) rfl (by kernel_rfl) (by kernel_rfl) (by kernel_rfl) (fun _ _ _ h => h) (Or.inl ⟨by rfl, ?y2a⟩) hS0 ?r2a
  case y2a =>
    intro w' hSw
    obtain ⟨q0, q1, q2⟩ := HCX.out _ hSw
    go_simp
    try rfl
  try simp only [Act.put, List.setIfInBounds_toArray, List.set_cons_zero, List.set_cons_succ]
  refine' wpAnyH_take (i := 3) (oi := ⟨some 8, _, _, _, _, _⟩) (v := _) rfl (by kernel_rfl) (by kernel_rfl) (by kernel_rfl) (fun _ _ _ h => h) (Or.inl ⟨by rfl, ?y3a⟩) hS0 ?r3a
  case y3a =>
    intro w' hSw
    obtain ⟨q0, q1, q2⟩ := HCX.out _ hSw
    go_simp
    try rfl
  try simp only [Act.put, List.setIfInBounds_toArray, List.set_cons_zero, List.set_cons_succ]
  refine' wpAnyH_take (i := 4) (oi := ⟨some 9, _, _, _, _, _⟩) (v := _) rfl (by kernel_rfl) (by kernel_rfl) (by kernel_rfl) (fun _ _ _ h => h) (Or.inl ⟨by rfl, ?y4a⟩) hS0 ?r4a
  case y4a =>
    intro w' hSw
    obtain ⟨q0, q1, q2⟩ := HCX.out _ hSw
    go_simp
    try rfl
  try simp only [Act.put, List.setIfInBounds_toArray, List.set_cons_zero, List.set_cons_succ]
  refine' wpAnyH_take (i := 5) (oi := ⟨some 10, _, _, _, _, _⟩) (v := _) rfl (by kernel_rfl) (by kernel_rfl) (by kernel_rfl) (fun _ _ _ h => h) (Or.inl ⟨by rfl, ?y5a⟩) hS0 ?r5a
  case y5a =>
    intro w' hSw
    obtain ⟨q0, q1, q2⟩ := HCX.out _ hSw
    go_simp
    try rfl
  try simp only [Act.put, List.setIfInBounds_toArray, List.set_cons_zero, List.set_cons_succ]
  refine' wpAnyH_take (i := 6) (oi := ⟨some 11, _, _, _, _, _⟩) (v := _) rfl (by kernel_rfl) (by kernel_rfl) (by kernel_rfl) (fun _ _ _ h => h) (Or.inl ⟨by rfl, ?y6a⟩) hS0 ?r6a
  case y6a =>
    intro w' hSw
    obtain ⟨q0, q1, q2⟩ := HCX.out _ hSw
    go_simp
    try rfl
  try simp only [Act.put, List.setIfInBounds_toArray, List.set_cons_zero, List.set_cons_succ]
  refine' wpAnyH_take (i := 7) (oi := ⟨some 12, _, _, _, _, _⟩) (v := _) rfl (by kernel_rfl) (by kernel_rfl) (by kernel_rfl) (fun _ _ _ h => h) (Or.inl ⟨by rfl, ?y7a⟩) hS0 ?r7a
  case y7a =>
    intro w' hSw
    obtain ⟨q0, q1, q2⟩ := HCX.out _ hSw
    go_simp
    try rfl
  try simp only [Act.put, List.setIfInBounds_toArray, List.set_cons_zero, List.set_cons_succ]
  refine' wpAnyH_take (i := 9) (oi := ⟨some 14, _, _, _, _, _⟩) (v := _) rfl (by kernel_rfl) (by kernel_rfl) (by kernel_rfl) (fun _ _ _ h => h) (Or.inl ⟨by rfl, ?y9a⟩) hS0 ?r9a
  case y9a =>
    intro w' hSw
    obtain ⟨q0, q1, q2⟩ := HCX.out _ hSw
    go_simp
    try rfl
  try simp only [Act.put, List.setIfInBounds_toArray, List.set_cons_zero, List.set_cons_succ]
  refine' wpAnyH_take (i := 10) (oi := ⟨some 15, _, _, _, _, _⟩) (v := _) rfl (by kernel_rfl) (by kernel_rfl) (by kernel_rfl) (fun _ _ _ h => h) (Or.inl ⟨by rfl, ?y10a⟩) hS0 ?r10a
  case y10a =>
    intro w' hSw
    obtain ⟨q0, q1, q2⟩ := HCX.out _ hSw
    go_simp
    try rfl
  try simp only [Act.put, List.setIfInBounds_toArray, List.set_cons_zero, List.set_cons_succ]
  refine' wpAnyH_take (i := 11) (oi := ⟨some 16, _, _, _, _, _⟩) (v := _) rfl (by kernel_rfl) (by kernel_rfl) (by kernel_rfl) (fun _ _ _ h => h) (Or.inl ⟨by rfl, ?y11a⟩) hS0 ?r11a
  case y11a =>
    intro w' hSw
    obtain ⟨q0, q1, q2⟩ := HCX.out _ hSw
    go_simp
    try rfl
  try simp only [Act.put, List.setIfInBounds_toArray, List.set_cons_zero, List.set_cons_succ]
  refine' wpAnyH_take (i := 12) (oi := ⟨some 17, _, _, _, _, _⟩) (v := _) rfl (by kernel_rfl) (by kernel_rfl) (by kernel_rfl) (fun _ _ _ h => h) (Or.inl ⟨by rfl, ?y12a⟩) hS0 ?r12a
  case y12a =>
    intro w' hSw
    obtain ⟨q0, q1, q2⟩ := HCX.out _ hSw
    go_simp
    try rfl
  try simp only [Act.put, List.setIfInBounds_toArray, List.set_cons_zero, List.set_cons_succ]
  refine held_one (i := 8) (by kernel_rfl) rfl (fun Kc hK => ?_)
  refine held_wanted' rfl (by rfl) ?_
  go_simp
  refine (HCL.out _ hS0).mono ?_
  rintro e Z1 ⟨rfl, hm1, hb1⟩
  have hS1 := hS0.trans (hb1.mono hS0.size)
  refine hK.out _ _ hS1 (fun _ => ?_)
  clear hK Kc
  try simp only [Act.put, List.setIfInBounds_toArray, List.set_cons_zero, List.set_cons_succ]
  refine' wpAnyH_take (i := 13) (oi := ⟨some 18, _, _, _, _, _⟩) (v := (.agg #[.int .i64 E, .map (some Z0.heap.size), .int .i64 lv])) rfl (by kernel_rfl) (by kernel_rfl) (by kernel_rfl) (fun _ _ _ h => h) (Or.inl ⟨by rfl, ?y13a⟩) hS1 ?r13a
  case y13a =>
    intro w' hSw
    go_simp
    try rfl
  try simp only [Act.put, List.setIfInBounds_toArray, List.set_cons_zero, List.set_cons_succ]
  refine held_one (i := 14) (by kernel_rfl) rfl (fun Kc hK => ?_)
  refine held_wanted' rfl (by rfl) ?_
  go_simp
  have hS2 : Below W.heap.size W (Z1.alloc (.cells #[.int .i64 E, .map (some Z0.heap.size), .int .i64 lv] 55)) := hS1.alloc hS1.size _
  refine hK.out _ _ hS2 (fun _ => ?_)
  clear hK Kc
  try simp only [Act.put, List.setIfInBounds_toArray, List.set_cons_zero, List.set_cons_succ]
  refine' wpAnyH_take (i := 15) (oi := ⟨some 2, _, _, _, _, _⟩) (v := _) rfl (by kernel_rfl) (by kernel_rfl) (by kernel_rfl) (fun _ _ _ h => h) (Or.inl ⟨by rfl, ?y15a⟩) hS2 ?r15a
  case y15a =>
    intro w' hSw
    go_simp
    try rfl
  try simp only [Act.put, List.setIfInBounds_toArray, List.set_cons_zero, List.set_cons_succ]
  refine wpAnyH_done (by kernel_rfl) ?_ _
  go_wp2
  go_ret
  have hn := HH.out.below hS2
  have ha : Below Z1.heap.size Z1 (Z1.alloc (.cells #[.int .i64 E, .map (some Z0.heap.size), .int .i64 lv] 55)) := (Below.refl _ _).alloc (Nat.le_refl _) _
  exact ⟨Z1.heap.size, Z0.heap.size, rfl, ⟨Blk.new Z1 _ _, ownsMap_keep (S := fun _ => False) hm1 (.of_below ha) (fun h => h), hn.ok, hn.keys, hn.row, hn.by_, hn.inl, hn.inb, hn.gty, hn.sorted, hn.inr, hn.ends, hn.lens, hn.full, hn.lst⟩, hS1.size, hS0.size, hS2⟩
set_option maxHeartbeats 4000000 in
theorem copyRef_any {s : Sv} (h : Rn W x s E lr R B) (hB : B ≤ W.heap.size) (hR : R.length ≤ 100000) : Calls Try.prog 14 #[.pointer (some ⟨x, 0, none⟩)] W fun e W' => ∃ x2 s2, e = .returned (.pointer (some ⟨x2, 0, none⟩)) ∧ Rn W' x2 s2 E lr R B ∧ W.heap.size ≤ x2 ∧ Below W.heap.size W W' := by
  have hfo : Try.prog.follows .mixedOrders = true := by kernel_rfl
  obtain ⟨ifl, hif1, hif2, hif3, hif4⟩ := flI
  obtain ⟨A, c, rfl⟩ := h.shape
  have HCX := Lib.hid (show ∀ Z, Below W.heap.size W Z → Z.cell? ⟨x, 0, none⟩ = some (.slice A R.length c) ∧ Z.cell? ⟨x, 1, none⟩ = some (.int .i64 E) ∧ Z.cell? ⟨x, 2, none⟩ = some (.int .i64 lr) from fun Z hZ => ⟨(h.below hZ).c0, (h.below hZ).c1, (h.below hZ).c2⟩)
  have HSL := Lib.hid (show ∀ Z, Below W.heap.size W Z → SlK kFl Z (.slice A R.length c) (R.map shp) from fun Z hZ => (h.below hZ).own.slk)
  have HH := Lib.hid h
  clear h
  go_enter Try.func14, Try.ntmps14
  go_upto_region 1 with fail
  refine wp_region_held_drew (S := fun Z => Below W.heap.size W Z) hfo ((Below.refl _ _).drew) (fun hS0 => ?_)
  generalize W.drew = Z0 at hS0 ⊢
  refine' wpAnyH_take (i := 0) (oi := ⟨some 3, _, _, _, _, _⟩) (v := _) rfl (by kernel_rfl) (by kernel_rfl) (by kernel_rfl) (fun _ _ _ h => h) (Or.inl ⟨by rfl, ?y0b⟩) hS0 ?r0b
  case y0b =>
    intro w' hSw
    obtain ⟨q0, q1, q2⟩ := HCX.out _ hSw
    go_simp
    try rfl
  try simp only [Act.put, List.setIfInBounds_toArray, List.set_cons_zero, List.set_cons_succ]
  refine' wpAnyH_take (i := 1) (oi := ⟨some 4, _, _, _, _, _⟩) (v := _) rfl (by kernel_rfl) (by kernel_rfl) (by kernel_rfl) (fun _ _ _ h => h) (Or.inl ⟨by rfl, ?y1b⟩) hS0 ?r1b
  case y1b =>
    intro w' hSw
    obtain ⟨q0, q1, q2⟩ := HCX.out _ hSw
    go_simp
    try rfl
  try simp only [Act.put, List.setIfInBounds_toArray, List.set_cons_zero, List.set_cons_succ]
  refine' wpAnyH_take (i := 2) (oi := ⟨some 5, _, _, _, _, _⟩) (v := _) rfl (by kernel_rfl) (by kernel_rfl) (by kernel_rfl) (fun _ _ _ h => h) (Or.inl ⟨by rfl, ?y2b⟩) hS0 ?r2b
  case y2b =>
    intro w' hSw
    obtain ⟨q0, q1, q2⟩ := HCX.out _ hSw
    go_simp
    try rfl
  try simp only [Act.put, List.setIfInBounds_toArray, List.set_cons_zero, List.set_cons_succ]
  refine' wpAnyH_take (i := 3) (oi := ⟨some 6, _, _, _, _, _⟩) (v := _) rfl (by kernel_rfl) (by kernel_rfl) (by kernel_rfl) (fun _ _ _ h => h) (Or.inl ⟨by rfl, ?y3b⟩) hS0 ?r3b
  case y3b =>
    intro w' hSw
    obtain ⟨q0, q1, q2⟩ := HCX.out _ hSw
    go_simp
    try rfl
  try simp only [Act.put, List.setIfInBounds_toArray, List.set_cons_zero, List.set_cons_succ]
  refine' wpAnyH_take (i := 5) (oi := ⟨some 8, _, _, _, _, _⟩) (v := _) rfl (by kernel_rfl) (by kernel_rfl) (by kernel_rfl) (fun _ _ _ h => h) (Or.inl ⟨by rfl, ?y5b⟩) hS0 ?r5b
  case y5b =>
    intro w' hSw
    obtain ⟨q0, q1, q2⟩ := HCX.out _ hSw
    go_simp
    try rfl
  try simp only [Act.put, List.setIfInBounds_toArray, List.set_cons_zero, List.set_cons_succ]
  refine' wpAnyH_take (i := 6) (oi := ⟨some 9, _, _, _, _, _⟩) (v := _) rfl (by kernel_rfl) (by kernel_rfl) (by kernel_rfl) (fun _ _ _ h => h) (Or.inl ⟨by rfl, ?y6b⟩) hS0 ?r6b
  case y6b =>
    intro w' hSw
    obtain ⟨q0, q1, q2⟩ := HCX.out _ hSw
    go_simp
    try rfl
  try simp only [Act.put, List.setIfInBounds_toArray, List.set_cons_zero, List.set_cons_succ]
  refine' wpAnyH_take (i := 7) (oi := ⟨some 10, _, _, _, _, _⟩) (v := _) rfl (by kernel_rfl) (by kernel_rfl) (by kernel_rfl) (fun _ _ _ h => h) (Or.inl ⟨by rfl, ?y7b⟩) hS0 ?r7b
  case y7b =>
    intro w' hSw
    obtain ⟨q0, q1, q2⟩ := HCX.out _ hSw
    go_simp
    try rfl
  try simp only [Act.put, List.setIfInBounds_toArray, List.set_cons_zero, List.set_cons_succ]
  refine' wpAnyH_take (i := 8) (oi := ⟨some 11, _, _, _, _, _⟩) (v := _) rfl (by kernel_rfl) (by kernel_rfl) (by kernel_rfl) (fun _ _ _ h => h) (Or.inl ⟨by rfl, ?y8b⟩) hS0 ?r8b
  case y8b =>
    intro w' hSw
    obtain ⟨q0, q1, q2⟩ := HCX.out _ hSw
    go_simp
    try rfl
  try simp only [Act.put, List.setIfInBounds_toArray, List.set_cons_zero, List.set_cons_succ]
  refine' wpAnyH_take (i := 9) (oi := ⟨some 12, _, _, _, _, _⟩) (v := _) rfl (by kernel_rfl) (by kernel_rfl) (by kernel_rfl) (fun _ _ _ h => h) (Or.inl ⟨by rfl, ?y9b⟩) hS0 ?r9b
  case y9b =>
    intro w' hSw
    obtain ⟨q0, q1, q2⟩ := HCX.out _ hSw
    go_simp
    try rfl
  try simp only [Act.put, List.setIfInBounds_toArray, List.set_cons_zero, List.set_cons_succ]
  refine' wpAnyH_take (i := 10) (oi := ⟨some 13, _, _, _, _, _⟩) (v := _) rfl (by kernel_rfl) (by kernel_rfl) (by kernel_rfl) (fun _ _ _ h => h) (Or.inl ⟨by rfl, ?y10b⟩) hS0 ?r10b
  case y10b =>
    intro w' hSw
    obtain ⟨q0, q1, q2⟩ := HCX.out _ hSw
    go_simp
    try rfl
  try simp only [Act.put, List.setIfInBounds_toArray, List.set_cons_zero, List.set_cons_succ]
  refine' wpAnyH_take (i := 11) (oi := ⟨some 14, _, _, _, _, _⟩) (v := _) rfl (by kernel_rfl) (by kernel_rfl) (by kernel_rfl) (fun _ _ _ h => h) (Or.inl ⟨by rfl, ?y11b⟩) hS0 ?r11b
  case y11b =>
    intro w' hSw
    obtain ⟨q0, q1, q2⟩ := HCX.out _ hSw
    go_simp
    try rfl
  try simp only [Act.put, List.setIfInBounds_toArray, List.set_cons_zero, List.set_cons_succ]
  refine' wpAnyH_take (i := 12) (oi := ⟨some 15, _, _, _, _, _⟩) (v := _) rfl (by kernel_rfl) (by kernel_rfl) (by kernel_rfl) (fun _ _ _ h => h) (Or.inl ⟨by rfl, ?y12b⟩) hS0 ?r12b
  case y12b =>
    intro w' hSw
    obtain ⟨q0, q1, q2⟩ := HCX.out _ hSw
    go_simp
    try rfl
  try simp only [Act.put, List.setIfInBounds_toArray, List.set_cons_zero, List.set_cons_succ]
  refine held_one (i := 4) (by kernel_rfl) rfl (fun Kc hK => ?_)
  refine held_wanted' rfl (by rfl) ?_
  refine heldOp_append_k (k := kFl) (.const (.slice none 0 0)) (.tmp 6) 31 rfl W.heap.size ifl (by kernel_rfl) hif1 hif2 hif3 hif4 (.slice none 0 0) [] rfl OwnK.nil _ (R.map shp) rfl (HSL.out _ hS0) (by simp [maxLen]; omega) (by simp [kFl]; omega) hS0.size ?_
  intro v5 Z1 ho5 hg5 _
  have hS1 : Below W.heap.size W Z1 := Keep.below (S := fun _ => False) hS0 (Keep.of_grown hg5 (fun k e => by cases e)) hS0.size (fun _ h => h.elim)
  obtain ⟨A5, c5, e5⟩ := ho5.shape
  obtain ⟨N5, hN5⟩ : ∃ n, ([] ++ R.map shp).length = n := ⟨_, rfl⟩
  rw [hN5] at e5
  clear hN5
  subst e5
  refine hK.out _ _ hS1 (fun _ => ?_)
  clear hK Kc
  try simp only [Act.put, List.setIfInBounds_toArray, List.set_cons_zero, List.set_cons_succ]
  refine' wpAnyH_take (i := 13) (oi := ⟨some 16, _, _, _, _, _⟩) (v := (.agg #[.slice A5 N5 c5, .int .i64 E, .int .i64 lr])) rfl (by kernel_rfl) (by kernel_rfl) (by kernel_rfl) (fun _ _ _ h => h) (Or.inl ⟨by rfl, ?y13b⟩) hS1 ?r13b
  case y13b =>
    intro w' hSw
    go_simp
    try rfl
  try simp only [Act.put, List.setIfInBounds_toArray, List.set_cons_zero, List.set_cons_succ]
  refine held_one (i := 14) (by kernel_rfl) rfl (fun Kc hK => ?_)
  refine held_wanted' rfl (by rfl) ?_
  go_simp
  have hS2 : Below W.heap.size W (Z1.alloc (.cells #[.slice A5 N5 c5, .int .i64 E, .int .i64 lr] 33)) := hS1.alloc hS1.size _
  refine hK.out _ _ hS2 (fun _ => ?_)
  clear hK Kc
  try simp only [Act.put, List.setIfInBounds_toArray, List.set_cons_zero, List.set_cons_succ]
  refine' wpAnyH_take (i := 15) (oi := ⟨some 2, _, _, _, _, _⟩) (v := _) rfl (by kernel_rfl) (by kernel_rfl) (by kernel_rfl) (fun _ _ _ h => h) (Or.inl ⟨by rfl, ?y15b⟩) hS2 ?r15b
  case y15b =>
    intro w' hSw
    go_simp
    try rfl
  try simp only [Act.put, List.setIfInBounds_toArray, List.set_cons_zero, List.set_cons_succ]
  refine wpAnyH_done (by kernel_rfl) ?_ _
  go_wp2
  go_ret
  have hn := HH.out.below hS2
  have ha : Below Z1.heap.size Z1 (Z1.alloc (.cells #[.slice A5 N5 c5, .int .i64 E, .int .i64 lr] 33)) := (Below.refl _ _).alloc (Nat.le_refl _) _
  exact ⟨Z1.heap.size, (A5, N5, c5), rfl, ⟨Blk.new Z1 _ _, (ho5.below ha).mono hB, hn.by_, hn.inb, Nat.le_trans hB hS1.size⟩, hS1.size, hS2⟩
theorem two_lost (h : Two B W p b x E lv V lr R) : Calls Try.prog 22 #[.pointer (some ⟨p, 0, none⟩)] W fun e W' => e = .returned (.int .i64 lv) ∧ Below W.heap.size W W' := by
  obtain ⟨K, G, hn, hG⟩ := h.nt
  exact lost_any hn
theorem two_refLine (h : Two B W p b x E lv V lr R) (hR : R.length ≤ 100000) (q : Pr) : Calls Try.prog 36 #[.pointer (some ⟨x, 0, none⟩), .int .i64 q.1, .int .i64 q.2] W fun e W' => e = .returned (.int .i64 ((lineOf R q).length : Int)) ∧ Below W.heap.size W W' := by
  obtain ⟨s, hr⟩ := h.rf
  exact (refLine_any hr (by omega) q).mono fun e w' ⟨h1, h2⟩ => ⟨h1, by rw [h2]; exact Below.refl _ _⟩
set_option maxHeartbeats 8000000 in
theorem looks_any (h : Two B W p b x E lv V lv R) (he : pv V = pv R) (kd : Int) (q : Pr) (hq : OkP q) (bv : Value) (hbv : ∃ A n c, bv = .slice A n c) (leave : Int) :
    Calls Try.prog 16 #[.pointer (some ⟨p, 0, none⟩), .pointer (some ⟨x, 0, none⟩), .agg #[.int .i64 kd, .int .i64 q.1, .int .i64 q.2, bv], .int .i64 leave] W fun e W' => e = .returned (.bool true) ∧ Below W.heap.size W W' := by
  have hfo : Try.prog.follows .mixedOrders = true := by kernel_rfl
  obtain ⟨A, n, c, rfl⟩ := hbv
  have hb1 : Below W.heap.size W (W.alloc (.cells #[.int .i64 kd, .int .i64 q.1, .int .i64 q.2, .slice A n c] 39)) := (Below.refl _ _).alloc (Nat.le_refl _) _
  have hbx := Blk.new W 39 #[.int .i64 kd, .int .i64 q.1, .int .i64 q.2, .slice A n c]
  have hRl : R.length ≤ 100000 := by have := pv_lens he; have := h.few; omega
  have HE := Lib.hid he
  have hqb : q.1 ≤ 9223372036854775807 := hq.2.1
  go_enter Try.func16, Try.ntmps16
  go_upto_region 1 with fail
  generalize W.alloc (.cells #[.int .i64 kd, .int .i64 q.1, .int .i64 q.2, .slice A n c] 39) = Y at hb1 hbx ⊢
  have hY := h.below hb1
  have z1 : Y.cell? ⟨W.heap.size, 1, none⟩ = some (.int .i64 q.1) := by rw [hbx.cell]; rfl
  have HA1 := Lib.hid (two_at hY q.1 hqb)
  go_upto_region 2 with (go_at_call 18; refine HA1.out.mono ?_; rintro e X ⟨n1, r1, t0, t1, t2, l1, rfl, k1, hs1, hty1, hbX, V0, hTR⟩)
  have hal : Below X.heap.size X (X.alloc (.cells #[.int .i64 r1.1, .int .i64 r1.2, .slice t0 t1 t2] 44)) := (Below.refl _ _).alloc (Nat.le_refl _) _
  have hx1 : Blk (X.alloc (.cells #[.int .i64 r1.1, .int .i64 r1.2, .slice t0 t1 t2] 44)) X.heap.size 44 #[.int .i64 r1.1, .int .i64 r1.2, .slice t0 t1 t2] := Blk.new X _ _
  have hbY1 := hbX.trans (hal.mono hbX.size)
  have hsX := hs1.below hal
  obtain ⟨g9, hgg⟩ : ∃ z, X.heap.size = z := ⟨_, rfl⟩
  rw [hgg] at hx1
  rw [hgg]
  generalize X.alloc (.cells #[.int .i64 r1.1, .int .i64 r1.2, .slice t0 t1 t2] 44) = Y1 at hx1 hbY1 hsX ⊢
  clear hgg hal hbX k1 hs1 hty1 HA1 z1
  have hbx1 := hbx.below hbY1 hbx.lt
  have z1 : Y1.cell? ⟨W.heap.size, 1, none⟩ = some (.int .i64 q.1) := by rw [hbx1.cell]; rfl
  have HA2 := Lib.hid (two_refAt (hY.below hbY1) hRl q.1)
  go_upto_region 3 with (go_at_call 35; refine HA2.out.mono ?_; rintro e X2 ⟨n2, r2, u0, u1, u2, l2, rfl, k2, hs2, hty2, hbX2, V00, hTR2⟩; obtain ⟨rfl, rfl, rfl, _⟩ := hTR.agree hTR2 HE.out)
  have hal : Below X2.heap.size X2 (X2.alloc (.cells #[.int .i64 r1.1, .int .i64 r1.2, .slice u0 u1 u2] 44)) := (Below.refl _ _).alloc (Nat.le_refl _) _
  have hx2 : Blk (X2.alloc (.cells #[.int .i64 r1.1, .int .i64 r1.2, .slice u0 u1 u2] 44)) X2.heap.size 44 #[.int .i64 r1.1, .int .i64 r1.2, .slice u0 u1 u2] := Blk.new X2 _ _
  have hbY2 := hbX2.trans (hal.mono hbX2.size)
  have hsX2 := hs2.below hal
  obtain ⟨g11, hgg⟩ : ∃ z, X2.heap.size = z := ⟨_, rfl⟩
  rw [hgg] at hx2
  rw [hgg]
  generalize X2.alloc (.cells #[.int .i64 r1.1, .int .i64 r1.2, .slice u0 u1 u2] 44) = Y2 at hx2 hbY2 hsX2 ⊢
  clear hgg hal hbX2 k2 hs2 hty2 HA2 z1 hTR hTR2
  have hY2 := (hY.below hbY1).below hbY2
  have hx12 := hx1.below hbY2 hx1.lt
  have hsX1 := hsX.below hbY2
  have hbx2 := hbx1.below hbY2 hbx1.lt
  obtain ⟨s, hr⟩ := hY2.rf
  obtain ⟨A6, c6, rfl⟩ := hr.shape
  have HCX := Lib.hid (show ∀ Z, Below Y2.heap.size Y2 Z → Z.cell? ⟨g9, 0, none⟩ = some (.int .i64 r1.1) ∧ Z.cell? ⟨g9, 1, none⟩ = some (.int .i64 r1.2) ∧ Z.cell? ⟨g9, 2, none⟩ = some (.slice t0 t1 t2) ∧ Z.cell? ⟨g11, 0, none⟩ = some (.int .i64 r1.1) ∧ Z.cell? ⟨g11, 1, none⟩ = some (.int .i64 r1.2) ∧ Z.cell? ⟨g11, 2, none⟩ = some (.slice u0 u1 u2) ∧ Z.cell? ⟨W.heap.size, 1, none⟩ = some (.int .i64 q.1) ∧ Z.cell? ⟨W.heap.size, 2, none⟩ = some (.int .i64 q.2) ∧ Z.cell? ⟨x, 0, none⟩ = some (.slice A6 R.length c6) ∧ Z.cell? ⟨x, 2, none⟩ = some (.int .i64 lv) from fun Z hZ => by
    have f1 := hx12.below hZ hx12.lt
    have f2 := hx2.below hZ hx2.lt
    have f3 := hbx2.below hZ hbx2.lt
    have f4 := hr.below hZ
    exact ⟨by rw [f1.cell]; rfl, by rw [f1.cell]; rfl, by rw [f1.cell]; rfl, by rw [f2.cell]; rfl, by rw [f2.cell]; rfl, by rw [f2.cell]; rfl, by rw [f3.cell]; rfl, by rw [f3.cell]; rfl, f4.c0, f4.c2⟩)
  have HSM := Lib.hid (show ∀ Z, Below Y2.heap.size Y2 Z → Calls Try.prog 26 #[.agg #[.int .i64 r1.1, .int .i64 r1.2, .slice t0 t1 t2], .agg #[.int .i64 r1.1, .int .i64 r1.2, .slice u0 u1 u2]] Z fun e W' => e = .returned (.bool true) ∧ Below Z.heap.size Z W' from fun Z hZ => by
    have := same_any r1 r1 _ _ l1 l1 Z (hsX1.below hZ) (hsX2.below hZ)
    rw [sameB_self] at this
    exact this)
  have HLE := Lib.hid (show ∀ Z, Below Y2.heap.size Y2 Z → Calls Try.prog 20 #[.pointer (some ⟨p, 0, none⟩)] Z fun e W' => e = .returned (.int .i64 (R.length : Int)) ∧ Below Z.heap.size Z W' from fun Z hZ => by
    have := two_len (hY2.below hZ)
    rw [pv_lens HE.out] at this
    exact this)
  obtain ⟨m, hm⟩ : ∃ m, (lineOf R q).length = m := ⟨_, rfl⟩
  have HLN := Lib.hid (show ∀ Z, Below Y2.heap.size Y2 Z → Calls Try.prog 23 #[.pointer (some ⟨p, 0, none⟩), .int .i64 q.1, .int .i64 q.2] Z fun e W' => e = .returned (.int .i64 (m : Int)) ∧ Below Z.heap.size Z W' from fun Z hZ => by
    have := two_line (hY2.below hZ) q hq
    rw [pv_lines HE.out q, hm] at this
    exact this)
  have HRL := Lib.hid (show ∀ Z, Below Y2.heap.size Y2 Z → Calls Try.prog 36 #[.pointer (some ⟨x, 0, none⟩), .int .i64 q.1, .int .i64 q.2] Z fun e W' => e = .returned (.int .i64 (m : Int)) ∧ Below Z.heap.size Z W' from fun Z hZ => by
    have := two_refLine (hY2.below hZ) hRl q
    rw [hm] at this
    exact this)
  have HLO := Lib.hid (show ∀ Z, Below Y2.heap.size Y2 Z → Calls Try.prog 22 #[.pointer (some ⟨p, 0, none⟩)] Z fun e W' => e = .returned (.int .i64 lv) ∧ Below Z.heap.size Z W' from fun Z hZ => two_lost (hY2.below hZ))
  have HON := Lib.hid (show ∀ Z, Below Y2.heap.size Y2 Z → Calls Try.prog 27 #[.pointer (some ⟨p, 0, none⟩), .pointer (some ⟨x, 0, none⟩), .int .i64 leave] Z fun e W' => e = .returned (.bool true) ∧ Below Z.heap.size Z W' from fun Z hZ => once_any (hY2.below hZ) HE.out leave)
  have HO0 := Lib.hid (show ∀ Z, Below Y2.heap.size Y2 Z → Calls Try.prog 27 #[.pointer (some ⟨p, 0, none⟩), .pointer (some ⟨x, 0, none⟩), .int .i64 0] Z fun e W' => e = .returned (.bool true) ∧ Below Z.heap.size Z W' from fun Z hZ => once_any (hY2.below hZ) HE.out 0)
  have HW := Lib.hid (hb1.trans ((hbY1.trans (hbY2.mono hbY1.size)).mono hb1.size))
  clear hm hr hbx hbx1 hbx2 hx1 hx2 hx12 hsX hsX1 hsX2 hY hY2 h hb1 hbY1 hbY2 he hq hqb hRl
  refine wp_region_held_drew (S := fun Z => Below Y2.heap.size Y2 Z) hfo ((Below.refl _ _).drew) (fun hS0 => ?_)
  generalize Y2.drew = Z0 at hS0 ⊢
  refine' wpAnyH_take (i := 0) (oi := ⟨some 27, _, _, _, _, _⟩) (v := (.agg #[.int .i64 r1.1, .int .i64 r1.2, .slice t0 t1 t2])) rfl (by kernel_rfl) (by kernel_rfl) (by kernel_rfl) (fun _ _ _ h => h) (Or.inl ⟨by rfl, ?y0c⟩) hS0 ?r0c
  case y0c =>
    intro w' hSw
    obtain ⟨a0, a1, a2, b0, b1, b2, c0, c1, d0, d1⟩ := HCX.out _ hSw
    go_simp
    try rfl
  try simp only [Act.put, List.setIfInBounds_toArray, List.set_cons_zero, List.set_cons_succ]
  refine' wpAnyH_take (i := 1) (oi := ⟨some 28, _, _, _, _, _⟩) (v := (.agg #[.int .i64 r1.1, .int .i64 r1.2, .slice u0 u1 u2])) rfl (by kernel_rfl) (by kernel_rfl) (by kernel_rfl) (fun _ _ _ h => h) (Or.inl ⟨by rfl, ?y1c⟩) hS0 ?r1c
  case y1c =>
    intro w' hSw
    obtain ⟨a0, a1, a2, b0, b1, b2, c0, c1, d0, d1⟩ := HCX.out _ hSw
    go_simp
    try rfl
  try simp only [Act.put, List.setIfInBounds_toArray, List.set_cons_zero, List.set_cons_succ]
  refine held_one (i := 2) (by kernel_rfl) rfl (fun Kc hK => ?_)
  refine held_wanted' rfl (by rfl) ?_
  go_simp
  refine (HSM.out _ hS0).mono ?_
  rintro e Z1 ⟨rfl, hb1⟩
  have hS1 := hS0.trans (hb1.mono hS0.size)
  refine hK.out _ _ hS1 (fun _ => ?_)
  clear hK Kc
  try simp only [Act.put, List.setIfInBounds_toArray, List.set_cons_zero, List.set_cons_succ]
  refine' wpAnyH_take (i := 3) (oi := ⟨some 30, _, _, _, _, _⟩) (v := (.bool true)) rfl (by kernel_rfl) (by kernel_rfl) (by kernel_rfl) (fun _ _ _ h => h) (Or.inl ⟨by rfl, ?y3c⟩) hS1 ?r3c
  case y3c =>
    intro w' hSw
    obtain ⟨a0, a1, a2, b0, b1, b2, c0, c1, d0, d1⟩ := HCX.out _ hSw
    go_simp
    try rfl
  try simp only [Act.put, List.setIfInBounds_toArray, List.set_cons_zero, List.set_cons_succ]
  refine' wpAnyH_take (i := 4) (oi := ⟨some 31, _, _, _, _, _⟩) (v := _) rfl (by kernel_rfl) (by kernel_rfl) (by kernel_rfl) (fun _ _ _ h => h) (Or.inl ⟨by rfl, ?y4c⟩) hS1 ?r4c
  case y4c =>
    intro w' hSw
    obtain ⟨a0, a1, a2, b0, b1, b2, c0, c1, d0, d1⟩ := HCX.out _ hSw
    go_simp
    try rfl
  try simp only [Act.put, List.setIfInBounds_toArray, List.set_cons_zero, List.set_cons_succ]
  refine' wpAnyH_take (i := 6) (oi := ⟨some 33, _, _, _, _, _⟩) (v := _) rfl (by kernel_rfl) (by kernel_rfl) (by kernel_rfl) (fun _ _ _ h => h) (Or.inl ⟨by rfl, ?y6c⟩) hS1 ?r6c
  case y6c =>
    intro w' hSw
    obtain ⟨a0, a1, a2, b0, b1, b2, c0, c1, d0, d1⟩ := HCX.out _ hSw
    go_simp
    try rfl
  try simp only [Act.put, List.setIfInBounds_toArray, List.set_cons_zero, List.set_cons_succ]
  refine held_one (i := 5) (by kernel_rfl) rfl (fun Kc hK => ?_)
  refine held_wanted' rfl (by rfl) ?_
  go_simp
  refine (num_any n1 Z1).mono ?_
  rintro e Z9 ⟨rfl, hzz⟩
  obtain rfl := hzz.symm
  refine hK.out _ _ hS1 (fun _ => ?_)
  clear hK Kc
  try simp only [Act.put, List.setIfInBounds_toArray, List.set_cons_zero, List.set_cons_succ]
  refine' wpAnyH_take (i := 7) (oi := ⟨some 34, _, _, _, _, _⟩) (v := (.bool true)) rfl (by kernel_rfl) (by kernel_rfl) (by kernel_rfl) (fun _ _ _ h => h) (Or.inl ⟨by rfl, ?y7c⟩) hS1 ?r7c
  case y7c =>
    intro w' hSw
    obtain ⟨a0, a1, a2, b0, b1, b2, c0, c1, d0, d1⟩ := HCX.out _ hSw
    go_simp
    try rfl
  try simp only [Act.put, List.setIfInBounds_toArray, List.set_cons_zero, List.set_cons_succ]
  refine' wpAnyH_take (i := 8) (oi := ⟨some 35, _, _, _, _, _⟩) (v := (.bool true)) rfl (by kernel_rfl) (by kernel_rfl) (by kernel_rfl) (fun _ _ _ h => h) (Or.inl ⟨by rfl, ?y8c⟩) hS1 ?r8c
  case y8c =>
    intro w' hSw
    obtain ⟨a0, a1, a2, b0, b1, b2, c0, c1, d0, d1⟩ := HCX.out _ hSw
    go_simp
    try rfl
  try simp only [Act.put, List.setIfInBounds_toArray, List.set_cons_zero, List.set_cons_succ]
  refine' wpAnyH_take (i := 9) (oi := ⟨some 36, _, _, _, _, _⟩) (v := (.bool true)) rfl (by kernel_rfl) (by kernel_rfl) (by kernel_rfl) (fun _ _ _ h => h) (Or.inl ⟨by rfl, ?y9c⟩) hS1 ?r9c
  case y9c =>
    intro w' hSw
    obtain ⟨a0, a1, a2, b0, b1, b2, c0, c1, d0, d1⟩ := HCX.out _ hSw
    go_simp
    try rfl
  try simp only [Act.put, List.setIfInBounds_toArray, List.set_cons_zero, List.set_cons_succ]
  refine' wpAnyH_take (i := 10) (oi := ⟨some 37, _, _, _, _, _⟩) (v := _) rfl (by kernel_rfl) (by kernel_rfl) (by kernel_rfl) (fun _ _ _ h => h) (Or.inl ⟨by rfl, ?y10c⟩) hS1 ?r10c
  case y10c =>
    intro w' hSw
    obtain ⟨a0, a1, a2, b0, b1, b2, c0, c1, d0, d1⟩ := HCX.out _ hSw
    go_simp
    try rfl
  try simp only [Act.put, List.setIfInBounds_toArray, List.set_cons_zero, List.set_cons_succ]
  refine' wpAnyH_take (i := 12) (oi := ⟨some 39, _, _, _, _, _⟩) (v := _) rfl (by kernel_rfl) (by kernel_rfl) (by kernel_rfl) (fun _ _ _ h => h) (Or.inl ⟨by rfl, ?y12c⟩) hS1 ?r12c
  case y12c =>
    intro w' hSw
    obtain ⟨a0, a1, a2, b0, b1, b2, c0, c1, d0, d1⟩ := HCX.out _ hSw
    go_simp
    try rfl
  try simp only [Act.put, List.setIfInBounds_toArray, List.set_cons_zero, List.set_cons_succ]
  refine' wpAnyH_take (i := 13) (oi := ⟨some 40, _, _, _, _, _⟩) (v := _) rfl (by kernel_rfl) (by kernel_rfl) (by kernel_rfl) (fun _ _ _ h => h) (Or.inl ⟨by rfl, ?y13c⟩) hS1 ?r13c
  case y13c =>
    intro w' hSw
    obtain ⟨a0, a1, a2, b0, b1, b2, c0, c1, d0, d1⟩ := HCX.out _ hSw
    go_simp
    try rfl
  try simp only [Act.put, List.setIfInBounds_toArray, List.set_cons_zero, List.set_cons_succ]
  refine' wpAnyH_take (i := 14) (oi := ⟨some 41, _, _, _, _, _⟩) (v := _) rfl (by kernel_rfl) (by kernel_rfl) (by kernel_rfl) (fun _ _ _ h => h) (Or.inl ⟨by rfl, ?y14c⟩) hS1 ?r14c
  case y14c =>
    intro w' hSw
    obtain ⟨a0, a1, a2, b0, b1, b2, c0, c1, d0, d1⟩ := HCX.out _ hSw
    go_simp
    try rfl
  try simp only [Act.put, List.setIfInBounds_toArray, List.set_cons_zero, List.set_cons_succ]
  refine' wpAnyH_take (i := 15) (oi := ⟨some 42, _, _, _, _, _⟩) (v := _) rfl (by kernel_rfl) (by kernel_rfl) (by kernel_rfl) (fun _ _ _ h => h) (Or.inl ⟨by rfl, ?y15c⟩) hS1 ?r15c
  case y15c =>
    intro w' hSw
    obtain ⟨a0, a1, a2, b0, b1, b2, c0, c1, d0, d1⟩ := HCX.out _ hSw
    go_simp
    try rfl
  try simp only [Act.put, List.setIfInBounds_toArray, List.set_cons_zero, List.set_cons_succ]
  refine' wpAnyH_take (i := 16) (oi := ⟨some 43, _, _, _, _, _⟩) (v := _) rfl (by kernel_rfl) (by kernel_rfl) (by kernel_rfl) (fun _ _ _ h => h) (Or.inl ⟨by rfl, ?y16c⟩) hS1 ?r16c
  case y16c =>
    intro w' hSw
    obtain ⟨a0, a1, a2, b0, b1, b2, c0, c1, d0, d1⟩ := HCX.out _ hSw
    go_simp
    try rfl
  try simp only [Act.put, List.setIfInBounds_toArray, List.set_cons_zero, List.set_cons_succ]
  refine held_one (i := 11) (by kernel_rfl) rfl (fun Kc hK => ?_)
  refine held_wanted' rfl (by rfl) ?_
  go_simp
  refine (HLE.out _ hS1).mono ?_
  rintro e Z2 ⟨rfl, hb2⟩
  have hS2 := hS1.trans (hb2.mono hS1.size)
  refine hK.out _ _ hS2 (fun _ => ?_)
  clear hK Kc
  try simp only [Act.put, List.setIfInBounds_toArray, List.set_cons_zero, List.set_cons_succ]
  refine' wpAnyH_take (i := 17) (oi := ⟨some 44, _, _, _, _, _⟩) (v := (.bool true)) rfl (by kernel_rfl) (by kernel_rfl) (by kernel_rfl) (fun _ _ _ h => h) (Or.inl ⟨by rfl, ?y17c⟩) hS2 ?r17c
  case y17c =>
    intro w' hSw
    obtain ⟨a0, a1, a2, b0, b1, b2, c0, c1, d0, d1⟩ := HCX.out _ hSw
    go_simp
    try rfl
  try simp only [Act.put, List.setIfInBounds_toArray, List.set_cons_zero, List.set_cons_succ]
  refine' wpAnyH_take (i := 18) (oi := ⟨some 45, _, _, _, _, _⟩) (v := (.bool true)) rfl (by kernel_rfl) (by kernel_rfl) (by kernel_rfl) (fun _ _ _ h => h) (Or.inl ⟨by rfl, ?y18c⟩) hS2 ?r18c
  case y18c =>
    intro w' hSw
    obtain ⟨a0, a1, a2, b0, b1, b2, c0, c1, d0, d1⟩ := HCX.out _ hSw
    go_simp
    try rfl
  try simp only [Act.put, List.setIfInBounds_toArray, List.set_cons_zero, List.set_cons_succ]
  refine' wpAnyH_take (i := 19) (oi := ⟨some 46, _, _, _, _, _⟩) (v := (.bool true)) rfl (by kernel_rfl) (by kernel_rfl) (by kernel_rfl) (fun _ _ _ h => h) (Or.inl ⟨by rfl, ?y19c⟩) hS2 ?r19c
  case y19c =>
    intro w' hSw
    obtain ⟨a0, a1, a2, b0, b1, b2, c0, c1, d0, d1⟩ := HCX.out _ hSw
    go_simp
    try rfl
  try simp only [Act.put, List.setIfInBounds_toArray, List.set_cons_zero, List.set_cons_succ]
  refine' wpAnyH_take (i := 20) (oi := ⟨some 47, _, _, _, _, _⟩) (v := _) rfl (by kernel_rfl) (by kernel_rfl) (by kernel_rfl) (fun _ _ _ h => h) (Or.inl ⟨by rfl, ?y20c⟩) hS2 ?r20c
  case y20c =>
    intro w' hSw
    obtain ⟨a0, a1, a2, b0, b1, b2, c0, c1, d0, d1⟩ := HCX.out _ hSw
    go_simp
    try rfl
  try simp only [Act.put, List.setIfInBounds_toArray, List.set_cons_zero, List.set_cons_succ]
  refine' wpAnyH_take (i := 21) (oi := ⟨some 48, _, _, _, _, _⟩) (v := _) rfl (by kernel_rfl) (by kernel_rfl) (by kernel_rfl) (fun _ _ _ h => h) (Or.inl ⟨by rfl, ?y21c⟩) hS2 ?r21c
  case y21c =>
    intro w' hSw
    obtain ⟨a0, a1, a2, b0, b1, b2, c0, c1, d0, d1⟩ := HCX.out _ hSw
    go_simp
    try rfl
  try simp only [Act.put, List.setIfInBounds_toArray, List.set_cons_zero, List.set_cons_succ]
  refine' wpAnyH_take (i := 22) (oi := ⟨some 49, _, _, _, _, _⟩) (v := _) rfl (by kernel_rfl) (by kernel_rfl) (by kernel_rfl) (fun _ _ _ h => h) (Or.inl ⟨by rfl, ?y22c⟩) hS2 ?r22c
  case y22c =>
    intro w' hSw
    obtain ⟨a0, a1, a2, b0, b1, b2, c0, c1, d0, d1⟩ := HCX.out _ hSw
    go_simp
    try rfl
  try simp only [Act.put, List.setIfInBounds_toArray, List.set_cons_zero, List.set_cons_succ]
  refine' wpAnyH_take (i := 23) (oi := ⟨some 50, _, _, _, _, _⟩) (v := _) rfl (by kernel_rfl) (by kernel_rfl) (by kernel_rfl) (fun _ _ _ h => h) (Or.inl ⟨by rfl, ?y23c⟩) hS2 ?r23c
  case y23c =>
    intro w' hSw
    obtain ⟨a0, a1, a2, b0, b1, b2, c0, c1, d0, d1⟩ := HCX.out _ hSw
    go_simp
    try rfl
  try simp only [Act.put, List.setIfInBounds_toArray, List.set_cons_zero, List.set_cons_succ]
  refine' wpAnyH_take (i := 24) (oi := ⟨some 51, _, _, _, _, _⟩) (v := _) rfl (by kernel_rfl) (by kernel_rfl) (by kernel_rfl) (fun _ _ _ h => h) (Or.inl ⟨by rfl, ?y24c⟩) hS2 ?r24c
  case y24c =>
    intro w' hSw
    obtain ⟨a0, a1, a2, b0, b1, b2, c0, c1, d0, d1⟩ := HCX.out _ hSw
    go_simp
    try rfl
  try simp only [Act.put, List.setIfInBounds_toArray, List.set_cons_zero, List.set_cons_succ]
  refine' wpAnyH_take (i := 26) (oi := ⟨some 53, _, _, _, _, _⟩) (v := _) rfl (by kernel_rfl) (by kernel_rfl) (by kernel_rfl) (fun _ _ _ h => h) (Or.inl ⟨by rfl, ?y26c⟩) hS2 ?r26c
  case y26c =>
    intro w' hSw
    obtain ⟨a0, a1, a2, b0, b1, b2, c0, c1, d0, d1⟩ := HCX.out _ hSw
    go_simp
    try rfl
  try simp only [Act.put, List.setIfInBounds_toArray, List.set_cons_zero, List.set_cons_succ]
  refine' wpAnyH_take (i := 27) (oi := ⟨some 54, _, _, _, _, _⟩) (v := _) rfl (by kernel_rfl) (by kernel_rfl) (by kernel_rfl) (fun _ _ _ h => h) (Or.inl ⟨by rfl, ?y27c⟩) hS2 ?r27c
  case y27c =>
    intro w' hSw
    obtain ⟨a0, a1, a2, b0, b1, b2, c0, c1, d0, d1⟩ := HCX.out _ hSw
    go_simp
    try rfl
  try simp only [Act.put, List.setIfInBounds_toArray, List.set_cons_zero, List.set_cons_succ]
  refine' wpAnyH_take (i := 28) (oi := ⟨some 55, _, _, _, _, _⟩) (v := _) rfl (by kernel_rfl) (by kernel_rfl) (by kernel_rfl) (fun _ _ _ h => h) (Or.inl ⟨by rfl, ?y28c⟩) hS2 ?r28c
  case y28c =>
    intro w' hSw
    obtain ⟨a0, a1, a2, b0, b1, b2, c0, c1, d0, d1⟩ := HCX.out _ hSw
    go_simp
    try rfl
  try simp only [Act.put, List.setIfInBounds_toArray, List.set_cons_zero, List.set_cons_succ]
  refine' wpAnyH_take (i := 29) (oi := ⟨some 56, _, _, _, _, _⟩) (v := _) rfl (by kernel_rfl) (by kernel_rfl) (by kernel_rfl) (fun _ _ _ h => h) (Or.inl ⟨by rfl, ?y29c⟩) hS2 ?r29c
  case y29c =>
    intro w' hSw
    obtain ⟨a0, a1, a2, b0, b1, b2, c0, c1, d0, d1⟩ := HCX.out _ hSw
    go_simp
    try rfl
  try simp only [Act.put, List.setIfInBounds_toArray, List.set_cons_zero, List.set_cons_succ]
  refine' wpAnyH_take (i := 30) (oi := ⟨some 57, _, _, _, _, _⟩) (v := _) rfl (by kernel_rfl) (by kernel_rfl) (by kernel_rfl) (fun _ _ _ h => h) (Or.inl ⟨by rfl, ?y30c⟩) hS2 ?r30c
  case y30c =>
    intro w' hSw
    obtain ⟨a0, a1, a2, b0, b1, b2, c0, c1, d0, d1⟩ := HCX.out _ hSw
    go_simp
    try rfl
  try simp only [Act.put, List.setIfInBounds_toArray, List.set_cons_zero, List.set_cons_succ]
  refine held_one (i := 25) (by kernel_rfl) rfl (fun Kc hK => ?_)
  refine held_wanted' rfl (by rfl) ?_
  go_simp
  refine (HLN.out _ hS2).mono ?_
  rintro e Z3 ⟨rfl, hb3⟩
  have hS3 := hS2.trans (hb3.mono hS2.size)
  refine hK.out _ _ hS3 (fun _ => ?_)
  clear hK Kc
  try simp only [Act.put, List.setIfInBounds_toArray, List.set_cons_zero, List.set_cons_succ]
  refine held_one (i := 31) (by kernel_rfl) rfl (fun Kc hK => ?_)
  refine held_wanted' rfl (by rfl) ?_
  go_simp
  refine (HRL.out _ hS3).mono ?_
  rintro e Z4 ⟨rfl, hb4⟩
  have hS4 := hS3.trans (hb4.mono hS3.size)
  refine hK.out _ _ hS4 (fun _ => ?_)
  clear hK Kc
  try simp only [Act.put, List.setIfInBounds_toArray, List.set_cons_zero, List.set_cons_succ]
  refine' wpAnyH_take (i := 32) (oi := ⟨some 59, _, _, _, _, _⟩) (v := (.bool true)) rfl (by kernel_rfl) (by kernel_rfl) (by kernel_rfl) (fun _ _ _ h => h) (Or.inl ⟨by rfl, ?y32c⟩) hS4 ?r32c
  case y32c =>
    intro w' hSw
    obtain ⟨a0, a1, a2, b0, b1, b2, c0, c1, d0, d1⟩ := HCX.out _ hSw
    go_simp
    try rfl
  try simp only [Act.put, List.setIfInBounds_toArray, List.set_cons_zero, List.set_cons_succ]
  refine' wpAnyH_take (i := 33) (oi := ⟨some 60, _, _, _, _, _⟩) (v := (.bool true)) rfl (by kernel_rfl) (by kernel_rfl) (by kernel_rfl) (fun _ _ _ h => h) (Or.inl ⟨by rfl, ?y33c⟩) hS4 ?r33c
  case y33c =>
    intro w' hSw
    obtain ⟨a0, a1, a2, b0, b1, b2, c0, c1, d0, d1⟩ := HCX.out _ hSw
    go_simp
    try rfl
  try simp only [Act.put, List.setIfInBounds_toArray, List.set_cons_zero, List.set_cons_succ]
  refine' wpAnyH_take (i := 34) (oi := ⟨some 61, _, _, _, _, _⟩) (v := (.bool true)) rfl (by kernel_rfl) (by kernel_rfl) (by kernel_rfl) (fun _ _ _ h => h) (Or.inl ⟨by rfl, ?y34c⟩) hS4 ?r34c
  case y34c =>
    intro w' hSw
    obtain ⟨a0, a1, a2, b0, b1, b2, c0, c1, d0, d1⟩ := HCX.out _ hSw
    go_simp
    try rfl
  try simp only [Act.put, List.setIfInBounds_toArray, List.set_cons_zero, List.set_cons_succ]
  refine' wpAnyH_take (i := 35) (oi := ⟨some 62, _, _, _, _, _⟩) (v := _) rfl (by kernel_rfl) (by kernel_rfl) (by kernel_rfl) (fun _ _ _ h => h) (Or.inl ⟨by rfl, ?y35c⟩) hS4 ?r35c
  case y35c =>
    intro w' hSw
    obtain ⟨a0, a1, a2, b0, b1, b2, c0, c1, d0, d1⟩ := HCX.out _ hSw
    go_simp
    try rfl
  try simp only [Act.put, List.setIfInBounds_toArray, List.set_cons_zero, List.set_cons_succ]
  refine' wpAnyH_take (i := 37) (oi := ⟨some 64, _, _, _, _, _⟩) (v := _) rfl (by kernel_rfl) (by kernel_rfl) (by kernel_rfl) (fun _ _ _ h => h) (Or.inl ⟨by rfl, ?y37c⟩) hS4 ?r37c
  case y37c =>
    intro w' hSw
    obtain ⟨a0, a1, a2, b0, b1, b2, c0, c1, d0, d1⟩ := HCX.out _ hSw
    go_simp
    try rfl
  try simp only [Act.put, List.setIfInBounds_toArray, List.set_cons_zero, List.set_cons_succ]
  refine' wpAnyH_take (i := 38) (oi := ⟨some 65, _, _, _, _, _⟩) (v := _) rfl (by kernel_rfl) (by kernel_rfl) (by kernel_rfl) (fun _ _ _ h => h) (Or.inl ⟨by rfl, ?y38c⟩) hS4 ?r38c
  case y38c =>
    intro w' hSw
    obtain ⟨a0, a1, a2, b0, b1, b2, c0, c1, d0, d1⟩ := HCX.out _ hSw
    go_simp
    try rfl
  try simp only [Act.put, List.setIfInBounds_toArray, List.set_cons_zero, List.set_cons_succ]
  refine' wpAnyH_take (i := 39) (oi := ⟨some 66, _, _, _, _, _⟩) (v := _) rfl (by kernel_rfl) (by kernel_rfl) (by kernel_rfl) (fun _ _ _ h => h) (Or.inl ⟨by rfl, ?y39c⟩) hS4 ?r39c
  case y39c =>
    intro w' hSw
    obtain ⟨a0, a1, a2, b0, b1, b2, c0, c1, d0, d1⟩ := HCX.out _ hSw
    go_simp
    try rfl
  try simp only [Act.put, List.setIfInBounds_toArray, List.set_cons_zero, List.set_cons_succ]
  refine' wpAnyH_take (i := 40) (oi := ⟨some 67, _, _, _, _, _⟩) (v := _) rfl (by kernel_rfl) (by kernel_rfl) (by kernel_rfl) (fun _ _ _ h => h) (Or.inl ⟨by rfl, ?y40c⟩) hS4 ?r40c
  case y40c =>
    intro w' hSw
    obtain ⟨a0, a1, a2, b0, b1, b2, c0, c1, d0, d1⟩ := HCX.out _ hSw
    go_simp
    try rfl
  try simp only [Act.put, List.setIfInBounds_toArray, List.set_cons_zero, List.set_cons_succ]
  refine held_one (i := 36) (by kernel_rfl) rfl (fun Kc hK => ?_)
  refine held_wanted' rfl (by rfl) ?_
  go_simp
  refine (HLO.out _ hS4).mono ?_
  rintro e Z5 ⟨rfl, hb5⟩
  have hS5 := hS4.trans (hb5.mono hS4.size)
  refine hK.out _ _ hS5 (fun _ => ?_)
  clear hK Kc
  try simp only [Act.put, List.setIfInBounds_toArray, List.set_cons_zero, List.set_cons_succ]
  refine' wpAnyH_take (i := 41) (oi := ⟨some 68, _, _, _, _, _⟩) (v := (.bool true)) rfl (by kernel_rfl) (by kernel_rfl) (by kernel_rfl) (fun _ _ _ h => h) (Or.inl ⟨by rfl, ?y41c⟩) hS5 ?r41c
  case y41c =>
    intro w' hSw
    obtain ⟨a0, a1, a2, b0, b1, b2, c0, c1, d0, d1⟩ := HCX.out _ hSw
    go_simp
    try rfl
  try simp only [Act.put, List.setIfInBounds_toArray, List.set_cons_zero, List.set_cons_succ]
  refine' wpAnyH_take (i := 42) (oi := ⟨some 69, _, _, _, _, _⟩) (v := (.bool true)) rfl (by kernel_rfl) (by kernel_rfl) (by kernel_rfl) (fun _ _ _ h => h) (Or.inl ⟨by rfl, ?y42c⟩) hS5 ?r42c
  case y42c =>
    intro w' hSw
    obtain ⟨a0, a1, a2, b0, b1, b2, c0, c1, d0, d1⟩ := HCX.out _ hSw
    go_simp
    try rfl
  try simp only [Act.put, List.setIfInBounds_toArray, List.set_cons_zero, List.set_cons_succ]
  refine' wpAnyH_take (i := 43) (oi := ⟨some 70, _, _, _, _, _⟩) (v := (.bool true)) rfl (by kernel_rfl) (by kernel_rfl) (by kernel_rfl) (fun _ _ _ h => h) (Or.inl ⟨by rfl, ?y43c⟩) hS5 ?r43c
  case y43c =>
    intro w' hSw
    obtain ⟨a0, a1, a2, b0, b1, b2, c0, c1, d0, d1⟩ := HCX.out _ hSw
    go_simp
    try rfl
  try simp only [Act.put, List.setIfInBounds_toArray, List.set_cons_zero, List.set_cons_succ]
  refine' wpAnyH_take (i := 44) (oi := ⟨some 71, _, _, _, _, _⟩) (v := _) rfl (by kernel_rfl) (by kernel_rfl) (by kernel_rfl) (fun _ _ _ h => h) (Or.inl ⟨by rfl, ?y44c⟩) hS5 ?r44c
  case y44c =>
    intro w' hSw
    obtain ⟨a0, a1, a2, b0, b1, b2, c0, c1, d0, d1⟩ := HCX.out _ hSw
    go_simp
    try rfl
  try simp only [Act.put, List.setIfInBounds_toArray, List.set_cons_zero, List.set_cons_succ]
  refine' wpAnyH_take (i := 45) (oi := ⟨some 72, _, _, _, _, _⟩) (v := _) rfl (by kernel_rfl) (by kernel_rfl) (by kernel_rfl) (fun _ _ _ h => h) (Or.inl ⟨by rfl, ?y45c⟩) hS5 ?r45c
  case y45c =>
    intro w' hSw
    obtain ⟨a0, a1, a2, b0, b1, b2, c0, c1, d0, d1⟩ := HCX.out _ hSw
    go_simp
    try rfl
  try simp only [Act.put, List.setIfInBounds_toArray, List.set_cons_zero, List.set_cons_succ]
  refine' wpAnyH_take (i := 46) (oi := ⟨some 73, _, _, _, _, _⟩) (v := _) rfl (by kernel_rfl) (by kernel_rfl) (by kernel_rfl) (fun _ _ _ h => h) (Or.inl ⟨by rfl, ?y46c⟩) hS5 ?r46c
  case y46c =>
    intro w' hSw
    obtain ⟨a0, a1, a2, b0, b1, b2, c0, c1, d0, d1⟩ := HCX.out _ hSw
    go_simp
    try rfl
  try simp only [Act.put, List.setIfInBounds_toArray, List.set_cons_zero, List.set_cons_succ]
  refine held_one (i := 47) (by kernel_rfl) rfl (fun Kc hK => ?_)
  refine held_wanted' rfl (by rfl) ?_
  go_simp
  refine (HON.out _ hS5).mono ?_
  rintro e Z6 ⟨rfl, hb6⟩
  have hS6 := hS5.trans (hb6.mono hS5.size)
  refine hK.out _ _ hS6 (fun _ => ?_)
  clear hK Kc
  try simp only [Act.put, List.setIfInBounds_toArray, List.set_cons_zero, List.set_cons_succ]
  refine' wpAnyH_take (i := 48) (oi := ⟨some 75, _, _, _, _, _⟩) (v := (.bool true)) rfl (by kernel_rfl) (by kernel_rfl) (by kernel_rfl) (fun _ _ _ h => h) (Or.inl ⟨by rfl, ?y48c⟩) hS6 ?r48c
  case y48c =>
    intro w' hSw
    obtain ⟨a0, a1, a2, b0, b1, b2, c0, c1, d0, d1⟩ := HCX.out _ hSw
    go_simp
    try rfl
  try simp only [Act.put, List.setIfInBounds_toArray, List.set_cons_zero, List.set_cons_succ]
  refine' wpAnyH_take (i := 49) (oi := ⟨some 76, _, _, _, _, _⟩) (v := (.bool true)) rfl (by kernel_rfl) (by kernel_rfl) (by kernel_rfl) (fun _ _ _ h => h) (Or.inl ⟨by rfl, ?y49c⟩) hS6 ?r49c
  case y49c =>
    intro w' hSw
    obtain ⟨a0, a1, a2, b0, b1, b2, c0, c1, d0, d1⟩ := HCX.out _ hSw
    go_simp
    try rfl
  try simp only [Act.put, List.setIfInBounds_toArray, List.set_cons_zero, List.set_cons_succ]
  refine' wpAnyH_take (i := 50) (oi := ⟨some 77, _, _, _, _, _⟩) (v := _) rfl (by kernel_rfl) (by kernel_rfl) (by kernel_rfl) (fun _ _ _ h => h) (Or.inl ⟨by rfl, ?y50c⟩) hS6 ?r50c
  case y50c =>
    intro w' hSw
    obtain ⟨a0, a1, a2, b0, b1, b2, c0, c1, d0, d1⟩ := HCX.out _ hSw
    go_simp
    try rfl
  try simp only [Act.put, List.setIfInBounds_toArray, List.set_cons_zero, List.set_cons_succ]
  refine' wpAnyH_take (i := 51) (oi := ⟨some 78, _, _, _, _, _⟩) (v := _) rfl (by kernel_rfl) (by kernel_rfl) (by kernel_rfl) (fun _ _ _ h => h) (Or.inl ⟨by rfl, ?y51c⟩) hS6 ?r51c
  case y51c =>
    intro w' hSw
    obtain ⟨a0, a1, a2, b0, b1, b2, c0, c1, d0, d1⟩ := HCX.out _ hSw
    go_simp
    try rfl
  try simp only [Act.put, List.setIfInBounds_toArray, List.set_cons_zero, List.set_cons_succ]
  refine held_one (i := 52) (by kernel_rfl) rfl (fun Kc hK => ?_)
  refine held_wanted' rfl (by rfl) ?_
  go_simp
  refine (HO0.out _ hS6).mono ?_
  rintro e Z7 ⟨rfl, hb7⟩
  have hS7 := hS6.trans (hb7.mono hS6.size)
  refine hK.out _ _ hS7 (fun _ => ?_)
  clear hK Kc
  try simp only [Act.put, List.setIfInBounds_toArray, List.set_cons_zero, List.set_cons_succ]
  refine' wpAnyH_take (i := 53) (oi := ⟨some 80, _, _, _, _, _⟩) (v := (.bool true)) rfl (by kernel_rfl) (by kernel_rfl) (by kernel_rfl) (fun _ _ _ h => h) (Or.inl ⟨by rfl, ?y53c⟩) hS7 ?r53c
  case y53c =>
    intro w' hSw
    obtain ⟨a0, a1, a2, b0, b1, b2, c0, c1, d0, d1⟩ := HCX.out _ hSw
    go_simp
    try rfl
  try simp only [Act.put, List.setIfInBounds_toArray, List.set_cons_zero, List.set_cons_succ]
  refine' wpAnyH_take (i := 54) (oi := ⟨some 8, _, _, _, _, _⟩) (v := _) rfl (by kernel_rfl) (by kernel_rfl) (by kernel_rfl) (fun _ _ _ h => h) (Or.inl ⟨by rfl, ?y54c⟩) hS7 ?r54c
  case y54c =>
    intro w' hSw
    obtain ⟨a0, a1, a2, b0, b1, b2, c0, c1, d0, d1⟩ := HCX.out _ hSw
    go_simp
    try rfl
  try simp only [Act.put, List.setIfInBounds_toArray, List.set_cons_zero, List.set_cons_succ]
  refine wpAnyH_done (by kernel_rfl) ?_ _
  go_wp2
  go_ret
  exact ⟨rfl, HW.out.trans (hS7.mono HW.out.size)⟩
end
end Go.Proofs.Ytellbmghahgjfaa

/-
  The document's Take.
-/
import Derived.Test.YtellbmghahgjfaaNfE
namespace Go.Proofs.Ytellbmghahgjfaa
open Go.RowKit Go.Maps
open NetM
set_option linter.unusedVariables false
set_option linter.unusedSimpArgs false
set_option maxRecDepth 20000
section
variable {w w' : World} {x B : Nat} {s : Sv} {E lost : Int} {R : List (Fl Pl)}
set_option maxHeartbeats 4000000 in
theorem refTake_bad (h : Rn w x s E lost R B) (z : Int) (c : Int) (hc : (z < 0 ∧ c = 2) ∨ ((R.length : Int) ≤ z ∧ c = 6)) : Calls Try.prog 32 #[.pointer (some ⟨x, 0, none⟩), .int .i64 z] w fun e w' => e = .returned (.tuple #[.agg #[.int .i64 0, .int .i64 0, .slice none 0 0], .int .i64 c]) ∧ Below w.heap.size w w' := by
  have hb1 : Below w.heap.size w (w.alloc (.cells #[.int .i64 0, .int .i64 0, .slice none 0 0] 44)) := (Below.refl _ _).alloc (Nat.le_refl _) _
  have hB := Blk.new w 44 #[.int .i64 0, .int .i64 0, .slice none 0 0]
  have HAT := Lib.hid (refAt_bad (h.below hb1) z c hc)
  have hcb : (c == 0) = false := by rcases hc with ⟨_, rfl⟩ | ⟨_, rfl⟩ <;> rfl
  clear hc h
  go_enter Try.func32, Try.ntmps32
  go_upto_region 1 with fail
  generalize w.alloc (.cells #[.int .i64 0, .int .i64 0, .slice none 0 0] 44) = Y at hb1 hB HAT ⊢
  go_upto_region 2 with (go_at_call 35; refine HAT.out.mono ?_; rintro e X ⟨rfl, hbX⟩)
  have hbZ := hbX.alloc hbX.size (.cells #[.int .i64 0, .int .i64 0, .slice none 0 0] 44)
  have hxb : Blk (X.alloc (.cells #[.int .i64 0, .int .i64 0, .slice none 0 0] 44)) X.heap.size 44 #[.int .i64 0, .int .i64 0, .slice none 0 0] := Blk.new X _ _
  generalize X.alloc (.cells #[.int .i64 0, .int .i64 0, .slice none 0 0] 44) = Z at hbZ hxb ⊢
  have hBZ := hB.below hbZ hB.lt
  have b0 : Z.cell? ⟨X.heap.size, 0, none⟩ = some (.int .i64 0) := by rw [hxb.cell]; rfl
  have b1 : Z.cell? ⟨X.heap.size, 1, none⟩ = some (.int .i64 0) := by rw [hxb.cell]; rfl
  have b2 : Z.cell? ⟨X.heap.size, 2, none⟩ = some (.slice none 0 0) := by rw [hxb.cell]; rfl
  have s0 : Z.cell? ⟨w.heap.size, 0, none⟩ = some (.int .i64 0) := by rw [hBZ.cell]; rfl
  have s1 : Z.cell? ⟨w.heap.size, 1, none⟩ = some (.int .i64 0) := by rw [hBZ.cell]; rfl
  have s2 : Z.cell? ⟨w.heap.size, 2, none⟩ = some (.slice none 0 0) := by rw [hBZ.cell]; rfl
  have f0 := hBZ.frozen 0
  have f1 := hBZ.frozen 1
  have f2 := hBZ.frozen 2
  have hzz := hBZ.lt
  have hE : Blk (((Z.setCell ⟨w.heap.size, 0, none⟩ (.int .i64 0)).setCell ⟨w.heap.size, 1, none⟩ (.int .i64 0)).setCell ⟨w.heap.size, 2, none⟩ (.slice none 0 0)) w.heap.size 44 #[.int .i64 0, .int .i64 0, .slice none 0 0] := ((hBZ.set_ 0 (.int .i64 0)).set_ 1 (.int .i64 0)).set_ 2 (.slice none 0 0)
  have hBE : Below w.heap.size w (((Z.setCell ⟨w.heap.size, 0, none⟩ (.int .i64 0)).setCell ⟨w.heap.size, 1, none⟩ (.int .i64 0)).setCell ⟨w.heap.size, 2, none⟩ (.slice none 0 0)) := (((hb1.trans (hbZ.mono hb1.size)).setCell (Nat.le_refl _) _).setCell (Nat.le_refl _) _).setCell (Nat.le_refl _) _
  have HE := Lib.hid (And.intro hE hBE)
  clear hE hBE hB hb1 hBZ hxb hbZ hbX HAT
  go_wp2
  exact bodyPost_ret (v := .tuple #[.agg #[.int .i64 0, .int .i64 0, .slice none 0 0], .int .i64 c]) (results_row_tmp rfl _ _ w.heap.size 44 _ (0, 0) _ rfl HE.out.1 Try.underlying44 rfl info_fl3 _ rfl) rfl ⟨rfl, HE.out.2⟩
theorem Rn.store2 (h : Rn w x s E lost R B) {W : World} (hb : Below w.heap.size w W) {s' : Sv} {R' : List (Fl Pl)} {B' : Nat} (hB' : w.heap.size ≤ B') (ho : OwnK kFl W B' (sv s') (R'.map shp)) (hB : B ≤ w.heap.size) (hm : ∀ f ∈ R', f ∈ R) :
    Keep (fun i => i = x) w (W.setCell ⟨x, 0, none⟩ (sv s')) ∧ Rn (W.setCell ⟨x, 0, none⟩ (sv s')) x s' E lost R' B := by
  have hxl := h.blk.lt
  have ks := Keep.setCell (S := fun i => i = x) W ⟨x, 0, none⟩ (sv s') rfl
  have k : Keep (fun i => i = x) w (W.setCell ⟨x, 0, none⟩ (sv s')) := (Keep.of_below hb).trans ks (fun _ h => h) (fun _ _ h => h)
  obtain ⟨_, h2, h3⟩ := h.rows k h.offx
  exact ⟨k, (h.blk.below hb hxl).set_ 0 (sv s'), (ho.keep fun i hi => ks.block i (ho.lt i hi).2 (fun e => by have := (ho.lt i hi).1; omega)).mono (by omega), fun f hf => h2 f (hm f hf), fun f hf => h3 f (hm f hf), h.xb⟩
/-- A box of a flight is written. -/
theorem Rn.box (h : Rn w x s E lost R B) {g : Nat} {cs : Array Value} (hg : Blk w g 44 cs) (hn : ∀ i, (sv s).ownBlock = some i → i ≠ g) (j : Nat) (u : Value) : Rn (w.setCell ⟨g, j, none⟩ u) x s E lost R B := by
  have k := Keep.setCell (S := fun i => i = g) w ⟨g, j, none⟩ u rfl
  have hne : ∀ i cs t m, w.heap[i]? = some (.cells cs t m) → t ≠ 44 → ¬ i = g := by
    rintro i cs t m hh ht rfl
    have := hh.symm.trans hg
    injection this with this
    injection this with _ e _
    exact ht e
  have hb : ∀ f ∈ R, ∀ i, InB f.x.1 i → ¬ i = g := fun f hf i hi => by
    obtain ⟨_, cs, m, hh⟩ := h.inb f hf i hi
    exact hne i _ _ _ hh (by decide)
  refine ⟨h.blk.kept k (hne x _ _ _ h.blk (by decide)), h.own.keep fun i hi => k.block i (h.own.lt i hi).2 (hn i hi), fun f hf => InB.sl (h.by_ f hf) k (hb f hf), fun f hf i hi => ?_, h.xb⟩
  obtain ⟨hB, cs, m, hh⟩ := h.inb f hf i hi
  exact ⟨hB, cs, m, (k.block i (Array.getElem?_eq_some_iff.1 hh).1 (hb f hf i hi)).trans hh⟩
/-- The result's own box is written behind. -/
theorem RnEnd.set3 {R' : List (Fl Pl)} (hk : Keep (fun i => i = x) w w') (hr : Rn w' x s E lost R' B) {g : Nat} (hgw : w.heap.size ≤ g) {cs : Array Value} (hg : Blk w' g 44 cs) (hn : ∀ i, (sv s).ownBlock = some i → i ≠ g) (a b c : Value) : RnEnd w x E lost R' B (((w'.setCell ⟨g, 0, none⟩ a).setCell ⟨g, 1, none⟩ b).setCell ⟨g, 2, none⟩ c) := by
  have ks : ∀ (A : World) (j : Nat) (u : Value), Keep (fun i => i = g) A (A.setCell ⟨g, j, none⟩ u) := fun A j u => Keep.setCell A ⟨g, j, none⟩ u rfl
  refine ⟨((hk.trans (ks _ 0 a) (fun _ h => h) (fun i hi e => by omega)).trans (ks _ 1 b) (fun _ h => h) (fun i hi e => by omega)).trans (ks _ 2 c) (fun _ h => h) (fun i hi e => by omega), s, ?_⟩
  have g1 := hg.set_ 0 a
  have g2 := g1.set_ 1 b
  exact ((hr.box hg hn 0 a).box g1 hn 1 b).box g2 hn 2 c
set_option maxHeartbeats 8000000 in
theorem refTake_any (h : Rn w x s E lost R B) (hB : B ≤ w.heap.size) (hR : R.length ≤ 100000) (i : Nat) (hi : i < R.length) : Calls Try.prog 32 #[.pointer (some ⟨x, 0, none⟩), .int .i64 (i : Int)] w fun e w' => e = .returned (.tuple #[.agg #[.int .i64 R[i].p.1, .int .i64 R[i].p.2, sv R[i].x.1], .int .i64 0]) ∧ RnEnd w x E lost (R.eraseIdx i) B w' := by
  have hfo : Try.prog.follows .mixedOrders = true := by kernel_rfl
  obtain ⟨ifl, hif1, hif2, hif3, hif4⟩ := flI
  have hb1 : Below w.heap.size w (w.alloc (.cells #[.int .i64 0, .int .i64 0, .slice none 0 0] 44)) := (Below.refl _ _).alloc (Nat.le_refl _) _
  have hBx := Blk.new w 44 #[.int .i64 0, .int .i64 0, .slice none 0 0]
  obtain ⟨A, c, rfl⟩ := h.shape
  obtain ⟨⟨bs, os, rfl⟩, hcap⟩ := h.row1 (by omega)
  have HAT := Lib.hid (refAt_any (h.below hb1) i hi (by omega))
  obtain ⟨q, hq⟩ : ∃ q, R[i].p = q := ⟨_, rfl⟩
  obtain ⟨⟨t0, t1, t2⟩, ht⟩ : ∃ t, R[i].x.1 = t := ⟨_, rfl⟩
  rw [hq, ht] at HAT
  rw [hq, ht]
  simp only [sv] at HAT ⊢
  have HH := Lib.hid h
  have hxw := Lib.hid h.blk.lt
  clear hq ht h
  go_enter Try.func32, Try.ntmps32
  go_upto_region 1 with fail
  generalize w.alloc (.cells #[.int .i64 0, .int .i64 0, .slice none 0 0] 44) = Y0 at hb1 hBx HAT ⊢
  go_upto_region 2 with (go_at_call 35; refine HAT.out.mono ?_; rintro e X ⟨rfl, hbX⟩)
  have hbZ := hbX.alloc hbX.size (.cells #[.int .i64 q.1, .int .i64 q.2, .slice t0 t1 t2] 44)
  have hxb : Blk (X.alloc (.cells #[.int .i64 q.1, .int .i64 q.2, .slice t0 t1 t2] 44)) X.heap.size 44 #[.int .i64 q.1, .int .i64 q.2, .slice t0 t1 t2] := Blk.new X _ _
  generalize X.alloc (.cells #[.int .i64 q.1, .int .i64 q.2, .slice t0 t1 t2] 44) = Y at hbZ hxb ⊢
  have hbY := hb1.trans (hbZ.mono hb1.size)
  have hBY := hBx.below hbZ hBx.lt
  have hyw := hbY.size
  have HY := Lib.hid (HH.out.below hbY)
  have HXL := Lib.hid (show ∀ Z, Below Y.heap.size Y Z → Blk Z x 33 #[.slice (some ⟨bs, os, none⟩) R.length c, .int .i64 E, .int .i64 lost] from fun Z hZ => (HY.out.below hZ).blk)
  have HE := Lib.hid (show ∀ Z, Below Y.heap.size Y Z → Z.cell? ⟨x, 0, none⟩ = some (.slice (some ⟨bs, os, none⟩) R.length c) ∧ True from fun Z hZ => ⟨by rw [(HXL.out Z hZ).cell]; rfl, trivial⟩)
  obtain ⟨TK, hTK⟩ : ∃ T, (R.map shp).take i = T := ⟨_, rfl⟩
  obtain ⟨DK, hDK⟩ : ∃ T, (R.map shp).drop (i + 1) = T := ⟨_, rfl⟩
  have hTl : TK.length ≤ 100000 := by rw [← hTK, List.length_take, List.length_map]; omega
  have hDl : DK.length ≤ 100000 := by rw [← hDK, List.length_drop, List.length_map]; omega
  have HFIN := Lib.hid (show ∀ Z A' n' c', Below Y.heap.size Y Z → OwnK kFl Z Y.heap.size (.slice A' n' c') (TK ++ DK) → (Keep (fun i => i = x) w (Z.setCell ⟨x, 0, none⟩ (.slice A' n' c')) ∧ Rn (Z.setCell ⟨x, 0, none⟩ (.slice A' n' c')) x (A', n', c') E lost (R.eraseIdx i) B) ∧ ∀ j, (sv (A', n', c')).ownBlock = some j → j ≠ w.heap.size from fun Z A' n' c' hZ ho => ⟨by
    refine HH.out.store2 (s' := (A', n', c')) (hbY.trans (hZ.mono hyw)) hyw (R' := R.eraseIdx i) ?_ hB fun f hf => List.mem_of_mem_eraseIdx hf
    rw [List.eraseIdx_eq_take_drop_succ, List.map_append, List.map_take, List.map_drop, hTK, hDK]
    exact ho, fun j hj e => by have := (ho.lt j hj).1; have := hBY.lt; omega⟩)
  have HRK := Lib.hid (show ∀ Z, Below Y.heap.size Y Z → SlK kFl Z (.slice (some ⟨bs, os, none⟩) i c) TK ∧ SlK kFl Z (.slice (if c = i + 1 then some ⟨bs, os, none⟩ else some ⟨bs, os + (i + 1) * 3, none⟩) (R.length - (i + 1)) (c - (i + 1))) DK from fun Z hZ => by
    subst hTK hDK
    have hk2 := (HY.out.below hZ).own.slk
    exact ⟨hk2.pre i (show i ≤ R.length by omega), hk2.suf (i + 1) (show i + 1 ≤ R.length by omega) _ (fun (hh : i + 1 < R.length) => if_neg (show ¬ c = i + 1 by omega))⟩)
  have HBB := Lib.hid (And.intro hBY hxb)
  clear hTK hDK hBY hxb hBx hbX hbZ HAT hb1
  go_upto_region 3 with fail
  have hiI : (i : Int) ≤ (R.length : Int) := by omega
  have hic : i ≤ c := by omega
  have hicI : (i : Int) ≤ (c : Int) := by omega
  have hi0 : (0 : Int) ≤ (i : Int) := by omega
  have hi2 : (0 : Int) ≤ (i : Int) + 1 := by omega
  have hi3 : (i : Int) + 1 ≤ (R.length : Int) := by omega
  have hi4 : (i : Int) + 1 ≤ (c : Int) := by omega
  have hwr : IntKind.i64.wrap ((i : Int) + 1) = (i : Int) + 1 := by rw [IntKind.wrap_i64] <;> omega
  have htn : ((i : Int) + 1).toNat = i + 1 := by omega
  refine tail_begin 18 (S := fun Z => Below Y.heap.size Y Z) hfo (by kernel_rfl) ((Below.refl Y.heap.size Y).drew) (fun hS0 => ?_)
  generalize Y.drew = Z0 at hS0 ⊢
  refine' tail_take (i := 0) (oi := ⟨some 16, _, _, _, _, _⟩) (v := _) rfl (by kernel_rfl) (by kernel_rfl) (by decide) (fun _ _ _ h => h) (Or.inl ⟨by rfl, ?y0t⟩) hS0 ?r0t
  case y0t =>
    intro w' hSw
    obtain ⟨e0, e1⟩ := HE.out _ hSw
    go_simp
    try rfl
  try simp only [Act.put, List.setIfInBounds_toArray, List.set_cons_zero, List.set_cons_succ]
  refine' tail_take (i := 1) (oi := ⟨some 17, _, _, _, _, _⟩) (v := _) rfl (by kernel_rfl) (by kernel_rfl) (by decide) (fun _ _ _ h => h) (Or.inl ⟨by rfl, ?y1t⟩) hS0 ?r1t
  case y1t =>
    intro w' hSw
    obtain ⟨e0, e1⟩ := HE.out _ hSw
    go_simp
    try rfl
  try simp only [Act.put, List.setIfInBounds_toArray, List.set_cons_zero, List.set_cons_succ]
  refine' tail_take (i := 2) (oi := ⟨some 18, _, _, _, _, _⟩) (v := _) rfl (by kernel_rfl) (by kernel_rfl) (by decide) (fun _ _ _ h => h) (Or.inl ⟨by rfl, ?y2t⟩) hS0 ?r2t
  case y2t =>
    intro w' hSw
    obtain ⟨e0, e1⟩ := HE.out _ hSw
    go_simp
    try rfl
  try simp only [Act.put, List.setIfInBounds_toArray, List.set_cons_zero, List.set_cons_succ]
  refine' tail_take (i := 3) (oi := ⟨some 19, _, _, _, _, _⟩) (v := _) rfl (by kernel_rfl) (by kernel_rfl) (by decide) (fun _ _ _ h => h) (Or.inl ⟨by rfl, ?y3t⟩) hS0 ?r3t
  case y3t =>
    intro w' hSw
    obtain ⟨e0, e1⟩ := HE.out _ hSw
    go_simp
    try rfl
  try simp only [Act.put, List.setIfInBounds_toArray, List.set_cons_zero, List.set_cons_succ]
  refine' tail_take (i := 4) (oi := ⟨some 20, _, _, _, _, _⟩) (v := _) rfl (by kernel_rfl) (by kernel_rfl) (by decide) (fun _ _ _ h => h) (Or.inl ⟨by rfl, ?y4t⟩) hS0 ?r4t
  case y4t =>
    intro w' hSw
    obtain ⟨e0, e1⟩ := HE.out _ hSw
    go_simp
    try rfl
  try simp only [Act.put, List.setIfInBounds_toArray, List.set_cons_zero, List.set_cons_succ]
  refine' tail_take (i := 5) (oi := ⟨some 21, _, _, _, _, _⟩) (v := _) rfl (by kernel_rfl) (by kernel_rfl) (by decide) (fun _ _ _ h => h) (Or.inl ⟨by rfl, ?y5t⟩) hS0 ?r5t
  case y5t =>
    intro w' hSw
    obtain ⟨e0, e1⟩ := HE.out _ hSw
    go_simp
    try rfl
  try simp only [Act.put, List.setIfInBounds_toArray, List.set_cons_zero, List.set_cons_succ]
  refine' tail_take (i := 6) (oi := ⟨some 22, _, _, _, _, _⟩) (v := (.slice (some ⟨bs, os, none⟩) i c)) rfl (by kernel_rfl) (by kernel_rfl) (by decide) (fun _ _ _ h => h) (Or.inl ⟨by rfl, ?y6t⟩) hS0 ?r6t
  case y6t =>
    intro w' hSw
    obtain ⟨e0, e1⟩ := HE.out _ hSw
    go_simp
    try simp [hiI, hic, hicI]
    try rfl
  try simp only [Act.put, List.setIfInBounds_toArray, List.set_cons_zero, List.set_cons_succ]
  refine' tail_take (i := 8) (oi := ⟨some 24, _, _, _, _, _⟩) (v := _) rfl (by kernel_rfl) (by kernel_rfl) (by decide) (fun _ _ _ h => h) (Or.inl ⟨by rfl, ?y8t⟩) hS0 ?r8t
  case y8t =>
    intro w' hSw
    obtain ⟨e0, e1⟩ := HE.out _ hSw
    go_simp
    try rfl
  try simp only [Act.put, List.setIfInBounds_toArray, List.set_cons_zero, List.set_cons_succ]
  refine' tail_take (i := 9) (oi := ⟨some 25, _, _, _, _, _⟩) (v := _) rfl (by kernel_rfl) (by kernel_rfl) (by decide) (fun _ _ _ h => h) (Or.inl ⟨by rfl, ?y9t⟩) hS0 ?r9t
  case y9t =>
    intro w' hSw
    obtain ⟨e0, e1⟩ := HE.out _ hSw
    go_simp
    try rfl
  try simp only [Act.put, List.setIfInBounds_toArray, List.set_cons_zero, List.set_cons_succ]
  refine' tail_take (i := 10) (oi := ⟨some 26, _, _, _, _, _⟩) (v := _) rfl (by kernel_rfl) (by kernel_rfl) (by decide) (fun _ _ _ h => h) (Or.inl ⟨by rfl, ?y10t⟩) hS0 ?r10t
  case y10t =>
    intro w' hSw
    obtain ⟨e0, e1⟩ := HE.out _ hSw
    go_simp
    try rfl
  try simp only [Act.put, List.setIfInBounds_toArray, List.set_cons_zero, List.set_cons_succ]
  refine' tail_take (i := 11) (oi := ⟨some 27, _, _, _, _, _⟩) (v := _) rfl (by kernel_rfl) (by kernel_rfl) (by decide) (fun _ _ _ h => h) (Or.inl ⟨by rfl, ?y11t⟩) hS0 ?r11t
  case y11t =>
    intro w' hSw
    obtain ⟨e0, e1⟩ := HE.out _ hSw
    go_simp
    try rfl
  try simp only [Act.put, List.setIfInBounds_toArray, List.set_cons_zero, List.set_cons_succ]
  refine' tail_take (i := 12) (oi := ⟨some 28, _, _, _, _, _⟩) (v := _) rfl (by kernel_rfl) (by kernel_rfl) (by decide) (fun _ _ _ h => h) (Or.inl ⟨by rfl, ?y12t⟩) hS0 ?r12t
  case y12t =>
    intro w' hSw
    obtain ⟨e0, e1⟩ := HE.out _ hSw
    go_simp
    try rfl
  try simp only [Act.put, List.setIfInBounds_toArray, List.set_cons_zero, List.set_cons_succ]
  refine' tail_take (i := 13) (oi := ⟨some 29, _, _, _, _, _⟩) (v := (.int .i64 ((i : Int) + 1))) rfl (by kernel_rfl) (by kernel_rfl) (by decide) (fun _ _ _ h => h) (Or.inl ⟨by rfl, ?y13t⟩) hS0 ?r13t
  case y13t =>
    intro w' hSw
    obtain ⟨e0, e1⟩ := HE.out _ hSw
    go_simp
    try simp only [hwr]
    try simp [htn, hi2, hi3, hi4]
    try rfl
  try simp only [Act.put, List.setIfInBounds_toArray, List.set_cons_zero, List.set_cons_succ]
  refine' tail_take (i := 14) (oi := ⟨some 30, _, _, _, _, _⟩) (v := (.slice (if c = i + 1 then some ⟨bs, os, none⟩ else some ⟨bs, os + (i + 1) * 3, none⟩) (R.length - (i + 1)) (c - (i + 1)))) rfl (by kernel_rfl) (by kernel_rfl) (by decide) (fun _ _ _ h => h) (Or.inl ⟨by rfl, ?y14t⟩) hS0 ?r14t
  case y14t =>
    intro w' hSw
    obtain ⟨e0, e1⟩ := HE.out _ hSw
    go_simp
    try simp only [hwr]
    try simp [htn, hi2, hi3, hi4]
    try rfl
  try simp only [Act.put, List.setIfInBounds_toArray, List.set_cons_zero, List.set_cons_succ]
  refine tail_one (i := 7) (by kernel_rfl) rfl (by decide) (fun Kc hK => ?_)
  refine held_wanted' rfl (by rfl) ?_
  refine heldOp_append_k (k := kFl) (.const (.slice none 0 0)) (.tmp 22) 31 rfl Y.heap.size ifl (by kernel_rfl) hif1 hif2 hif3 hif4 (.slice none 0 0) [] rfl OwnK.nil _ TK rfl (HRK.out Z0 hS0).1 (by simp [maxLen]; omega) (by simp [kFl]; omega) hS0.size ?_
  intro v7 Z1 ho7 hg7 _
  have hS7 : Below Y.heap.size Y Z1 := Keep.below (S := fun _ => False) hS0 (Keep.of_grown hg7 (fun k e => by cases e)) hS0.size (fun _ h => h.elim)
  refine hK.out _ _ hS7 (fun _ => ?_)
  clear hK Kc
  try simp only [Act.put, List.setIfInBounds_toArray, List.set_cons_zero, List.set_cons_succ]
  refine tail_one (i := 15) (by kernel_rfl) rfl (by decide) (fun Kc hK => ?_)
  refine held_wanted' rfl (by rfl) ?_
  refine heldOp_append_k (k := kFl) (.tmp 23) (.tmp 30) 31 rfl Y.heap.size ifl (by kernel_rfl) hif1 hif2 hif3 hif4 _ TK rfl ho7 _ DK rfl (HRK.out Z1 hS7).2 (by simp [maxLen]; omega) (by simp [kFl]; omega) hS7.size ?_
  intro v17 Z4 ho17 hg17 _
  have hS17 : Below Y.heap.size Y Z4 := Keep.below (S := fun i => Y.heap.size ≤ i) hS7 (Keep.of_grown hg17 (fun i e => (ho7.lt i e).1)) hS7.size (fun _ h => h)
  obtain ⟨A8, c8, e8⟩ := ho17.shape
  obtain ⟨N8, hN8⟩ : ∃ n, (TK ++ DK).length = n := ⟨_, rfl⟩
  rw [hN8] at e8
  clear hN8
  subst e8
  refine hK.out _ _ hS17 (fun _ => ?_)
  clear hK Kc
  try simp only [Act.put, List.setIfInBounds_toArray, List.set_cons_zero, List.set_cons_succ]
  have hxl := HXL.out Z4 hS17
  have hfx := hxl.frozen 0
  have hxc := (HE.out Z4 hS17).1
  have HO := Lib.hid ho17
  clear ho17 hg17 ho7 hg7 hS7
  refine' tail_take (i := 16) (oi := ⟨some 32, _, _, _, _, _⟩) (v := _) rfl (by kernel_rfl) (by kernel_rfl) (by decide) (fun _ _ _ h => h) (Or.inl ⟨by rfl, ?y16t⟩) hS17 ?r16t
  case y16t =>
    intro w' hSw
    go_simp
    try rfl
  try simp only [Act.put, List.setIfInBounds_toArray, List.set_cons_zero, List.set_cons_succ]
  refine' tail_take (i := 17) (oi := ⟨some 33, _, _, _, _, _⟩) (v := _) rfl (by kernel_rfl) (by kernel_rfl) (by decide) (fun _ _ _ h => h) (Or.inl ⟨by rfl, ?y17t⟩) hS17 ?r17t
  case y17t =>
    intro w' hSw
    go_simp
    try rfl
  try simp only [Act.put, List.setIfInBounds_toArray, List.set_cons_zero, List.set_cons_succ]
  refine tail_last (by kernel_rfl) rfl (by kernel_rfl) (fun Kc hK => ?_)
  go_simp
  refine hK.out _ _ ?_
  clear hK Kc
  all_goals have HZ := Lib.hid (HFIN.out Z4 _ _ _ hS17 HO.out)
  all_goals have hks := Keep.setCell (S := fun i => i = x) Z4 ⟨x, 0, none⟩ (.slice A8 N8 c8) rfl
  all_goals obtain ⟨hBY, hxb⟩ := HBB.out
  all_goals have hxl2 := hxw.out
  all_goals have hB4 : Blk (Z4.setCell ⟨x, 0, none⟩ (.slice A8 N8 c8)) w.heap.size 44 #[.int .i64 0, .int .i64 0, .slice none 0 0] := (hBY.below hS17 hBY.lt).kept hks (by omega)
  all_goals have hX4 : Blk (Z4.setCell ⟨x, 0, none⟩ (.slice A8 N8 c8)) X.heap.size 44 #[.int .i64 q.1, .int .i64 q.2, .slice t0 t1 t2] := (hxb.below hS17 hxb.lt).kept hks (fun e => by
    have h1 := HXL.out Z4 hS17
    have h2 := hxb.below hS17 hxb.lt
    rw [e] at h2
    have h3 := h1.symm.trans h2
    injection h3 with h3
    injection h3 with _ h4 _
    exact absurd h4 (by decide))
  all_goals clear hxl hfx hxc hks hBY hxb HBB HXL HE HO HFIN HRK
  all_goals generalize Z4.setCell ⟨x, 0, none⟩ (.slice A8 N8 c8) = Z at HZ hB4 hX4 ⊢
  all_goals have b0 : Z.cell? ⟨X.heap.size, 0, none⟩ = some (.int .i64 q.1) := by rw [hX4.cell]; rfl
  all_goals have b1 : Z.cell? ⟨X.heap.size, 1, none⟩ = some (.int .i64 q.2) := by rw [hX4.cell]; rfl
  all_goals have b2 : Z.cell? ⟨X.heap.size, 2, none⟩ = some (.slice t0 t1 t2) := by rw [hX4.cell]; rfl
  all_goals have s0 : Z.cell? ⟨w.heap.size, 0, none⟩ = some (.int .i64 0) := by rw [hB4.cell]; rfl
  all_goals have s1 : Z.cell? ⟨w.heap.size, 1, none⟩ = some (.int .i64 0) := by rw [hB4.cell]; rfl
  all_goals have s2 : Z.cell? ⟨w.heap.size, 2, none⟩ = some (.slice none 0 0) := by rw [hB4.cell]; rfl
  all_goals have f0 := hB4.frozen 0
  all_goals have f1 := hB4.frozen 1
  all_goals have f2 := hB4.frozen 2
  all_goals have hzz := hB4.lt
  all_goals have hE : Blk (((Z.setCell ⟨w.heap.size, 0, none⟩ (.int .i64 q.1)).setCell ⟨w.heap.size, 1, none⟩ (.int .i64 q.2)).setCell ⟨w.heap.size, 2, none⟩ (.slice t0 t1 t2)) w.heap.size 44 #[.int .i64 q.1, .int .i64 q.2, .slice t0 t1 t2] := ((hB4.set_ 0 (.int .i64 q.1)).set_ 1 (.int .i64 q.2)).set_ 2 (.slice t0 t1 t2)
  all_goals have HE := Lib.hid hE
  all_goals have HB4 := Lib.hid hB4
  all_goals clear hE hB4 hX4
  all_goals go_wp2
  all_goals exact bodyPost_ret (v := .tuple #[.agg #[.int .i64 q.1, .int .i64 q.2, .slice t0 t1 t2], .int .i64 0]) (results_row_tmp rfl _ _ w.heap.size 44 _ (0, 0) _ rfl HE.out Try.underlying44 rfl info_fl3 _ rfl) rfl ⟨rfl, RnEnd.set3 HZ.out.1.1 HZ.out.1.2 (Nat.le_refl _) HB4.out HZ.out.2 _ _ _⟩
end
end Go.Proofs.Ytellbmghahgjfaa

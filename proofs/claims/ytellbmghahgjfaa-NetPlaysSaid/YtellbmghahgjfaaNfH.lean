/-
  The laws' do: Kinds 2 to 6, and those that do nothing.
-/
import Derived.Test.YtellbmghahgjfaaNfG
namespace Go.Proofs.Ytellbmghahgjfaa
open Go.RowKit Go.Maps
open NetM
set_option linter.unusedVariables false
set_option linter.unusedSimpArgs false
set_option maxRecDepth 20000
theorem Two.lt3 {B : Nat} {W : World} {p b x : Nat} {E lv lr : Int} {V R : List (Fl Pl)} (h : Two B W p b x E lv V lr R) : ∀ i, Of3 p b x i → i < W.heap.size := by
  obtain ⟨K, G, hn, hG⟩ := h.nt
  obtain ⟨s, hr⟩ := h.rf
  rintro i ((rfl | rfl) | rfl)
  · exact hn.blk.lt
  · exact hn.map.lt
  · exact hr.blk.lt
theorem Two.ge3 {B : Nat} {W : World} {p b x : Nat} {E lv lr : Int} {V R : List (Fl Pl)} (h : Two B W p b x E lv V lr R) : ∀ i, Of3 p b x i → B ≤ i := by
  rintro i ((rfl | rfl) | rfl)
  · exact h.hp
  · exact h.hb
  · exact h.xb
theorem Two.lost0 {B : Nat} {W : World} {p b x : Nat} {E lv lr : Int} {V R : List (Fl Pl)} (h : Two B W p b x E lv V lr R) : 0 ≤ lv := by
  obtain ⟨K, G, hn, hG⟩ := h.nt
  exact hn.lst
/-- What an act, done to both, leaves. -/
def DoE (w W : World) (p b x : Nat) (E lv : Int) (e : Ending) (W' : World) : Prop :=
  e = .returned (.bool true) ∧ Keep (Of3 p b x) W W' ∧ ∃ lv' V' R', lv' ≤ lv + 70 ∧ Two w.heap.size W' p b x E lv' V' lv' R' ∧ pv V' = pv R'
theorem sameB_self (q : Pr) (l : List UInt8) : sameB q l q l = true := by simp [sameB]
set_option maxHeartbeats 8000000 in
theorem do4 {w W : World} {p b x : Nat} {E lv : Int} {V R : List (Fl Pl)} (hW : Below w.heap.size w W) (h : Two w.heap.size W p b x E lv V lv R) (he : pv V = pv R) (hl0 : 0 ≤ lv) (hlo : lv ≤ 1000000) (q : Pr) (hz : q.1 ≤ 9223372036854775807) (A : Option Addr) (n c : Nat) (l : List UInt8) (hs : Sl w (.slice A n c) l) (hl : l.length ≤ 20000) :
    Calls Try.prog 15 #[.pointer (some ⟨p, 0, none⟩), .pointer (some ⟨x, 0, none⟩), .agg #[.int .i64 4, .int .i64 q.1, .int .i64 q.2, .slice A n c]] W (DoE w W p b x E lv) := by
  have hfo : Try.prog.follows .mixedOrders = true := by kernel_rfl
  have hb1 : Below W.heap.size W (W.alloc (.cells #[.int .i64 4, .int .i64 q.1, .int .i64 q.2, .slice A n c] 39)) := (Below.refl _ _).alloc (Nat.le_refl _) _
  have hbx := Blk.new W 39 #[.int .i64 4, .int .i64 q.1, .int .i64 q.2, .slice A n c]
  have hlt := Lib.hid h.lt3
  have hY0 := h.below hb1
  have hWY := hW.trans (hb1.mono hW.size)
  have hV16 := h.few
  have hRl : R.length ≤ 100000 := by have := pv_lens he; omega
  have hge := Lib.hid h.ge3
  go_enter Try.func15, Try.ntmps15
  go_upto_region 1 with fail
  generalize W.alloc (.cells #[.int .i64 4, .int .i64 q.1, .int .i64 q.2, .slice A n c] 39) = Y at hb1 hbx hY0 hWY ⊢
  have HC := Lib.hid (show ∀ Z, Keep (Of3 p b x) Y Z → Z.cell? ⟨W.heap.size, 0, none⟩ = some (.int .i64 4) ∧ Z.cell? ⟨W.heap.size, 1, none⟩ = some (.int .i64 q.1) ∧ Z.cell? ⟨W.heap.size, 2, none⟩ = some (.int .i64 q.2) ∧ Z.cell? ⟨W.heap.size, 3, none⟩ = some (.slice A n c) from fun Z hZ => by
    have hf := hbx.kept hZ (fun hi => Nat.lt_irrefl _ (hlt.out _ hi))
    exact ⟨by rw [hf.cell]; rfl, by rw [hf.cell]; rfl, by rw [hf.cell]; rfl, by rw [hf.cell]; rfl⟩)
  have HSL := Lib.hid (show ∀ Z, Keep (Of3 p b x) Y Z → Sl Z (.slice A n c) l from fun Z hZ => hs.below (Keep.below hWY hZ hWY.size hge.out))
  have HKW := Lib.hid (show ∀ Z, Keep (Of3 p b x) Y Z → Keep (Of3 p b x) W Z from fun Z hZ => (Keep.of_below hb1).trans hZ (fun _ h => h) (fun _ _ h => h))
  have hB := hWY.size
  have hYW := hb1.size
  have z0 := (HC.out Y (Keep.refl _ _)).1
  clear hbx h hW hs hb1 hWY
  go_upto_region 18 with fail
  refine wp_region_held_drew (S := fun Z => Keep (Of3 p b x) Y Z) hfo ((Keep.refl (Of3 p b x) Y).trans (Keep.of_below (show Below Y.heap.size Y Y.drew from (Below.refl _ _).drew)) (fun _ h => h) (fun _ _ h => h)) (fun hS0 => ?_)
  have hT0 := hY0.below (show Below Y.heap.size Y Y.drew from (Below.refl _ _).drew)
  generalize Y.drew = Z0 at hS0 hT0 ⊢
  refine' wpAnyH_take (i := 0) (oi := ⟨some 100, _, _, _, _, _⟩) (v := _) rfl (by kernel_rfl) (by kernel_rfl) (by kernel_rfl) (fun _ _ _ h => h) (Or.inl ⟨by rfl, ?y0d⟩) hS0 ?r0d
  case y0d =>
    intro w' hSw
    obtain ⟨c0, c1', c2', c3⟩ := HC.out _ hSw
    go_simp
    try rfl
  try simp only [Act.put, List.setIfInBounds_toArray, List.set_cons_zero, List.set_cons_succ]
  refine' wpAnyH_take (i := 1) (oi := ⟨some 101, _, _, _, _, _⟩) (v := _) rfl (by kernel_rfl) (by kernel_rfl) (by kernel_rfl) (fun _ _ _ h => h) (Or.inl ⟨by rfl, ?y1d⟩) hS0 ?r1d
  case y1d =>
    intro w' hSw
    obtain ⟨c0, c1', c2', c3⟩ := HC.out _ hSw
    go_simp
    try rfl
  try simp only [Act.put, List.setIfInBounds_toArray, List.set_cons_zero, List.set_cons_succ]
  refine' wpAnyH_take (i := 2) (oi := ⟨some 102, _, _, _, _, _⟩) (v := _) rfl (by kernel_rfl) (by kernel_rfl) (by kernel_rfl) (fun _ _ _ h => h) (Or.inl ⟨by rfl, ?y2d⟩) hS0 ?r2d
  case y2d =>
    intro w' hSw
    obtain ⟨c0, c1', c2', c3⟩ := HC.out _ hSw
    go_simp
    try rfl
  try simp only [Act.put, List.setIfInBounds_toArray, List.set_cons_zero, List.set_cons_succ]
  refine' wpAnyH_take (i := 5) (oi := ⟨some 105, _, _, _, _, _⟩) (v := _) rfl (by kernel_rfl) (by kernel_rfl) (by kernel_rfl) (fun _ _ _ h => h) (Or.inl ⟨by rfl, ?y5d⟩) hS0 ?r5d
  case y5d =>
    intro w' hSw
    obtain ⟨c0, c1', c2', c3⟩ := HC.out _ hSw
    go_simp
    try rfl
  try simp only [Act.put, List.setIfInBounds_toArray, List.set_cons_zero, List.set_cons_succ]
  refine' wpAnyH_take (i := 6) (oi := ⟨some 106, _, _, _, _, _⟩) (v := _) rfl (by kernel_rfl) (by kernel_rfl) (by kernel_rfl) (fun _ _ _ h => h) (Or.inl ⟨by rfl, ?y6d⟩) hS0 ?r6d
  case y6d =>
    intro w' hSw
    obtain ⟨c0, c1', c2', c3⟩ := HC.out _ hSw
    go_simp
    try rfl
  try simp only [Act.put, List.setIfInBounds_toArray, List.set_cons_zero, List.set_cons_succ]
  refine' wpAnyH_take (i := 7) (oi := ⟨some 107, _, _, _, _, _⟩) (v := _) rfl (by kernel_rfl) (by kernel_rfl) (by kernel_rfl) (fun _ _ _ h => h) (Or.inl ⟨by rfl, ?y7d⟩) hS0 ?r7d
  case y7d =>
    intro w' hSw
    obtain ⟨c0, c1', c2', c3⟩ := HC.out _ hSw
    go_simp
    try rfl
  try simp only [Act.put, List.setIfInBounds_toArray, List.set_cons_zero, List.set_cons_succ]
  refine held_one (i := 3) (by kernel_rfl) rfl (fun Kc hK => ?_)
  refine held_wanted' rfl (by rfl) ?_
  go_simp
  refine (two_double hT0 (Nat.le_trans hB hS0.size) q.1 hz).mono ?_
  rintro e Z1 ⟨n1, rfl, k1, V1, hT1, hR1⟩
  have hS1 := hS0.trans k1 (fun _ h => h) (fun _ _ h => h)
  refine hK.out _ _ hS1 (fun _ => ?_)
  clear hK Kc
  try simp only [Act.put, List.setIfInBounds_toArray, List.set_cons_zero, List.set_cons_succ]
  refine held_one (i := 4) (by kernel_rfl) rfl (fun Kc hK => ?_)
  refine held_wanted' rfl (by rfl) ?_
  go_simp
  refine (num_any n1 Z1).mono ?_
  rintro e w2 ⟨rfl, hzz⟩
  obtain rfl := hzz.symm
  refine hK.out _ _ hS1 (fun _ => ?_)
  clear hK Kc
  try simp only [Act.put, List.setIfInBounds_toArray, List.set_cons_zero, List.set_cons_succ]
  refine held_one (i := 8) (by kernel_rfl) rfl (fun Kc hK => ?_)
  refine held_wanted' rfl (by rfl) ?_
  go_simp
  refine (two_refDouble hT1 (Nat.le_trans hB hS1.size) hRl q.1).mono ?_
  rintro e Z2 ⟨n2, rfl, k2, R2, hT2, hR2⟩
  obtain ⟨rfl, he2⟩ := hR1.agree hR2 he
  have hS2 := hS1.trans k2 (fun _ h => h) (fun _ _ h => h)
  refine hK.out _ _ hS2 (fun _ => ?_)
  clear hK Kc
  try simp only [Act.put, List.setIfInBounds_toArray, List.set_cons_zero, List.set_cons_succ]
  refine' wpAnyH_take (i := 9) (oi := ⟨some 109, _, _, _, _, _⟩) (v := _) rfl (by kernel_rfl) (by kernel_rfl) (by kernel_rfl) (fun _ _ _ h => h) (Or.inl ⟨by rfl, ?y9d⟩) hS2 ?r9d
  case y9d =>
    intro w' hSw
    go_simp
    try rfl
  try simp only [Act.put, List.setIfInBounds_toArray, List.set_cons_zero, List.set_cons_succ]
  refine' wpAnyH_take (i := 10) (oi := ⟨some 6, _, _, _, _, _⟩) (v := _) rfl (by kernel_rfl) (by kernel_rfl) (by kernel_rfl) (fun _ _ _ h => h) (Or.inl ⟨by rfl, ?y10d⟩) hS2 ?r10d
  case y10d =>
    intro w' hSw
    go_simp
    try rfl
  try simp only [Act.put, List.setIfInBounds_toArray, List.set_cons_zero, List.set_cons_succ]
  refine wpAnyH_done (by kernel_rfl) ?_ _
  go_wp2
  go_ret
  exact ⟨rfl, HKW.out _ hS2, lv, V1, R2, by omega, hT2, he2⟩
set_option maxHeartbeats 8000000 in
theorem do5 {w W : World} {p b x : Nat} {E lv : Int} {V R : List (Fl Pl)} (hW : Below w.heap.size w W) (h : Two w.heap.size W p b x E lv V lv R) (he : pv V = pv R) (hl0 : 0 ≤ lv) (hlo : lv ≤ 1000000) (q : Pr) (hz : q.1 ≤ 9223372036854775807) (A : Option Addr) (n c : Nat) (l : List UInt8) (hs : Sl w (.slice A n c) l) (hl : l.length ≤ 20000) :
    Calls Try.prog 15 #[.pointer (some ⟨p, 0, none⟩), .pointer (some ⟨x, 0, none⟩), .agg #[.int .i64 5, .int .i64 q.1, .int .i64 q.2, .slice A n c]] W (DoE w W p b x E lv) := by
  have hfo : Try.prog.follows .mixedOrders = true := by kernel_rfl
  have hb1 : Below W.heap.size W (W.alloc (.cells #[.int .i64 5, .int .i64 q.1, .int .i64 q.2, .slice A n c] 39)) := (Below.refl _ _).alloc (Nat.le_refl _) _
  have hbx := Blk.new W 39 #[.int .i64 5, .int .i64 q.1, .int .i64 q.2, .slice A n c]
  have hlt := Lib.hid h.lt3
  have hY0 := h.below hb1
  have hWY := hW.trans (hb1.mono hW.size)
  have hV16 := h.few
  have hRl : R.length ≤ 100000 := by have := pv_lens he; omega
  have hge := Lib.hid h.ge3
  go_enter Try.func15, Try.ntmps15
  go_upto_region 1 with fail
  generalize W.alloc (.cells #[.int .i64 5, .int .i64 q.1, .int .i64 q.2, .slice A n c] 39) = Y at hb1 hbx hY0 hWY ⊢
  have HC := Lib.hid (show ∀ Z, Keep (Of3 p b x) Y Z → Z.cell? ⟨W.heap.size, 0, none⟩ = some (.int .i64 5) ∧ Z.cell? ⟨W.heap.size, 1, none⟩ = some (.int .i64 q.1) ∧ Z.cell? ⟨W.heap.size, 2, none⟩ = some (.int .i64 q.2) ∧ Z.cell? ⟨W.heap.size, 3, none⟩ = some (.slice A n c) from fun Z hZ => by
    have hf := hbx.kept hZ (fun hi => Nat.lt_irrefl _ (hlt.out _ hi))
    exact ⟨by rw [hf.cell]; rfl, by rw [hf.cell]; rfl, by rw [hf.cell]; rfl, by rw [hf.cell]; rfl⟩)
  have HSL := Lib.hid (show ∀ Z, Keep (Of3 p b x) Y Z → Sl Z (.slice A n c) l from fun Z hZ => hs.below (Keep.below hWY hZ hWY.size hge.out))
  have HKW := Lib.hid (show ∀ Z, Keep (Of3 p b x) Y Z → Keep (Of3 p b x) W Z from fun Z hZ => (Keep.of_below hb1).trans hZ (fun _ h => h) (fun _ _ h => h))
  have hB := hWY.size
  have hYW := hb1.size
  have z0 := (HC.out Y (Keep.refl _ _)).1
  clear hbx h hW hs hb1 hWY
  go_upto_region 20 with fail
  refine wp_region_held_drew (S := fun Z => Keep (Of3 p b x) Y Z) hfo ((Keep.refl (Of3 p b x) Y).trans (Keep.of_below (show Below Y.heap.size Y Y.drew from (Below.refl _ _).drew)) (fun _ h => h) (fun _ _ h => h)) (fun hS0 => ?_)
  have hT0 := hY0.below (show Below Y.heap.size Y Y.drew from (Below.refl _ _).drew)
  generalize Y.drew = Z0 at hS0 hT0 ⊢
  refine' wpAnyH_take (i := 0) (oi := ⟨some 112, _, _, _, _, _⟩) (v := _) rfl (by kernel_rfl) (by kernel_rfl) (by kernel_rfl) (fun _ _ _ h => h) (Or.inl ⟨by rfl, ?y0c⟩) hS0 ?r0c
  case y0c =>
    intro w' hSw
    obtain ⟨c0, c1', c2', c3⟩ := HC.out _ hSw
    go_simp
    try rfl
  try simp only [Act.put, List.setIfInBounds_toArray, List.set_cons_zero, List.set_cons_succ]
  refine' wpAnyH_take (i := 1) (oi := ⟨some 113, _, _, _, _, _⟩) (v := _) rfl (by kernel_rfl) (by kernel_rfl) (by kernel_rfl) (fun _ _ _ h => h) (Or.inl ⟨by rfl, ?y1c⟩) hS0 ?r1c
  case y1c =>
    intro w' hSw
    obtain ⟨c0, c1', c2', c3⟩ := HC.out _ hSw
    go_simp
    try rfl
  try simp only [Act.put, List.setIfInBounds_toArray, List.set_cons_zero, List.set_cons_succ]
  refine' wpAnyH_take (i := 2) (oi := ⟨some 114, _, _, _, _, _⟩) (v := _) rfl (by kernel_rfl) (by kernel_rfl) (by kernel_rfl) (fun _ _ _ h => h) (Or.inl ⟨by rfl, ?y2c⟩) hS0 ?r2c
  case y2c =>
    intro w' hSw
    obtain ⟨c0, c1', c2', c3⟩ := HC.out _ hSw
    go_simp
    try rfl
  try simp only [Act.put, List.setIfInBounds_toArray, List.set_cons_zero, List.set_cons_succ]
  refine' wpAnyH_take (i := 4) (oi := ⟨some 116, _, _, _, _, _⟩) (v := _) rfl (by kernel_rfl) (by kernel_rfl) (by kernel_rfl) (fun _ _ _ h => h) (Or.inl ⟨by rfl, ?y4c⟩) hS0 ?r4c
  case y4c =>
    intro w' hSw
    obtain ⟨c0, c1', c2', c3⟩ := HC.out _ hSw
    go_simp
    try rfl
  try simp only [Act.put, List.setIfInBounds_toArray, List.set_cons_zero, List.set_cons_succ]
  refine' wpAnyH_take (i := 5) (oi := ⟨some 117, _, _, _, _, _⟩) (v := _) rfl (by kernel_rfl) (by kernel_rfl) (by kernel_rfl) (fun _ _ _ h => h) (Or.inl ⟨by rfl, ?y5c⟩) hS0 ?r5c
  case y5c =>
    intro w' hSw
    obtain ⟨c0, c1', c2', c3⟩ := HC.out _ hSw
    go_simp
    try rfl
  try simp only [Act.put, List.setIfInBounds_toArray, List.set_cons_zero, List.set_cons_succ]
  refine' wpAnyH_take (i := 6) (oi := ⟨some 118, _, _, _, _, _⟩) (v := _) rfl (by kernel_rfl) (by kernel_rfl) (by kernel_rfl) (fun _ _ _ h => h) (Or.inl ⟨by rfl, ?y6c⟩) hS0 ?r6c
  case y6c =>
    intro w' hSw
    obtain ⟨c0, c1', c2', c3⟩ := HC.out _ hSw
    go_simp
    try rfl
  try simp only [Act.put, List.setIfInBounds_toArray, List.set_cons_zero, List.set_cons_succ]
  refine held_one (i := 3) (by kernel_rfl) rfl (fun Kc hK => ?_)
  refine held_wanted' rfl (by rfl) ?_
  go_simp
  refine (two_clear hT0 (Nat.le_trans hB hS0.size) q.1).mono ?_
  rintro e Z1 ⟨n1, rfl, k1, hn1, hT1⟩
  have hS1 := hS0.trans k1 (fun _ h => h) (fun _ _ h => h)
  have HN1 := Lib.hid hn1
  clear hn1
  refine hK.out _ _ hS1 (fun _ => ?_)
  clear hK Kc
  try simp only [Act.put, List.setIfInBounds_toArray, List.set_cons_zero, List.set_cons_succ]
  refine held_one (i := 7) (by kernel_rfl) rfl (fun Kc hK => ?_)
  refine held_wanted' rfl (by rfl) ?_
  go_simp
  refine (two_refClear hT1 (Nat.le_trans hB hS1.size) hRl q.1).mono ?_
  rintro e Z2 ⟨n2, rfl, k2, hn2, hT2⟩
  obtain rfl : n1 = n2 := by rw [HN1.out, hn2, pv_lens he, pv_clears he]
  clear hn2
  have hS2 := hS1.trans k2 (fun _ h => h) (fun _ _ h => h)
  refine hK.out _ _ hS2 (fun _ => ?_)
  clear hK Kc
  try simp only [Act.put, List.setIfInBounds_toArray, List.set_cons_zero, List.set_cons_succ]
  refine' wpAnyH_take (i := 8) (oi := ⟨some 120, _, _, _, _, _⟩) (v := _) rfl (by kernel_rfl) (by kernel_rfl) (by kernel_rfl) (fun _ _ _ h => h) (Or.inl ⟨by rfl, ?y8c⟩) hS2 ?r8c
  case y8c =>
    intro w' hSw
    go_simp
    try rfl
  try simp only [Act.put, List.setIfInBounds_toArray, List.set_cons_zero, List.set_cons_succ]
  refine' wpAnyH_take (i := 9) (oi := ⟨some 6, _, _, _, _, _⟩) (v := _) rfl (by kernel_rfl) (by kernel_rfl) (by kernel_rfl) (fun _ _ _ h => h) (Or.inl ⟨by rfl, ?y9c⟩) hS2 ?r9c
  case y9c =>
    intro w' hSw
    go_simp
    try rfl
  try simp only [Act.put, List.setIfInBounds_toArray, List.set_cons_zero, List.set_cons_succ]
  refine wpAnyH_done (by kernel_rfl) ?_ _
  go_wp2
  go_ret
  exact ⟨rfl, HKW.out _ hS2, lv, _, _, by omega, hT2, by rw [pv_clear, pv_clear, he]⟩
set_option maxHeartbeats 8000000 in
theorem do6 {w W : World} {p b x : Nat} {E lv : Int} {V R : List (Fl Pl)} (hW : Below w.heap.size w W) (h : Two w.heap.size W p b x E lv V lv R) (he : pv V = pv R) (hl0 : 0 ≤ lv) (hlo : lv ≤ 1000000) (q : Pr) (hz : q.1 ≤ 9223372036854775807) (A : Option Addr) (n c : Nat) (l : List UInt8) (hs : Sl w (.slice A n c) l) (hl : l.length ≤ 20000) :
    Calls Try.prog 15 #[.pointer (some ⟨p, 0, none⟩), .pointer (some ⟨x, 0, none⟩), .agg #[.int .i64 6, .int .i64 q.1, .int .i64 q.2, .slice A n c]] W (DoE w W p b x E lv) := by
  have hfo : Try.prog.follows .mixedOrders = true := by kernel_rfl
  have hb1 : Below W.heap.size W (W.alloc (.cells #[.int .i64 6, .int .i64 q.1, .int .i64 q.2, .slice A n c] 39)) := (Below.refl _ _).alloc (Nat.le_refl _) _
  have hbx := Blk.new W 39 #[.int .i64 6, .int .i64 q.1, .int .i64 q.2, .slice A n c]
  have hlt := Lib.hid h.lt3
  have hY0 := h.below hb1
  have hWY := hW.trans (hb1.mono hW.size)
  have hV16 := h.few
  have hRl : R.length ≤ 100000 := by have := pv_lens he; omega
  have hge := Lib.hid h.ge3
  go_enter Try.func15, Try.ntmps15
  go_upto_region 1 with fail
  generalize W.alloc (.cells #[.int .i64 6, .int .i64 q.1, .int .i64 q.2, .slice A n c] 39) = Y at hb1 hbx hY0 hWY ⊢
  have HC := Lib.hid (show ∀ Z, Keep (Of3 p b x) Y Z → Z.cell? ⟨W.heap.size, 0, none⟩ = some (.int .i64 6) ∧ Z.cell? ⟨W.heap.size, 1, none⟩ = some (.int .i64 q.1) ∧ Z.cell? ⟨W.heap.size, 2, none⟩ = some (.int .i64 q.2) ∧ Z.cell? ⟨W.heap.size, 3, none⟩ = some (.slice A n c) from fun Z hZ => by
    have hf := hbx.kept hZ (fun hi => Nat.lt_irrefl _ (hlt.out _ hi))
    exact ⟨by rw [hf.cell]; rfl, by rw [hf.cell]; rfl, by rw [hf.cell]; rfl, by rw [hf.cell]; rfl⟩)
  have HSL := Lib.hid (show ∀ Z, Keep (Of3 p b x) Y Z → Sl Z (.slice A n c) l from fun Z hZ => hs.below (Keep.below hWY hZ hWY.size hge.out))
  have HKW := Lib.hid (show ∀ Z, Keep (Of3 p b x) Y Z → Keep (Of3 p b x) W Z from fun Z hZ => (Keep.of_below hb1).trans hZ (fun _ h => h) (fun _ _ h => h))
  have hB := hWY.size
  have hYW := hb1.size
  have z0 := (HC.out Y (Keep.refl _ _)).1
  clear hbx h hW hs hb1 hWY
  have her0 := Lib.hid he
  go_upto_region 22 with fail
  clear z0
  go_wp2
  go_loopw [16] (fun z wx => ∃ k : Nat, k ≤ 70 ∧ z = .int .i64 (k : Int) ∧ Keep (Of3 p b x) Y wx ∧ ∃ lv' V' R', lv' ≤ lv + (k : Int) ∧ Two w.heap.size wx p b x E lv' V' lv' R' ∧ Hid (pv V' = pv R')) (fun z _ => 70 - (intOf z).toNat)
  case atStart => exact ⟨0, by omega, rfl, Keep.refl _ _, lv, V, R, by omega, hY0, her0⟩
  case round =>
    obtain ⟨k, hk, rfl, hkr, lvr, Vr, Rr, hlr, hTr, her⟩ := hrel
    have hlr0 := hTr.lost0
    have hRr : Rr.length ≤ 100000 := by have := pv_lens her.out; have := hTr.few; omega
    by_cases hlt2 : k < 70
    · have hkI : (k : Int) < 70 := by omega
      go_upto_region 25 with fail
      refine wp_region_held_drew (S := fun Z => Keep (Of3 p b x) Y Z) hfo (hkr.trans (Keep.of_below (show Below wr.heap.size wr wr.drew from (Below.refl _ _).drew)) (fun _ h => h) (fun _ _ h => h)) (fun hS0 => ?_)
      have hT0 := hTr.below (show Below wr.heap.size wr wr.drew from (Below.refl _ _).drew)
      generalize wr.drew = Z0 at hS0 hT0 ⊢
      refine' wpAnyH_take (i := 0) (oi := ⟨some 127, _, _, _, _, _⟩) (v := _) rfl (by kernel_rfl) (by kernel_rfl) (by kernel_rfl) (fun _ _ _ h => h) (Or.inl ⟨by rfl, ?y0s⟩) hS0 ?r0s
      case y0s =>
        intro w' hSw
        obtain ⟨c0, c1', c2', c3⟩ := HC.out _ hSw
        go_simp
        try rfl
      try simp only [Act.put, List.setIfInBounds_toArray, List.set_cons_zero, List.set_cons_succ]
      refine' wpAnyH_take (i := 1) (oi := ⟨some 128, _, _, _, _, _⟩) (v := _) rfl (by kernel_rfl) (by kernel_rfl) (by kernel_rfl) (fun _ _ _ h => h) (Or.inl ⟨by rfl, ?y1s⟩) hS0 ?r1s
      case y1s =>
        intro w' hSw
        obtain ⟨c0, c1', c2', c3⟩ := HC.out _ hSw
        go_simp
        try rfl
      try simp only [Act.put, List.setIfInBounds_toArray, List.set_cons_zero, List.set_cons_succ]
      refine' wpAnyH_take (i := 2) (oi := ⟨some 129, _, _, _, _, _⟩) (v := _) rfl (by kernel_rfl) (by kernel_rfl) (by kernel_rfl) (fun _ _ _ h => h) (Or.inl ⟨by rfl, ?y2s⟩) hS0 ?r2s
      case y2s =>
        intro w' hSw
        obtain ⟨c0, c1', c2', c3⟩ := HC.out _ hSw
        go_simp
        try rfl
      try simp only [Act.put, List.setIfInBounds_toArray, List.set_cons_zero, List.set_cons_succ]
      refine' wpAnyH_take (i := 3) (oi := ⟨some 130, _, _, _, _, _⟩) (v := _) rfl (by kernel_rfl) (by kernel_rfl) (by kernel_rfl) (fun _ _ _ h => h) (Or.inl ⟨by rfl, ?y3s⟩) hS0 ?r3s
      case y3s =>
        intro w' hSw
        obtain ⟨c0, c1', c2', c3⟩ := HC.out _ hSw
        go_simp
        try rfl
      try simp only [Act.put, List.setIfInBounds_toArray, List.set_cons_zero, List.set_cons_succ]
      refine' wpAnyH_take (i := 4) (oi := ⟨some 131, _, _, _, _, _⟩) (v := _) rfl (by kernel_rfl) (by kernel_rfl) (by kernel_rfl) (fun _ _ _ h => h) (Or.inl ⟨by rfl, ?y4s⟩) hS0 ?r4s
      case y4s =>
        intro w' hSw
        obtain ⟨c0, c1', c2', c3⟩ := HC.out _ hSw
        go_simp
        try rfl
      try simp only [Act.put, List.setIfInBounds_toArray, List.set_cons_zero, List.set_cons_succ]
      refine' wpAnyH_take (i := 5) (oi := ⟨some 132, _, _, _, _, _⟩) (v := _) rfl (by kernel_rfl) (by kernel_rfl) (by kernel_rfl) (fun _ _ _ h => h) (Or.inl ⟨by rfl, ?y5s⟩) hS0 ?r5s
      case y5s =>
        intro w' hSw
        obtain ⟨c0, c1', c2', c3⟩ := HC.out _ hSw
        go_simp
        try rfl
      try simp only [Act.put, List.setIfInBounds_toArray, List.set_cons_zero, List.set_cons_succ]
      refine' wpAnyH_take (i := 6) (oi := ⟨some 133, _, _, _, _, _⟩) (v := _) rfl (by kernel_rfl) (by kernel_rfl) (by kernel_rfl) (fun _ _ _ h => h) (Or.inl ⟨by rfl, ?y6s⟩) hS0 ?r6s
      case y6s =>
        intro w' hSw
        obtain ⟨c0, c1', c2', c3⟩ := HC.out _ hSw
        go_simp
        try rfl
      try simp only [Act.put, List.setIfInBounds_toArray, List.set_cons_zero, List.set_cons_succ]
      refine' wpAnyH_take (i := 9) (oi := ⟨some 136, _, _, _, _, _⟩) (v := _) rfl (by kernel_rfl) (by kernel_rfl) (by kernel_rfl) (fun _ _ _ h => h) (Or.inl ⟨by rfl, ?y9s⟩) hS0 ?r9s
      case y9s =>
        intro w' hSw
        obtain ⟨c0, c1', c2', c3⟩ := HC.out _ hSw
        go_simp
        try rfl
      try simp only [Act.put, List.setIfInBounds_toArray, List.set_cons_zero, List.set_cons_succ]
      refine' wpAnyH_take (i := 10) (oi := ⟨some 137, _, _, _, _, _⟩) (v := _) rfl (by kernel_rfl) (by kernel_rfl) (by kernel_rfl) (fun _ _ _ h => h) (Or.inl ⟨by rfl, ?y10s⟩) hS0 ?r10s
      case y10s =>
        intro w' hSw
        obtain ⟨c0, c1', c2', c3⟩ := HC.out _ hSw
        go_simp
        try rfl
      try simp only [Act.put, List.setIfInBounds_toArray, List.set_cons_zero, List.set_cons_succ]
      refine' wpAnyH_take (i := 11) (oi := ⟨some 138, _, _, _, _, _⟩) (v := _) rfl (by kernel_rfl) (by kernel_rfl) (by kernel_rfl) (fun _ _ _ h => h) (Or.inl ⟨by rfl, ?y11s⟩) hS0 ?r11s
      case y11s =>
        intro w' hSw
        obtain ⟨c0, c1', c2', c3⟩ := HC.out _ hSw
        go_simp
        try rfl
      try simp only [Act.put, List.setIfInBounds_toArray, List.set_cons_zero, List.set_cons_succ]
      refine' wpAnyH_take (i := 12) (oi := ⟨some 139, _, _, _, _, _⟩) (v := _) rfl (by kernel_rfl) (by kernel_rfl) (by kernel_rfl) (fun _ _ _ h => h) (Or.inl ⟨by rfl, ?y12s⟩) hS0 ?r12s
      case y12s =>
        intro w' hSw
        obtain ⟨c0, c1', c2', c3⟩ := HC.out _ hSw
        go_simp
        try rfl
      try simp only [Act.put, List.setIfInBounds_toArray, List.set_cons_zero, List.set_cons_succ]
      refine' wpAnyH_take (i := 13) (oi := ⟨some 140, _, _, _, _, _⟩) (v := _) rfl (by kernel_rfl) (by kernel_rfl) (by kernel_rfl) (fun _ _ _ h => h) (Or.inl ⟨by rfl, ?y13s⟩) hS0 ?r13s
      case y13s =>
        intro w' hSw
        obtain ⟨c0, c1', c2', c3⟩ := HC.out _ hSw
        go_simp
        try rfl
      try simp only [Act.put, List.setIfInBounds_toArray, List.set_cons_zero, List.set_cons_succ]
      refine' wpAnyH_take (i := 14) (oi := ⟨some 141, _, _, _, _, _⟩) (v := _) rfl (by kernel_rfl) (by kernel_rfl) (by kernel_rfl) (fun _ _ _ h => h) (Or.inl ⟨by rfl, ?y14s⟩) hS0 ?r14s
      case y14s =>
        intro w' hSw
        obtain ⟨c0, c1', c2', c3⟩ := HC.out _ hSw
        go_simp
        try rfl
      try simp only [Act.put, List.setIfInBounds_toArray, List.set_cons_zero, List.set_cons_succ]
      refine' wpAnyH_take (i := 15) (oi := ⟨some 142, _, _, _, _, _⟩) (v := _) rfl (by kernel_rfl) (by kernel_rfl) (by kernel_rfl) (fun _ _ _ h => h) (Or.inl ⟨by rfl, ?y15s⟩) hS0 ?r15s
      case y15s =>
        intro w' hSw
        obtain ⟨c0, c1', c2', c3⟩ := HC.out _ hSw
        go_simp
        try rfl
      try simp only [Act.put, List.setIfInBounds_toArray, List.set_cons_zero, List.set_cons_succ]
      refine held_one (i := 7) (by kernel_rfl) rfl (fun Kc hK => ?_)
      refine held_wanted' rfl (by rfl) ?_
      go_simp
      refine (two_send hT0 (Nat.le_trans hB hS0.size) (by omega) q A n c l (HSL.out Z0 hS0)).mono ?_
      rintro e Z1 ⟨n1, rfl, k1, lv1, V1, hT1, hR1⟩
      have hS1 := hS0.trans k1 (fun _ h => h) (fun _ _ h => h)
      refine hK.out _ _ hS1 (fun _ => ?_)
      clear hK Kc
      try simp only [Act.put, List.setIfInBounds_toArray, List.set_cons_zero, List.set_cons_succ]
      refine held_one (i := 8) (by kernel_rfl) rfl (fun Kc hK => ?_)
      refine held_wanted' rfl (by rfl) ?_
      go_simp
      refine (num_any n1 Z1).mono ?_
      rintro e w2 ⟨rfl, hzz⟩
      obtain rfl := hzz.symm
      refine hK.out _ _ hS1 (fun _ => ?_)
      clear hK Kc
      try simp only [Act.put, List.setIfInBounds_toArray, List.set_cons_zero, List.set_cons_succ]
      refine held_one (i := 16) (by kernel_rfl) rfl (fun Kc hK => ?_)
      refine held_wanted' rfl (by rfl) ?_
      go_simp
      refine (two_refSend hT1 (Nat.le_trans hB hS1.size) hRr hlr0 (by omega) q A n c l (HSL.out Z1 hS1)).mono ?_
      rintro e Z2 ⟨n2, rfl, k2, lv2, R2, hT2, hR2⟩
      have hle := hR1.le
      obtain ⟨rfl, rfl, he2⟩ := hR1.agree hR2 rfl her.out
      have hS2 := hS1.trans k2 (fun _ h => h) (fun _ _ h => h)
      refine hK.out _ _ hS2 (fun _ => ?_)
      clear hK Kc
      try simp only [Act.put, List.setIfInBounds_toArray, List.set_cons_zero, List.set_cons_succ]
      refine' wpAnyH_take (i := 17) (oi := ⟨some 144, _, _, _, _, _⟩) (v := (.bool false)) rfl (by kernel_rfl) (by kernel_rfl) (by kernel_rfl) (fun _ _ _ h => h) (Or.inl ⟨by rfl, ?y17s⟩) hS2 ?r17s
      case y17s =>
        intro w' hSw
        go_simp
        try simp
        try rfl
      try simp only [Act.put, List.setIfInBounds_toArray, List.set_cons_zero, List.set_cons_succ]
      refine wpAnyH_done (by kernel_rfl) ?_ _
      go_wp2
      go_roundw
      case rel => exact ⟨k + 1, by omega, by go_num, hS2, lv1, V1, R2, by omega, hT2, Lib.hid he2⟩
      case measure => simp [intOf]; omega
    · obtain rfl : k = 70 := by omega
      go_wp2
      go_ret
      exact ⟨rfl, HKW.out _ hkr, lvr, Vr, Rr, by omega, hTr, her.out⟩
set_option maxHeartbeats 8000000 in
theorem do2 {w W : World} {p b x : Nat} {E lv : Int} {V R : List (Fl Pl)} (hW : Below w.heap.size w W) (h : Two w.heap.size W p b x E lv V lv R) (he : pv V = pv R) (hl0 : 0 ≤ lv) (hlo : lv ≤ 1000000) (q : Pr) (hz : q.1 ≤ 9223372036854775807) (A : Option Addr) (n c : Nat) (l : List UInt8) (hs : Sl w (.slice A n c) l) (hl : l.length ≤ 20000) :
    Calls Try.prog 15 #[.pointer (some ⟨p, 0, none⟩), .pointer (some ⟨x, 0, none⟩), .agg #[.int .i64 2, .int .i64 q.1, .int .i64 q.2, .slice A n c]] W (DoE w W p b x E lv) := by
  have hfo : Try.prog.follows .mixedOrders = true := by kernel_rfl
  have hb1 : Below W.heap.size W (W.alloc (.cells #[.int .i64 2, .int .i64 q.1, .int .i64 q.2, .slice A n c] 39)) := (Below.refl _ _).alloc (Nat.le_refl _) _
  have hbx := Blk.new W 39 #[.int .i64 2, .int .i64 q.1, .int .i64 q.2, .slice A n c]
  have hlt := Lib.hid h.lt3
  have hY0 := h.below hb1
  have hWY := hW.trans (hb1.mono hW.size)
  have hV16 := h.few
  have hRl : R.length ≤ 100000 := by have := pv_lens he; omega
  have hge := Lib.hid h.ge3
  go_enter Try.func15, Try.ntmps15
  go_upto_region 1 with fail
  generalize W.alloc (.cells #[.int .i64 2, .int .i64 q.1, .int .i64 q.2, .slice A n c] 39) = Y at hb1 hbx hY0 hWY ⊢
  have HC := Lib.hid (show ∀ Z, Keep (Of3 p b x) Y Z → Z.cell? ⟨W.heap.size, 0, none⟩ = some (.int .i64 2) ∧ Z.cell? ⟨W.heap.size, 1, none⟩ = some (.int .i64 q.1) ∧ Z.cell? ⟨W.heap.size, 2, none⟩ = some (.int .i64 q.2) ∧ Z.cell? ⟨W.heap.size, 3, none⟩ = some (.slice A n c) from fun Z hZ => by
    have hf := hbx.kept hZ (fun hi => Nat.lt_irrefl _ (hlt.out _ hi))
    exact ⟨by rw [hf.cell]; rfl, by rw [hf.cell]; rfl, by rw [hf.cell]; rfl, by rw [hf.cell]; rfl⟩)
  have HSL := Lib.hid (show ∀ Z, Keep (Of3 p b x) Y Z → Sl Z (.slice A n c) l from fun Z hZ => hs.below (Keep.below hWY hZ hWY.size hge.out))
  have HKW := Lib.hid (show ∀ Z, Keep (Of3 p b x) Y Z → Keep (Of3 p b x) W Z from fun Z hZ => (Keep.of_below hb1).trans hZ (fun _ h => h) (fun _ _ h => h))
  have hB := hWY.size
  have hYW := hb1.size
  have z0 := (HC.out Y (Keep.refl _ _)).1
  clear hbx h hW hs hb1 hWY
  have z1 := (HC.out Y (Keep.refl _ _)).2.1
  go_upto_region 12 with (go_at_call 19; refine (two_take hY0 hB q.1 hz).mono ?_; rintro e W1 ⟨n1, r1, t0, t1, t2, m1, rfl, k1, hs1, hty1, V1, hT1, hR1⟩)
  have hal : Below W1.heap.size W1 (W1.alloc (.cells #[.int .i64 r1.1, .int .i64 r1.2, .slice t0 t1 t2] 44)) := (Below.refl _ _).alloc (Nat.le_refl _) _
  have hx1 : Blk (W1.alloc (.cells #[.int .i64 r1.1, .int .i64 r1.2, .slice t0 t1 t2] 44)) W1.heap.size 44 #[.int .i64 r1.1, .int .i64 r1.2, .slice t0 t1 t2] := Blk.new W1 _ _
  have hTX := hT1.below hal
  have hsX := hs1.below hal
  have hkX := k1.trans (Keep.of_below hal) (fun _ h => h) (fun _ _ h => h)
  have htX : ∀ i, InB (t0, t1, t2) i → ¬ Of3 p b x i := fun i hi ho => by
    obtain ⟨cs, m, hh⟩ := hty1 i hi
    exact (hT1.off i ho _ _ _ hh).2.1 rfl
  have hg1 : W.heap.size ≤ W1.heap.size := Nat.le_trans hYW k1.size
  have hg2 : ¬ Of3 p b x W1.heap.size := fun ho => by have := hlt.out _ ho; omega
  obtain ⟨g1, hgg⟩ : ∃ z, W1.heap.size = z := ⟨_, rfl⟩
  rw [hgg] at hx1 hg2
  rw [hgg]
  generalize W1.alloc (.cells #[.int .i64 r1.1, .int .i64 r1.2, .slice t0 t1 t2] 44) = X at hx1 hTX hsX hkX ⊢
  clear hgg hal hT1 hs1 hty1 z1 z0 k1
  have z1 := (HC.out X hkX).2.1
  have hBX : w.heap.size ≤ X.heap.size := Nat.le_trans hB hkX.size
  go_upto_region 13 with (go_at_call 32; refine (two_refTake hTX hBX hRl q.1).mono ?_; rintro e W2 ⟨n2, r2, u0, u1, u2, m2, rfl, k2, hs2, hty2, R2, hT2, hR2⟩; obtain ⟨rfl, rfl, rfl, he2⟩ := hR1.agree hR2 he)
  have hx2 := hx1.kept k2 hg2
  have hsX2 := InB.sl (s := (t0, t1, t2)) hsX k2 htX
  have hal : Below W2.heap.size W2 (W2.alloc (.cells #[.int .i64 r1.1, .int .i64 r1.2, .slice u0 u1 u2] 44)) := (Below.refl _ _).alloc (Nat.le_refl _) _
  have hx3 : Blk (W2.alloc (.cells #[.int .i64 r1.1, .int .i64 r1.2, .slice u0 u1 u2] 44)) W2.heap.size 44 #[.int .i64 r1.1, .int .i64 r1.2, .slice u0 u1 u2] := Blk.new W2 _ _
  have hT3 := hT2.below hal
  have hk3 := (hkX.trans k2 (fun _ h => h) (fun _ _ h => h)).trans (Keep.of_below hal) (fun _ h => h) (fun _ _ h => h)
  have hx4 := hx2.below hal hx2.lt
  have ha1 := hsX2.below hal
  have ha2 := hs2.below hal
  obtain ⟨g2, hgg⟩ : ∃ z, W2.heap.size = z := ⟨_, rfl⟩
  rw [hgg] at hx3
  rw [hgg]
  generalize W2.alloc (.cells #[.int .i64 r1.1, .int .i64 r1.2, .slice u0 u1 u2] 44) = X2 at hx3 hT3 hk3 hx4 ha1 ha2 ⊢
  clear hgg hal hx2 hsX2 hs2 hty2 hT2 k2 z1 hTX hsX hkX htX hx1 hR1 hR2
  have a0 : X2.cell? ⟨g1, 0, none⟩ = some (.int .i64 r1.1) := by rw [hx4.cell]; rfl
  have a1 : X2.cell? ⟨g1, 1, none⟩ = some (.int .i64 r1.2) := by rw [hx4.cell]; rfl
  have a2 : X2.cell? ⟨g1, 2, none⟩ = some (.slice t0 t1 t2) := by rw [hx4.cell]; rfl
  have b0 : X2.cell? ⟨g2, 0, none⟩ = some (.int .i64 r1.1) := by rw [hx3.cell]; rfl
  have b1 : X2.cell? ⟨g2, 1, none⟩ = some (.int .i64 r1.2) := by rw [hx3.cell]; rfl
  have b2 : X2.cell? ⟨g2, 2, none⟩ = some (.slice u0 u1 u2) := by rw [hx3.cell]; rfl
  have HSM := Lib.hid (show Calls Try.prog 26 #[.agg #[.int .i64 r1.1, .int .i64 r1.2, .slice t0 t1 t2], .agg #[.int .i64 r1.1, .int .i64 r1.2, .slice u0 u1 u2]] X2 fun e W' => e = .returned (.bool true) ∧ Below X2.heap.size X2 W' from by
    have := same_any r1 r1 _ _ m1 m1 X2 ha1 ha2
    rw [sameB_self] at this
    exact this)
  clear hx3 hx4 ha1 ha2
  go_wp2_with (first | (go_at_call 26; refine HSM.out.mono ?_; rintro e X3 ⟨rfl, hb3⟩) | (go_at_call 10; refine (num_any _ _).mono ?_; rintro e w2 ⟨rfl, hwd⟩; obtain rfl := hwd.symm))
  go_ret
  exact ⟨rfl, HKW.out _ (hk3.trans (Keep.of_below hb3) (fun _ h => h) (fun _ _ h => h)), lv, V1, R2, by omega, hT3.below hb3, he2⟩
set_option maxHeartbeats 8000000 in
theorem do3 {w W : World} {p b x : Nat} {E lv : Int} {V R : List (Fl Pl)} (hW : Below w.heap.size w W) (h : Two w.heap.size W p b x E lv V lv R) (he : pv V = pv R) (hl0 : 0 ≤ lv) (hlo : lv ≤ 1000000) (q : Pr) (hz : q.1 ≤ 9223372036854775807) (A : Option Addr) (n c : Nat) (l : List UInt8) (hs : Sl w (.slice A n c) l) (hl : l.length ≤ 20000) :
    Calls Try.prog 15 #[.pointer (some ⟨p, 0, none⟩), .pointer (some ⟨x, 0, none⟩), .agg #[.int .i64 3, .int .i64 q.1, .int .i64 q.2, .slice A n c]] W (DoE w W p b x E lv) := by
  have hfo : Try.prog.follows .mixedOrders = true := by kernel_rfl
  have hb1 : Below W.heap.size W (W.alloc (.cells #[.int .i64 3, .int .i64 q.1, .int .i64 q.2, .slice A n c] 39)) := (Below.refl _ _).alloc (Nat.le_refl _) _
  have hbx := Blk.new W 39 #[.int .i64 3, .int .i64 q.1, .int .i64 q.2, .slice A n c]
  have hlt := Lib.hid h.lt3
  have hY0 := h.below hb1
  have hWY := hW.trans (hb1.mono hW.size)
  have hV16 := h.few
  have hRl : R.length ≤ 100000 := by have := pv_lens he; omega
  have hge := Lib.hid h.ge3
  go_enter Try.func15, Try.ntmps15
  go_upto_region 1 with fail
  generalize W.alloc (.cells #[.int .i64 3, .int .i64 q.1, .int .i64 q.2, .slice A n c] 39) = Y at hb1 hbx hY0 hWY ⊢
  have HC := Lib.hid (show ∀ Z, Keep (Of3 p b x) Y Z → Z.cell? ⟨W.heap.size, 0, none⟩ = some (.int .i64 3) ∧ Z.cell? ⟨W.heap.size, 1, none⟩ = some (.int .i64 q.1) ∧ Z.cell? ⟨W.heap.size, 2, none⟩ = some (.int .i64 q.2) ∧ Z.cell? ⟨W.heap.size, 3, none⟩ = some (.slice A n c) from fun Z hZ => by
    have hf := hbx.kept hZ (fun hi => Nat.lt_irrefl _ (hlt.out _ hi))
    exact ⟨by rw [hf.cell]; rfl, by rw [hf.cell]; rfl, by rw [hf.cell]; rfl, by rw [hf.cell]; rfl⟩)
  have HSL := Lib.hid (show ∀ Z, Keep (Of3 p b x) Y Z → Sl Z (.slice A n c) l from fun Z hZ => hs.below (Keep.below hWY hZ hWY.size hge.out))
  have HKW := Lib.hid (show ∀ Z, Keep (Of3 p b x) Y Z → Keep (Of3 p b x) W Z from fun Z hZ => (Keep.of_below hb1).trans hZ (fun _ h => h) (fun _ _ h => h))
  have hB := hWY.size
  have hYW := hb1.size
  have z0 := (HC.out Y (Keep.refl _ _)).1
  clear hbx h hW hs hb1 hWY
  have z1 := (HC.out Y (Keep.refl _ _)).2.1
  go_upto_region 16 with (go_at_call 32; refine (two_refTake hY0 hB hRl q.1).mono ?_; rintro e W1 ⟨n1, r1, t0, t1, t2, m1, rfl, k1, hs1, hty1, R1, hT1, hR1⟩)
  have hal : Below W1.heap.size W1 (W1.alloc (.cells #[.int .i64 r1.1, .int .i64 r1.2, .slice t0 t1 t2] 44)) := (Below.refl _ _).alloc (Nat.le_refl _) _
  have hTX := hT1.below hal
  have hkX := k1.trans (Keep.of_below hal) (fun _ h => h) (fun _ _ h => h)
  generalize W1.alloc (.cells #[.int .i64 r1.1, .int .i64 r1.2, .slice t0 t1 t2] 44) = X at hTX hkX ⊢
  clear hal hT1 hs1 hty1 z1 z0 k1
  have z1 := (HC.out X hkX).2.1
  have hBX : w.heap.size ≤ X.heap.size := Nat.le_trans hB hkX.size
  go_wp2_with (first | (go_at_call 28; refine (two_drop hTX hBX q.1 hz).mono ?_; rintro e W2 ⟨n2, rfl, k2, q2, m2, V2, hT2, hR2⟩; obtain ⟨rfl, _, _, he2⟩ := hR2.agree hR1 he) | (go_at_call 10; refine (num_any _ _).mono ?_; rintro e w2 ⟨rfl, hwd⟩; obtain rfl := hwd.symm))
  go_ret
  exact ⟨by simp, HKW.out _ (hkX.trans k2 (fun _ h => h) (fun _ _ h => h)), lv, V2, R1, by omega, hT2, he2⟩
set_option maxHeartbeats 8000000 in
theorem do0 {w W : World} {p b x : Nat} {E lv : Int} {V R : List (Fl Pl)} (hW : Below w.heap.size w W) (h : Two w.heap.size W p b x E lv V lv R) (he : pv V = pv R) (hl0 : 0 ≤ lv) (hlo : lv ≤ 1000000) (q : Pr) (hz : q.1 ≤ 9223372036854775807) (A : Option Addr) (n c : Nat) (l : List UInt8) (hs : Sl w (.slice A n c) l) (hl : l.length ≤ 20000) (kd : Int) (h1 : kd ≠ 1) (h2 : kd ≠ 2) (h3 : kd ≠ 3) (h4 : kd ≠ 4) (h5 : kd ≠ 5) (h6 : kd ≠ 6) :
    Calls Try.prog 15 #[.pointer (some ⟨p, 0, none⟩), .pointer (some ⟨x, 0, none⟩), .agg #[.int .i64 kd, .int .i64 q.1, .int .i64 q.2, .slice A n c]] W (DoE w W p b x E lv) := by
  have hfo : Try.prog.follows .mixedOrders = true := by kernel_rfl
  have hb1 : Below W.heap.size W (W.alloc (.cells #[.int .i64 kd, .int .i64 q.1, .int .i64 q.2, .slice A n c] 39)) := (Below.refl _ _).alloc (Nat.le_refl _) _
  have hbx := Blk.new W 39 #[.int .i64 kd, .int .i64 q.1, .int .i64 q.2, .slice A n c]
  have hlt := Lib.hid h.lt3
  have hY0 := h.below hb1
  have hWY := hW.trans (hb1.mono hW.size)
  have hV16 := h.few
  have hRl : R.length ≤ 100000 := by have := pv_lens he; omega
  have hge := Lib.hid h.ge3
  go_enter Try.func15, Try.ntmps15
  go_upto_region 1 with fail
  generalize W.alloc (.cells #[.int .i64 kd, .int .i64 q.1, .int .i64 q.2, .slice A n c] 39) = Y at hb1 hbx hY0 hWY ⊢
  have HC := Lib.hid (show ∀ Z, Keep (Of3 p b x) Y Z → Z.cell? ⟨W.heap.size, 0, none⟩ = some (.int .i64 kd) ∧ Z.cell? ⟨W.heap.size, 1, none⟩ = some (.int .i64 q.1) ∧ Z.cell? ⟨W.heap.size, 2, none⟩ = some (.int .i64 q.2) ∧ Z.cell? ⟨W.heap.size, 3, none⟩ = some (.slice A n c) from fun Z hZ => by
    have hf := hbx.kept hZ (fun hi => Nat.lt_irrefl _ (hlt.out _ hi))
    exact ⟨by rw [hf.cell]; rfl, by rw [hf.cell]; rfl, by rw [hf.cell]; rfl, by rw [hf.cell]; rfl⟩)
  have HSL := Lib.hid (show ∀ Z, Keep (Of3 p b x) Y Z → Sl Z (.slice A n c) l from fun Z hZ => hs.below (Keep.below hWY hZ hWY.size hge.out))
  have HKW := Lib.hid (show ∀ Z, Keep (Of3 p b x) Y Z → Keep (Of3 p b x) W Z from fun Z hZ => (Keep.of_below hb1).trans hZ (fun _ h => h) (fun _ _ h => h))
  have hB := hWY.size
  have hYW := hb1.size
  have z0 := (HC.out Y (Keep.refl _ _)).1
  clear hbx h hW hs hb1 hWY
  have j1 : (kd == 1) = false := by simp [h1]
  have j2 : (kd == 2) = false := by simp [h2]
  have j3 : (kd == 3) = false := by simp [h3]
  have j4 : (kd == 4) = false := by simp [h4]
  have j5 : (kd == 5) = false := by simp [h5]
  have j6 : (kd == 6) = false := by simp [h6]
  go_wp2
  go_ret
  exact ⟨rfl, HKW.out _ (Keep.refl _ _), lv, V, R, by omega, hY0, he⟩
end Go.Proofs.Ytellbmghahgjfaa

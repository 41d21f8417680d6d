/-
  The walk of Append.
-/
import Derived.Test.YtibifnknkphanaaGreatDoorDskAppA
namespace Go.Proofs.YtibifnknkphanaaGreatDoor
open Go.RowKit Go.Maps
open DskM
set_option linter.unusedVariables false
set_option linter.unusedSimpArgs false
set_option maxRecDepth 20000

section
variable {w w' : World} {p m : Nat} {S S' : Ds} {L : List Fo}
set_option maxHeartbeats 4000000 in
theorem append_bad (h : Dk w p m S L) (hw : S.wr ≤ 1000000) (s : ByteArray) (vb : Value) (b : List UInt8) (hs : Sl w vb b) (hm : mayB s.data.toList = false) :
    Calls Tryz.prog 30 #[.pointer (some ⟨p, 0, none⟩), .string s, vb] w (Res w p m L (2, S, plain L)) := by
  have hfo : Tryz.prog.follows .mixedOrders = true := by kernel_rfl
  obtain ⟨A, c, rfl, _, _⟩ := id hs
  have hb0 : Below w.heap.size w (((w.alloc (.cells #[.pointer (some ⟨p, 0, none⟩)] 37)).alloc (.cells #[.string s] 9)).alloc (.cells #[.slice A b.length c] 22)) := (((Below.refl _ _).alloc (Nat.le_refl _) _).alloc (by simp) _).alloc (by simp; omega) _
  have hB1 := ((Blk.new w 37 #[.pointer (some ⟨p, 0, none⟩)]).alloc (.cells #[.string s] 9)).alloc (.cells #[.slice A b.length c] 22)
  have hB2 := (Blk.new (w.alloc (.cells #[.pointer (some ⟨p, 0, none⟩)] 37)) 9 #[.string s]).alloc (.cells #[.slice A b.length c] 22)
  rw [show (w.alloc (.cells #[.pointer (some ⟨p, 0, none⟩)] 37)).heap.size = w.heap.size + 1 by simp] at hB2
  have hB3 := Blk.new ((w.alloc (.cells #[.pointer (some ⟨p, 0, none⟩)] 37)).alloc (.cells #[.string s] 9)) 22 #[.slice A b.length c]
  rw [show ((w.alloc (.cells #[.pointer (some ⟨p, 0, none⟩)] 37)).alloc (.cells #[.string s] 9)).heap.size = w.heap.size + 2 by simp] at hB3
  have h0 := h.below hb0
  have HB0 := Lib.hid hb0
  have hfi := find_bad h0 s true (by rw [hm]; simp)
  have H := Lib.hid h
  clear h hm h0 hB1 hB2 hB3 hb0 hs
  go_enter Tryz.func30, Tryz.ntmps30
  go_wp2_with fail
  refine hfi.mono ?_
  rintro e w1 ⟨rfl, hb1⟩
  have HB1 := Lib.hid (HB0.out.trans (hb1.mono HB0.out.size))
  clear hfi hb1
  go_wp2
  go_ret
  exact ⟨rfl, .same H.out (HB1.out.alloc HB1.out.size _)⟩
set_option maxHeartbeats 4000000 in
theorem append_full_there (h : Dk w p m S L) (hw : S.wr ≤ 1000000) (s : ByteArray) (vb : Value) (b : List UInt8) (hs : Sl w vb b) (hm : mayB s.data.toList = true) (f : Fo) (hf : find L s.data.toList = some f) (hr : S.cap < total L + b.length) :
    Calls Tryz.prog 30 #[.pointer (some ⟨p, 0, none⟩), .string s, vb] w (Res w p m L (5, S, plain L)) := by
  have hfo : Tryz.prog.follows .mixedOrders = true := by kernel_rfl
  obtain ⟨A, c, rfl, _, _⟩ := id hs
  have hb0 : Below w.heap.size w (((w.alloc (.cells #[.pointer (some ⟨p, 0, none⟩)] 37)).alloc (.cells #[.string s] 9)).alloc (.cells #[.slice A b.length c] 22)) := (((Below.refl _ _).alloc (Nat.le_refl _) _).alloc (by simp) _).alloc (by simp; omega) _
  have hB1 := ((Blk.new w 37 #[.pointer (some ⟨p, 0, none⟩)]).alloc (.cells #[.string s] 9)).alloc (.cells #[.slice A b.length c] 22)
  have hB2 := (Blk.new (w.alloc (.cells #[.pointer (some ⟨p, 0, none⟩)] 37)) 9 #[.string s]).alloc (.cells #[.slice A b.length c] 22)
  rw [show (w.alloc (.cells #[.pointer (some ⟨p, 0, none⟩)] 37)).heap.size = w.heap.size + 1 by simp] at hB2
  have hB3 := Blk.new ((w.alloc (.cells #[.pointer (some ⟨p, 0, none⟩)] 37)).alloc (.cells #[.string s] 9)) 22 #[.slice A b.length c]
  rw [show ((w.alloc (.cells #[.pointer (some ⟨p, 0, none⟩)] 37)).alloc (.cells #[.string s] 9)).heap.size = w.heap.size + 2 by simp] at hB3
  have h0 := h.below hb0
  have HB0 := Lib.hid hb0
  have hfi := find_there h0 s hm f hf
  have hful : decide ((S.cap : Int) - (total L : Int) < (b.length : Int)) = true := decide_eq_true (by omega)
  have H := Lib.hid h
  have HW := Lib.hid hw
  have HSL := Lib.hid hs
  have HMAY := Lib.hid hm
  have HFIND := Lib.hid hf
  have HLT := Lib.hid h.lt
  have hpl := h.blk.lt
  clear h hm hf hw h0 hb0 hs
  go_enter Tryz.func30, Tryz.ntmps30
  go_wp2_with fail
  refine hfi.mono ?_
  rintro e w1 ⟨rfl, hb1⟩
  clear hfi
  have hb2 : Below w.heap.size w (w1.alloc (.cells #[.pointer (some ⟨f.g, 0, none⟩)] 108)) := (HB0.out.trans (hb1.mono HB0.out.size)).alloc (by have := hb1.size; have := HB0.out.size; omega) _
  have hC1 := (hB1.below hb1 hB1.lt).alloc (.cells #[.pointer (some ⟨f.g, 0, none⟩)] 108)
  have hC2 := (hB2.below hb1 hB2.lt).alloc (.cells #[.pointer (some ⟨f.g, 0, none⟩)] 108)
  have hC3 := (hB3.below hb1 hB3.lt).alloc (.cells #[.pointer (some ⟨f.g, 0, none⟩)] 108)
  have hC4 := Blk.new w1 108 #[.pointer (some ⟨f.g, 0, none⟩)]
  have hgz : w.heap.size ≤ w1.heap.size := (HB0.out.trans (hb1.mono HB0.out.size)).size
  clear hB1 hB2 hB3 hb1
  go_wp2_with fail
  generalize w1.heap.size = g at hC4 hgz ⊢
  generalize w1.alloc (.cells #[.pointer (some ⟨f.g, 0, none⟩)] 108) = W1 at hb2 hC1 hC2 hC3 hC4 ⊢
  have HD1 := Lib.hid (H.out.below hb2)
  have cd : W1.cell? ⟨w.heap.size, 0, none⟩ = some (.pointer (some ⟨p, 0, none⟩)) := by rw [hC1.cell]; rfl
  have cb : W1.cell? ⟨w.heap.size + 2, 0, none⟩ = some (.slice A b.length c) := by rw [hC3.cell]; rfl
  have cf : W1.cell? ⟨g, 0, none⟩ = some (.pointer (some ⟨f.g, 0, none⟩)) := by rw [hC4.cell]; rfl
  have HC := Lib.hid (And.intro hC1 (And.intro hC2 (And.intro hC3 hC4)))
  clear hC1 hC2 hC3 hC4
  refine wp_region_held_drew (S := fun w' => Keeps W1.drew w' ∧ w'.ownsMap Tryz.prog 9 ptrR m L.length (DE L)) hfo ⟨Keeps.refl _, HD1.out.map.drew⟩ (fun hS0 => ?_)
  have hd2 : Dk W1.drew p m S L := HD1.out.below (Below.refl _ _).drew
  have hsz2 : W1.drew.heap.size = W1.heap.size := rfl
  have hbw : Below W1.heap.size W1 W1.drew := (Below.refl _ _).drew
  have cb2 : W1.drew.cell? ⟨w.heap.size + 2, 0, none⟩ = some (.slice A b.length c) := by rw [World.cell?_drew]; exact cb
  have cd2 : W1.drew.cell? ⟨w.heap.size, 0, none⟩ = some (.pointer (some ⟨p, 0, none⟩)) := by rw [World.cell?_drew]; exact cd
  have cf2 : W1.drew.cell? ⟨g, 0, none⟩ = some (.pointer (some ⟨f.g, 0, none⟩)) := by rw [World.cell?_drew]; exact cf
  clear cb cd cf
  have cb := cb2
  have cd := cd2
  have cf := cf2
  clear cb2 cd2 cf2
  generalize W1.drew = W2 at hS0 hd2 hsz2 hbw cb cd cf ⊢
  have hroom := room_any hd2
  have cm := hd2.c1
  have HD2 := Lib.hid hd2
  clear hd2
  refine' wpAnyH_take (i := 0) (oi := ⟨some 25, _, _, _, _, _⟩) (v := _) rfl (by kernel_rfl) (by kernel_rfl) (by kernel_rfl) (fun _ _ _ h => h) (Or.inl ⟨by rfl, ?y0⟩) hS0 ?r0
  case y0 => (intro w' hSw; obtain ⟨s0, s1⟩ := hSw; have e := s0 _ _ cb; go_simp; try rfl)
  try simp only [Act.put, List.setIfInBounds_toArray, List.set_cons_zero, List.set_cons_succ]
  refine' wpAnyH_take (i := 1) (oi := ⟨some 26, _, _, _, _, _⟩) (v := _) rfl (by kernel_rfl) (by kernel_rfl) (by kernel_rfl) (fun _ _ _ h => h) (Or.inl ⟨by rfl, ?y1⟩) hS0 ?r1
  case y1 => (intro w' hSw; obtain ⟨s0, s1⟩ := hSw; go_simp; try rfl)
  try simp only [Act.put, List.setIfInBounds_toArray, List.set_cons_zero, List.set_cons_succ]
  refine' wpAnyH_take (i := 2) (oi := ⟨some 27, _, _, _, _, _⟩) (v := _) rfl (by kernel_rfl) (by kernel_rfl) (by kernel_rfl) (fun _ _ _ h => h) (Or.inl ⟨by rfl, ?y2⟩) hS0 ?r2
  case y2 => (intro w' hSw; obtain ⟨s0, s1⟩ := hSw; have e := s0 _ _ cd; go_simp; try rfl)
  try simp only [Act.put, List.setIfInBounds_toArray, List.set_cons_zero, List.set_cons_succ]
  refine held_one (i := 3) (by kernel_rfl) rfl (fun K hK => ?_)
  go_simp
  refine hroom.mono ?_
  rintro e W3 ⟨rfl, hb3⟩
  have hS1 : Keeps W2 W3 ∧ W3.ownsMap Tryz.prog 9 ptrR m L.length (DE L) := ⟨Keeps.of_below hb3, (HD2.out.below hb3).map⟩
  refine hK.out _ _ hS1 (fun _ => ?_)
  clear hK K
  try simp only [Act.put, List.setIfInBounds_toArray, List.set_cons_zero, List.set_cons_succ]
  refine' wpAnyH_take (i := 4) (oi := ⟨some 29, _, _, _, _, _⟩) (v := _) rfl (by kernel_rfl) (by kernel_rfl) (by kernel_rfl) (fun _ _ _ h => h) (Or.inl ⟨by rfl, ?y4⟩) hS1 ?r4
  case y4 => (intro w' hSw; obtain ⟨s0, s1⟩ := hSw; go_simp; try rfl)
  try simp only [Act.put, List.setIfInBounds_toArray, List.set_cons_zero, List.set_cons_succ]
  refine' wpAnyH_take (i := 5) (oi := ⟨some 30, _, _, _, _, _⟩) (v := _) rfl (by kernel_rfl) (by kernel_rfl) (by kernel_rfl) (fun _ _ _ h => h) (Or.inl ⟨by rfl, ?y5⟩) hS1 ?r5
  case y5 => (intro w' hSw; obtain ⟨s0, s1⟩ := hSw; go_simp; try rfl)
  try simp only [Act.put, List.setIfInBounds_toArray, List.set_cons_zero, List.set_cons_succ]
  refine' wpAnyH_take (i := 6) (oi := ⟨some 31, _, _, _, _, _⟩) (v := undef) rfl (by kernel_rfl) (by kernel_rfl) (by kernel_rfl) (fun _ _ _ h => h) (Or.inr ⟨by rfl, rfl⟩) hS1 ?r6
  try simp only [Act.put, List.setIfInBounds_toArray, List.set_cons_zero, List.set_cons_succ]
  refine' wpAnyH_take (i := 7) (oi := ⟨some 32, _, _, _, _, _⟩) (v := undef) rfl (by kernel_rfl) (by kernel_rfl) (by kernel_rfl) (fun _ _ _ h => h) (Or.inr ⟨by rfl, rfl⟩) hS1 ?r7
  try simp only [Act.put, List.setIfInBounds_toArray, List.set_cons_zero, List.set_cons_succ]
  refine' wpAnyH_take (i := 8) (oi := ⟨some 33, _, _, _, _, _⟩) (v := undef) rfl (by kernel_rfl) (by kernel_rfl) (by kernel_rfl) (fun _ _ _ h => h) (Or.inr ⟨by rfl, rfl⟩) hS1 ?r8
  try simp only [Act.put, List.setIfInBounds_toArray, List.set_cons_zero, List.set_cons_succ]
  refine' wpAnyH_take (i := 9) (oi := ⟨some 34, _, _, _, _, _⟩) (v := undef) rfl (by kernel_rfl) (by kernel_rfl) (by kernel_rfl) (fun _ _ _ h => h) (Or.inr ⟨by rfl, rfl⟩) hS1 ?r9
  try simp only [Act.put, List.setIfInBounds_toArray, List.set_cons_zero, List.set_cons_succ]
  refine' wpAnyH_take (i := 10) (oi := ⟨some 35, _, _, _, _, _⟩) (v := undef) rfl (by kernel_rfl) (by kernel_rfl) (by kernel_rfl) (fun _ _ _ h => h) (Or.inr ⟨by rfl, rfl⟩) hS1 ?r10
  try simp only [Act.put, List.setIfInBounds_toArray, List.set_cons_zero, List.set_cons_succ]
  refine' wpAnyH_take (i := 11) (oi := ⟨some 36, _, _, _, _, _⟩) (v := undef) rfl (by kernel_rfl) (by kernel_rfl) (by kernel_rfl) (fun _ _ _ h => h) (Or.inr ⟨by rfl, rfl⟩) hS1 ?r11
  try simp only [Act.put, List.setIfInBounds_toArray, List.set_cons_zero, List.set_cons_succ]
  refine' wpAnyH_take (i := 12) (oi := ⟨some 37, _, _, _, _, _⟩) (v := undef) rfl (by kernel_rfl) (by kernel_rfl) (by kernel_rfl) (fun _ _ _ h => h) (Or.inr ⟨by rfl, rfl⟩) hS1 ?r12
  try simp only [Act.put, List.setIfInBounds_toArray, List.set_cons_zero, List.set_cons_succ]
  refine' wpAnyH_take (i := 13) (oi := ⟨some 38, _, _, _, _, _⟩) (v := undef) rfl (by kernel_rfl) (by kernel_rfl) (by kernel_rfl) (fun _ _ _ h => h) (Or.inr ⟨by rfl, rfl⟩) hS1 ?r13
  try simp only [Act.put, List.setIfInBounds_toArray, List.set_cons_zero, List.set_cons_succ]
  refine' wpAnyH_take (i := 14) (oi := ⟨some 39, _, _, _, _, _⟩) (v := undef) rfl (by kernel_rfl) (by kernel_rfl) (by kernel_rfl) (fun _ _ _ h => h) (Or.inr ⟨by rfl, rfl⟩) hS1 ?r14
  try simp only [Act.put, List.setIfInBounds_toArray, List.set_cons_zero, List.set_cons_succ]
  refine' wpAnyH_take (i := 15) (oi := ⟨some 40, _, _, _, _, _⟩) (v := undef) rfl (by kernel_rfl) (by kernel_rfl) (by kernel_rfl) (fun _ _ _ h => h) (Or.inr ⟨by rfl, rfl⟩) hS1 ?r15
  try simp only [Act.put, List.setIfInBounds_toArray, List.set_cons_zero, List.set_cons_succ]
  refine' wpAnyH_take (i := 16) (oi := ⟨some 41, _, _, _, _, _⟩) (v := _) rfl (by kernel_rfl) (by kernel_rfl) (by kernel_rfl) (fun _ _ _ h => h) (Or.inl ⟨by rfl, ?y16⟩) hS1 ?r16
  case y16 => (intro w' hSw; obtain ⟨s0, s1⟩ := hSw; go_simp; try rfl)
  try simp only [Act.put, List.setIfInBounds_toArray, List.set_cons_zero, List.set_cons_succ]
  refine' wpAnyH_take (i := 17) (oi := ⟨some 24, _, _, _, _, _⟩) (v := _) rfl (by kernel_rfl) (by kernel_rfl) (by kernel_rfl) (fun _ _ _ h => h) (Or.inl ⟨by rfl, ?y17⟩) hS1 ?r17
  case y17 => (intro w' hSw; obtain ⟨s0, s1⟩ := hSw; go_simp; try rfl)
  try simp only [Act.put, List.setIfInBounds_toArray, List.set_cons_zero, List.set_cons_succ]
  refine wpAnyH_done (by kernel_rfl) ?_ _
  have HB3 := Lib.hid (hb2.trans ((hbw.trans (hb3.mono (by omega))).mono hb2.size))
  clear hS0 hS1 hbw hb3 hb2 hroom cb cd cf cm
  go_wp2
  go_ret
  exact ⟨rfl, .same H.out HB3.out⟩
set_option maxHeartbeats 4000000 in
theorem append_full_lacks (h : Dk w p m S L) (hw : S.wr ≤ 1000000) (s : ByteArray) (vb : Value) (b : List UInt8) (hs : Sl w vb b) (hm : mayB s.data.toList = true) (hf : find L s.data.toList = none) (hr : S.cap < total L + b.length) :
    Calls Tryz.prog 30 #[.pointer (some ⟨p, 0, none⟩), .string s, vb] w (Res w p m L (5, S, plain L)) := by
  have hfo : Tryz.prog.follows .mixedOrders = true := by kernel_rfl
  obtain ⟨A, c, rfl, _, _⟩ := id hs
  have hb0 : Below w.heap.size w (((w.alloc (.cells #[.pointer (some ⟨p, 0, none⟩)] 37)).alloc (.cells #[.string s] 9)).alloc (.cells #[.slice A b.length c] 22)) := (((Below.refl _ _).alloc (Nat.le_refl _) _).alloc (by simp) _).alloc (by simp; omega) _
  have hB1 := ((Blk.new w 37 #[.pointer (some ⟨p, 0, none⟩)]).alloc (.cells #[.string s] 9)).alloc (.cells #[.slice A b.length c] 22)
  have hB2 := (Blk.new (w.alloc (.cells #[.pointer (some ⟨p, 0, none⟩)] 37)) 9 #[.string s]).alloc (.cells #[.slice A b.length c] 22)
  rw [show (w.alloc (.cells #[.pointer (some ⟨p, 0, none⟩)] 37)).heap.size = w.heap.size + 1 by simp] at hB2
  have hB3 := Blk.new ((w.alloc (.cells #[.pointer (some ⟨p, 0, none⟩)] 37)).alloc (.cells #[.string s] 9)) 22 #[.slice A b.length c]
  rw [show ((w.alloc (.cells #[.pointer (some ⟨p, 0, none⟩)] 37)).alloc (.cells #[.string s] 9)).heap.size = w.heap.size + 2 by simp] at hB3
  have h0 := h.below hb0
  have HB0 := Lib.hid hb0
  have hfi := find_lacks h0 s hm hf
  have hful : decide ((S.cap : Int) - (total L : Int) < (b.length : Int)) = true := decide_eq_true (by omega)
  have H := Lib.hid h
  have HW := Lib.hid hw
  have HSL := Lib.hid hs
  have HMAY := Lib.hid hm
  have HFIND := Lib.hid hf
  have HLT := Lib.hid h.lt
  have hpl := h.blk.lt
  clear h hm hf hw h0 hb0 hs
  go_enter Tryz.func30, Tryz.ntmps30
  go_wp2_with fail
  refine hfi.mono ?_
  rintro e w1 ⟨rfl, hb1⟩
  clear hfi
  have hb2 : Below w.heap.size w (w1.alloc (.cells #[.pointer none] 108)) := (HB0.out.trans (hb1.mono HB0.out.size)).alloc (by have := hb1.size; have := HB0.out.size; omega) _
  have hC1 := (hB1.below hb1 hB1.lt).alloc (.cells #[.pointer none] 108)
  have hC2 := (hB2.below hb1 hB2.lt).alloc (.cells #[.pointer none] 108)
  have hC3 := (hB3.below hb1 hB3.lt).alloc (.cells #[.pointer none] 108)
  have hC4 := Blk.new w1 108 #[.pointer none]
  have hgz : w.heap.size ≤ w1.heap.size := (HB0.out.trans (hb1.mono HB0.out.size)).size
  clear hB1 hB2 hB3 hb1
  go_wp2_with fail
  generalize w1.heap.size = g at hC4 hgz ⊢
  generalize w1.alloc (.cells #[.pointer none] 108) = W1 at hb2 hC1 hC2 hC3 hC4 ⊢
  have HD1 := Lib.hid (H.out.below hb2)
  have cd : W1.cell? ⟨w.heap.size, 0, none⟩ = some (.pointer (some ⟨p, 0, none⟩)) := by rw [hC1.cell]; rfl
  have cb : W1.cell? ⟨w.heap.size + 2, 0, none⟩ = some (.slice A b.length c) := by rw [hC3.cell]; rfl
  have cf : W1.cell? ⟨g, 0, none⟩ = some (.pointer none) := by rw [hC4.cell]; rfl
  have HC := Lib.hid (And.intro hC1 (And.intro hC2 (And.intro hC3 hC4)))
  clear hC1 hC2 hC3 hC4
  refine wp_region_held_drew (S := fun w' => Keeps W1.drew w' ∧ w'.ownsMap Tryz.prog 9 ptrR m L.length (DE L)) hfo ⟨Keeps.refl _, HD1.out.map.drew⟩ (fun hS0 => ?_)
  have hd2 : Dk W1.drew p m S L := HD1.out.below (Below.refl _ _).drew
  have hsz2 : W1.drew.heap.size = W1.heap.size := rfl
  have hbw : Below W1.heap.size W1 W1.drew := (Below.refl _ _).drew
  have cb2 : W1.drew.cell? ⟨w.heap.size + 2, 0, none⟩ = some (.slice A b.length c) := by rw [World.cell?_drew]; exact cb
  have cd2 : W1.drew.cell? ⟨w.heap.size, 0, none⟩ = some (.pointer (some ⟨p, 0, none⟩)) := by rw [World.cell?_drew]; exact cd
  have cf2 : W1.drew.cell? ⟨g, 0, none⟩ = some (.pointer none) := by rw [World.cell?_drew]; exact cf
  clear cb cd cf
  have cb := cb2
  have cd := cd2
  have cf := cf2
  clear cb2 cd2 cf2
  generalize W1.drew = W2 at hS0 hd2 hsz2 hbw cb cd cf ⊢
  have hroom := room_any hd2
  have cm := hd2.c1
  have HD2 := Lib.hid hd2
  clear hd2
  refine' wpAnyH_take (i := 0) (oi := ⟨some 25, _, _, _, _, _⟩) (v := _) rfl (by kernel_rfl) (by kernel_rfl) (by kernel_rfl) (fun _ _ _ h => h) (Or.inl ⟨by rfl, ?y0⟩) hS0 ?r0
  case y0 => (intro w' hSw; obtain ⟨s0, s1⟩ := hSw; have e := s0 _ _ cb; go_simp; try rfl)
  try simp only [Act.put, List.setIfInBounds_toArray, List.set_cons_zero, List.set_cons_succ]
  refine' wpAnyH_take (i := 1) (oi := ⟨some 26, _, _, _, _, _⟩) (v := _) rfl (by kernel_rfl) (by kernel_rfl) (by kernel_rfl) (fun _ _ _ h => h) (Or.inl ⟨by rfl, ?y1⟩) hS0 ?r1
  case y1 => (intro w' hSw; obtain ⟨s0, s1⟩ := hSw; go_simp; try rfl)
  try simp only [Act.put, List.setIfInBounds_toArray, List.set_cons_zero, List.set_cons_succ]
  refine' wpAnyH_take (i := 2) (oi := ⟨some 27, _, _, _, _, _⟩) (v := _) rfl (by kernel_rfl) (by kernel_rfl) (by kernel_rfl) (fun _ _ _ h => h) (Or.inl ⟨by rfl, ?y2⟩) hS0 ?r2
  case y2 => (intro w' hSw; obtain ⟨s0, s1⟩ := hSw; have e := s0 _ _ cd; go_simp; try rfl)
  try simp only [Act.put, List.setIfInBounds_toArray, List.set_cons_zero, List.set_cons_succ]
  refine held_one (i := 3) (by kernel_rfl) rfl (fun K hK => ?_)
  go_simp
  refine hroom.mono ?_
  rintro e W3 ⟨rfl, hb3⟩
  have hS1 : Keeps W2 W3 ∧ W3.ownsMap Tryz.prog 9 ptrR m L.length (DE L) := ⟨Keeps.of_below hb3, (HD2.out.below hb3).map⟩
  refine hK.out _ _ hS1 (fun _ => ?_)
  clear hK K
  try simp only [Act.put, List.setIfInBounds_toArray, List.set_cons_zero, List.set_cons_succ]
  refine' wpAnyH_take (i := 4) (oi := ⟨some 29, _, _, _, _, _⟩) (v := _) rfl (by kernel_rfl) (by kernel_rfl) (by kernel_rfl) (fun _ _ _ h => h) (Or.inl ⟨by rfl, ?y4⟩) hS1 ?r4
  case y4 => (intro w' hSw; obtain ⟨s0, s1⟩ := hSw; go_simp; try rfl)
  try simp only [Act.put, List.setIfInBounds_toArray, List.set_cons_zero, List.set_cons_succ]
  refine' wpAnyH_take (i := 5) (oi := ⟨some 30, _, _, _, _, _⟩) (v := _) rfl (by kernel_rfl) (by kernel_rfl) (by kernel_rfl) (fun _ _ _ h => h) (Or.inl ⟨by rfl, ?y5⟩) hS1 ?r5
  case y5 => (intro w' hSw; obtain ⟨s0, s1⟩ := hSw; go_simp; try rfl)
  try simp only [Act.put, List.setIfInBounds_toArray, List.set_cons_zero, List.set_cons_succ]
  refine' wpAnyH_take (i := 6) (oi := ⟨some 31, _, _, _, _, _⟩) (v := undef) rfl (by kernel_rfl) (by kernel_rfl) (by kernel_rfl) (fun _ _ _ h => h) (Or.inr ⟨by rfl, rfl⟩) hS1 ?r6
  try simp only [Act.put, List.setIfInBounds_toArray, List.set_cons_zero, List.set_cons_succ]
  refine' wpAnyH_take (i := 7) (oi := ⟨some 32, _, _, _, _, _⟩) (v := undef) rfl (by kernel_rfl) (by kernel_rfl) (by kernel_rfl) (fun _ _ _ h => h) (Or.inr ⟨by rfl, rfl⟩) hS1 ?r7
  try simp only [Act.put, List.setIfInBounds_toArray, List.set_cons_zero, List.set_cons_succ]
  refine' wpAnyH_take (i := 8) (oi := ⟨some 33, _, _, _, _, _⟩) (v := undef) rfl (by kernel_rfl) (by kernel_rfl) (by kernel_rfl) (fun _ _ _ h => h) (Or.inr ⟨by rfl, rfl⟩) hS1 ?r8
  try simp only [Act.put, List.setIfInBounds_toArray, List.set_cons_zero, List.set_cons_succ]
  refine' wpAnyH_take (i := 9) (oi := ⟨some 34, _, _, _, _, _⟩) (v := undef) rfl (by kernel_rfl) (by kernel_rfl) (by kernel_rfl) (fun _ _ _ h => h) (Or.inr ⟨by rfl, rfl⟩) hS1 ?r9
  try simp only [Act.put, List.setIfInBounds_toArray, List.set_cons_zero, List.set_cons_succ]
  refine' wpAnyH_take (i := 10) (oi := ⟨some 35, _, _, _, _, _⟩) (v := undef) rfl (by kernel_rfl) (by kernel_rfl) (by kernel_rfl) (fun _ _ _ h => h) (Or.inr ⟨by rfl, rfl⟩) hS1 ?r10
  try simp only [Act.put, List.setIfInBounds_toArray, List.set_cons_zero, List.set_cons_succ]
  refine' wpAnyH_take (i := 11) (oi := ⟨some 36, _, _, _, _, _⟩) (v := undef) rfl (by kernel_rfl) (by kernel_rfl) (by kernel_rfl) (fun _ _ _ h => h) (Or.inr ⟨by rfl, rfl⟩) hS1 ?r11
  try simp only [Act.put, List.setIfInBounds_toArray, List.set_cons_zero, List.set_cons_succ]
  refine' wpAnyH_take (i := 12) (oi := ⟨some 37, _, _, _, _, _⟩) (v := undef) rfl (by kernel_rfl) (by kernel_rfl) (by kernel_rfl) (fun _ _ _ h => h) (Or.inr ⟨by rfl, rfl⟩) hS1 ?r12
  try simp only [Act.put, List.setIfInBounds_toArray, List.set_cons_zero, List.set_cons_succ]
  refine' wpAnyH_take (i := 13) (oi := ⟨some 38, _, _, _, _, _⟩) (v := undef) rfl (by kernel_rfl) (by kernel_rfl) (by kernel_rfl) (fun _ _ _ h => h) (Or.inr ⟨by rfl, rfl⟩) hS1 ?r13
  try simp only [Act.put, List.setIfInBounds_toArray, List.set_cons_zero, List.set_cons_succ]
  refine' wpAnyH_take (i := 14) (oi := ⟨some 39, _, _, _, _, _⟩) (v := undef) rfl (by kernel_rfl) (by kernel_rfl) (by kernel_rfl) (fun _ _ _ h => h) (Or.inr ⟨by rfl, rfl⟩) hS1 ?r14
  try simp only [Act.put, List.setIfInBounds_toArray, List.set_cons_zero, List.set_cons_succ]
  refine' wpAnyH_take (i := 15) (oi := ⟨some 40, _, _, _, _, _⟩) (v := undef) rfl (by kernel_rfl) (by kernel_rfl) (by kernel_rfl) (fun _ _ _ h => h) (Or.inr ⟨by rfl, rfl⟩) hS1 ?r15
  try simp only [Act.put, List.setIfInBounds_toArray, List.set_cons_zero, List.set_cons_succ]
  refine' wpAnyH_take (i := 16) (oi := ⟨some 41, _, _, _, _, _⟩) (v := _) rfl (by kernel_rfl) (by kernel_rfl) (by kernel_rfl) (fun _ _ _ h => h) (Or.inl ⟨by rfl, ?y16⟩) hS1 ?r16
  case y16 => (intro w' hSw; obtain ⟨s0, s1⟩ := hSw; go_simp; try rfl)
  try simp only [Act.put, List.setIfInBounds_toArray, List.set_cons_zero, List.set_cons_succ]
  refine' wpAnyH_take (i := 17) (oi := ⟨some 24, _, _, _, _, _⟩) (v := _) rfl (by kernel_rfl) (by kernel_rfl) (by kernel_rfl) (fun _ _ _ h => h) (Or.inl ⟨by rfl, ?y17⟩) hS1 ?r17
  case y17 => (intro w' hSw; obtain ⟨s0, s1⟩ := hSw; go_simp; try rfl)
  try simp only [Act.put, List.setIfInBounds_toArray, List.set_cons_zero, List.set_cons_succ]
  refine wpAnyH_done (by kernel_rfl) ?_ _
  have HB3 := Lib.hid (hb2.trans ((hbw.trans (hb3.mono (by omega))).mono hb2.size))
  clear hS0 hS1 hbw hb3 hb2 hroom cb cd cf cm
  go_wp2
  go_ret
  exact ⟨rfl, .same H.out HB3.out⟩
set_option maxHeartbeats 4000000 in
theorem append_many (h : Dk w p m S L) (hw : S.wr ≤ 1000000) (s : ByteArray) (vb : Value) (b : List UInt8) (hs : Sl w vb b) (hm : mayB s.data.toList = true) (hf : find L s.data.toList = none) (hr : total L + b.length ≤ S.cap) (h64 : L.length = 64) :
    Calls Tryz.prog 30 #[.pointer (some ⟨p, 0, none⟩), .string s, vb] w (Res w p m L (5, S, plain L)) := by
  have hfo : Tryz.prog.follows .mixedOrders = true := by kernel_rfl
  obtain ⟨A, c, rfl, _, _⟩ := id hs
  have hb0 : Below w.heap.size w (((w.alloc (.cells #[.pointer (some ⟨p, 0, none⟩)] 37)).alloc (.cells #[.string s] 9)).alloc (.cells #[.slice A b.length c] 22)) := (((Below.refl _ _).alloc (Nat.le_refl _) _).alloc (by simp) _).alloc (by simp; omega) _
  have hB1 := ((Blk.new w 37 #[.pointer (some ⟨p, 0, none⟩)]).alloc (.cells #[.string s] 9)).alloc (.cells #[.slice A b.length c] 22)
  have hB2 := (Blk.new (w.alloc (.cells #[.pointer (some ⟨p, 0, none⟩)] 37)) 9 #[.string s]).alloc (.cells #[.slice A b.length c] 22)
  rw [show (w.alloc (.cells #[.pointer (some ⟨p, 0, none⟩)] 37)).heap.size = w.heap.size + 1 by simp] at hB2
  have hB3 := Blk.new ((w.alloc (.cells #[.pointer (some ⟨p, 0, none⟩)] 37)).alloc (.cells #[.string s] 9)) 22 #[.slice A b.length c]
  rw [show ((w.alloc (.cells #[.pointer (some ⟨p, 0, none⟩)] 37)).alloc (.cells #[.string s] 9)).heap.size = w.heap.size + 2 by simp] at hB3
  have h0 := h.below hb0
  have HB0 := Lib.hid hb0
  have hfi := find_lacks h0 s hm hf
  have hful : decide ((S.cap : Int) - (total L : Int) < (b.length : Int)) = false := decide_eq_false (by omega)
  have h64' : ((L.length : Int) == 64) = true := by rw [beq_iff_eq]; omega
  clear h64
  have H := Lib.hid h
  have HW := Lib.hid hw
  have HSL := Lib.hid hs
  have HMAY := Lib.hid hm
  have HFIND := Lib.hid hf
  have HLT := Lib.hid h.lt
  have hpl := h.blk.lt
  clear h hm hf hw h0 hb0 hs
  go_enter Tryz.func30, Tryz.ntmps30
  go_wp2_with fail
  refine hfi.mono ?_
  rintro e w1 ⟨rfl, hb1⟩
  clear hfi
  have hb2 : Below w.heap.size w (w1.alloc (.cells #[.pointer none] 108)) := (HB0.out.trans (hb1.mono HB0.out.size)).alloc (by have := hb1.size; have := HB0.out.size; omega) _
  have hC1 := (hB1.below hb1 hB1.lt).alloc (.cells #[.pointer none] 108)
  have hC2 := (hB2.below hb1 hB2.lt).alloc (.cells #[.pointer none] 108)
  have hC3 := (hB3.below hb1 hB3.lt).alloc (.cells #[.pointer none] 108)
  have hC4 := Blk.new w1 108 #[.pointer none]
  have hgz : w.heap.size ≤ w1.heap.size := (HB0.out.trans (hb1.mono HB0.out.size)).size
  clear hB1 hB2 hB3 hb1
  go_wp2_with fail
  generalize w1.heap.size = g at hC4 hgz ⊢
  generalize w1.alloc (.cells #[.pointer none] 108) = W1 at hb2 hC1 hC2 hC3 hC4 ⊢
  have HD1 := Lib.hid (H.out.below hb2)
  have cd : W1.cell? ⟨w.heap.size, 0, none⟩ = some (.pointer (some ⟨p, 0, none⟩)) := by rw [hC1.cell]; rfl
  have cb : W1.cell? ⟨w.heap.size + 2, 0, none⟩ = some (.slice A b.length c) := by rw [hC3.cell]; rfl
  have cf : W1.cell? ⟨g, 0, none⟩ = some (.pointer none) := by rw [hC4.cell]; rfl
  have HC := Lib.hid (And.intro hC1 (And.intro hC2 (And.intro hC3 hC4)))
  clear hC1 hC2 hC3 hC4
  refine wp_region_held_drew (S := fun w' => Keeps W1.drew w' ∧ w'.ownsMap Tryz.prog 9 ptrR m L.length (DE L)) hfo ⟨Keeps.refl _, HD1.out.map.drew⟩ (fun hS0 => ?_)
  have hd2 : Dk W1.drew p m S L := HD1.out.below (Below.refl _ _).drew
  have hsz2 : W1.drew.heap.size = W1.heap.size := rfl
  have hbw : Below W1.heap.size W1 W1.drew := (Below.refl _ _).drew
  have cb2 : W1.drew.cell? ⟨w.heap.size + 2, 0, none⟩ = some (.slice A b.length c) := by rw [World.cell?_drew]; exact cb
  have cd2 : W1.drew.cell? ⟨w.heap.size, 0, none⟩ = some (.pointer (some ⟨p, 0, none⟩)) := by rw [World.cell?_drew]; exact cd
  have cf2 : W1.drew.cell? ⟨g, 0, none⟩ = some (.pointer none) := by rw [World.cell?_drew]; exact cf
  clear cb cd cf
  have cb := cb2
  have cd := cd2
  have cf := cf2
  clear cb2 cd2 cf2
  generalize W1.drew = W2 at hS0 hd2 hsz2 hbw cb cd cf ⊢
  have hroom := room_any hd2
  have cm := hd2.c1
  have HD2 := Lib.hid hd2
  clear hd2
  refine' wpAnyH_take (i := 0) (oi := ⟨some 25, _, _, _, _, _⟩) (v := _) rfl (by kernel_rfl) (by kernel_rfl) (by kernel_rfl) (fun _ _ _ h => h) (Or.inl ⟨by rfl, ?y0⟩) hS0 ?r0
  case y0 => (intro w' hSw; obtain ⟨s0, s1⟩ := hSw; have e := s0 _ _ cb; go_simp; try rfl)
  try simp only [Act.put, List.setIfInBounds_toArray, List.set_cons_zero, List.set_cons_succ]
  refine' wpAnyH_take (i := 1) (oi := ⟨some 26, _, _, _, _, _⟩) (v := _) rfl (by kernel_rfl) (by kernel_rfl) (by kernel_rfl) (fun _ _ _ h => h) (Or.inl ⟨by rfl, ?y1⟩) hS0 ?r1
  case y1 => (intro w' hSw; obtain ⟨s0, s1⟩ := hSw; go_simp; try rfl)
  try simp only [Act.put, List.setIfInBounds_toArray, List.set_cons_zero, List.set_cons_succ]
  refine' wpAnyH_take (i := 2) (oi := ⟨some 27, _, _, _, _, _⟩) (v := _) rfl (by kernel_rfl) (by kernel_rfl) (by kernel_rfl) (fun _ _ _ h => h) (Or.inl ⟨by rfl, ?y2⟩) hS0 ?r2
  case y2 => (intro w' hSw; obtain ⟨s0, s1⟩ := hSw; have e := s0 _ _ cd; go_simp; try rfl)
  try simp only [Act.put, List.setIfInBounds_toArray, List.set_cons_zero, List.set_cons_succ]
  refine held_one (i := 3) (by kernel_rfl) rfl (fun K hK => ?_)
  go_simp
  refine hroom.mono ?_
  rintro e W3 ⟨rfl, hb3⟩
  have hS1 : Keeps W2 W3 ∧ W3.ownsMap Tryz.prog 9 ptrR m L.length (DE L) := ⟨Keeps.of_below hb3, (HD2.out.below hb3).map⟩
  refine hK.out _ _ hS1 (fun _ => ?_)
  clear hK K
  try simp only [Act.put, List.setIfInBounds_toArray, List.set_cons_zero, List.set_cons_succ]
  refine' wpAnyH_take (i := 4) (oi := ⟨some 29, _, _, _, _, _⟩) (v := _) rfl (by kernel_rfl) (by kernel_rfl) (by kernel_rfl) (fun _ _ _ h => h) (Or.inl ⟨by rfl, ?y4⟩) hS1 ?r4
  case y4 => (intro w' hSw; obtain ⟨s0, s1⟩ := hSw; go_simp; try rfl)
  try simp only [Act.put, List.setIfInBounds_toArray, List.set_cons_zero, List.set_cons_succ]
  refine' wpAnyH_take (i := 5) (oi := ⟨some 30, _, _, _, _, _⟩) (v := _) rfl (by kernel_rfl) (by kernel_rfl) (by kernel_rfl) (fun _ _ _ h => h) (Or.inl ⟨by rfl, ?y5⟩) hS1 ?r5
  case y5 => (intro w' hSw; obtain ⟨s0, s1⟩ := hSw; go_simp; try rfl)
  try simp only [Act.put, List.setIfInBounds_toArray, List.set_cons_zero, List.set_cons_succ]
  refine' wpAnyH_take (i := 6) (oi := ⟨some 31, _, _, _, _, _⟩) (v := _) rfl (by kernel_rfl) (by kernel_rfl) (by kernel_rfl) (fun _ _ _ h => h) (Or.inl ⟨by rfl, ?y6⟩) hS1 ?r6
  case y6 => (intro w' hSw; obtain ⟨s0, s1⟩ := hSw; have e := s0 _ _ cf; go_simp; try rfl)
  try simp only [Act.put, List.setIfInBounds_toArray, List.set_cons_zero, List.set_cons_succ]
  refine' wpAnyH_take (i := 7) (oi := ⟨some 32, _, _, _, _, _⟩) (v := _) rfl (by kernel_rfl) (by kernel_rfl) (by kernel_rfl) (fun _ _ _ h => h) (Or.inl ⟨by rfl, ?y7⟩) hS1 ?r7
  case y7 => (intro w' hSw; obtain ⟨s0, s1⟩ := hSw; go_simp; try rfl)
  try simp only [Act.put, List.setIfInBounds_toArray, List.set_cons_zero, List.set_cons_succ]
  refine' wpAnyH_take (i := 8) (oi := ⟨some 33, _, _, _, _, _⟩) (v := _) rfl (by kernel_rfl) (by kernel_rfl) (by kernel_rfl) (fun _ _ _ h => h) (Or.inl ⟨by rfl, ?y8⟩) hS1 ?r8
  case y8 => (intro w' hSw; obtain ⟨s0, s1⟩ := hSw; go_simp; try rfl)
  try simp only [Act.put, List.setIfInBounds_toArray, List.set_cons_zero, List.set_cons_succ]
  refine' wpAnyH_take (i := 9) (oi := ⟨some 34, _, _, _, _, _⟩) (v := _) rfl (by kernel_rfl) (by kernel_rfl) (by kernel_rfl) (fun _ _ _ h => h) (Or.inl ⟨by rfl, ?y9⟩) hS1 ?r9
  case y9 => (intro w' hSw; obtain ⟨s0, s1⟩ := hSw; have e := s0 _ _ cd; go_simp; try rfl)
  try simp only [Act.put, List.setIfInBounds_toArray, List.set_cons_zero, List.set_cons_succ]
  refine' wpAnyH_take (i := 10) (oi := ⟨some 35, _, _, _, _, _⟩) (v := _) rfl (by kernel_rfl) (by kernel_rfl) (by kernel_rfl) (fun _ _ _ h => h) (Or.inl ⟨by rfl, ?y10⟩) hS1 ?r10
  case y10 => (intro w' hSw; obtain ⟨s0, s1⟩ := hSw; go_simp; try rfl)
  try simp only [Act.put, List.setIfInBounds_toArray, List.set_cons_zero, List.set_cons_succ]
  refine' wpAnyH_take (i := 11) (oi := ⟨some 36, _, _, _, _, _⟩) (v := _) rfl (by kernel_rfl) (by kernel_rfl) (by kernel_rfl) (fun _ _ _ h => h) (Or.inl ⟨by rfl, ?y11⟩) hS1 ?r11
  case y11 => (intro w' hSw; obtain ⟨s0, s1⟩ := hSw; go_simp; try rfl)
  try simp only [Act.put, List.setIfInBounds_toArray, List.set_cons_zero, List.set_cons_succ]
  refine' wpAnyH_take (i := 12) (oi := ⟨some 37, _, _, _, _, _⟩) (v := _) rfl (by kernel_rfl) (by kernel_rfl) (by kernel_rfl) (fun _ _ _ h => h) (Or.inl ⟨by rfl, ?y12⟩) hS1 ?r12
  case y12 => (intro w' hSw; obtain ⟨s0, s1⟩ := hSw; have e := s0 _ _ cm; go_simp; try rfl)
  try simp only [Act.put, List.setIfInBounds_toArray, List.set_cons_zero, List.set_cons_succ]
  refine' wpAnyH_take (i := 13) (oi := ⟨some 38, _, _, _, _, _⟩) (v := _) rfl (by kernel_rfl) (by kernel_rfl) (by kernel_rfl) (fun _ _ _ h => h) (Or.inl ⟨by rfl, ?y13⟩) hS1 ?r13
  case y13 => (intro w' hSw; obtain ⟨s0, s1⟩ := hSw; have e := World.ownsMap.len s1 Tryz.underlying52 3; rw [size_DE] at e; go_simp; try rfl)
  try simp only [Act.put, List.setIfInBounds_toArray, List.set_cons_zero, List.set_cons_succ]
  refine' wpAnyH_take (i := 14) (oi := ⟨some 39, _, _, _, _, _⟩) (v := _) rfl (by kernel_rfl) (by kernel_rfl) (by kernel_rfl) (fun _ _ _ h => h) (Or.inl ⟨by rfl, ?y14⟩) hS1 ?r14
  case y14 => (intro w' hSw; obtain ⟨s0, s1⟩ := hSw; go_simp; try rfl)
  try simp only [Act.put, List.setIfInBounds_toArray, List.set_cons_zero, List.set_cons_succ]
  refine' wpAnyH_take (i := 15) (oi := ⟨some 40, _, _, _, _, _⟩) (v := _) rfl (by kernel_rfl) (by kernel_rfl) (by kernel_rfl) (fun _ _ _ h => h) (Or.inl ⟨by rfl, ?y15⟩) hS1 ?r15
  case y15 => (intro w' hSw; obtain ⟨s0, s1⟩ := hSw; go_simp; try rfl)
  try simp only [Act.put, List.setIfInBounds_toArray, List.set_cons_zero, List.set_cons_succ]
  refine' wpAnyH_take (i := 16) (oi := ⟨some 41, _, _, _, _, _⟩) (v := _) rfl (by kernel_rfl) (by kernel_rfl) (by kernel_rfl) (fun _ _ _ h => h) (Or.inl ⟨by rfl, ?y16⟩) hS1 ?r16
  case y16 => (intro w' hSw; obtain ⟨s0, s1⟩ := hSw; go_simp; try rfl)
  try simp only [Act.put, List.setIfInBounds_toArray, List.set_cons_zero, List.set_cons_succ]
  refine' wpAnyH_take (i := 17) (oi := ⟨some 24, _, _, _, _, _⟩) (v := _) rfl (by kernel_rfl) (by kernel_rfl) (by kernel_rfl) (fun _ _ _ h => h) (Or.inl ⟨by rfl, ?y17⟩) hS1 ?r17
  case y17 => (intro w' hSw; obtain ⟨s0, s1⟩ := hSw; go_simp; try rfl)
  try simp only [Act.put, List.setIfInBounds_toArray, List.set_cons_zero, List.set_cons_succ]
  refine wpAnyH_done (by kernel_rfl) ?_ _
  have HB3 := Lib.hid (hb2.trans ((hbw.trans (hb3.mono (by omega))).mono hb2.size))
  clear hS0 hS1 hbw hb3 hb2 hroom cb cd cf cm
  go_wp2
  go_ret
  exact ⟨rfl, .same H.out HB3.out⟩
set_option maxHeartbeats 4000000 in
theorem append_there (h : Dk w p m S L) (hw : S.wr ≤ 1000000) (s : ByteArray) (vb : Value) (b : List UInt8) (hs : Sl w vb b) (hm : mayB s.data.toList = true) (f : Fo) (hf : find L s.data.toList = some f) (hr : total L + b.length ≤ S.cap) :
    Calls Tryz.prog 30 #[.pointer (some ⟨p, 0, none⟩), .string s, vb] w (Res w p m L (writeS S (setP (plain L) (f.nm, f.bs ++ b, f.la)) (setP (plain L) (f.nm, f.bs ++ b, f.la)) (plain L))) := by
  have hfo : Tryz.prog.follows .mixedOrders = true := by kernel_rfl
  obtain ⟨A, c, rfl, _, _⟩ := id hs
  have hb0 : Below w.heap.size w (((w.alloc (.cells #[.pointer (some ⟨p, 0, none⟩)] 37)).alloc (.cells #[.string s] 9)).alloc (.cells #[.slice A b.length c] 22)) := (((Below.refl _ _).alloc (Nat.le_refl _) _).alloc (by simp) _).alloc (by simp; omega) _
  have hB1 := ((Blk.new w 37 #[.pointer (some ⟨p, 0, none⟩)]).alloc (.cells #[.string s] 9)).alloc (.cells #[.slice A b.length c] 22)
  have hB2 := (Blk.new (w.alloc (.cells #[.pointer (some ⟨p, 0, none⟩)] 37)) 9 #[.string s]).alloc (.cells #[.slice A b.length c] 22)
  rw [show (w.alloc (.cells #[.pointer (some ⟨p, 0, none⟩)] 37)).heap.size = w.heap.size + 1 by simp] at hB2
  have hB3 := Blk.new ((w.alloc (.cells #[.pointer (some ⟨p, 0, none⟩)] 37)).alloc (.cells #[.string s] 9)) 22 #[.slice A b.length c]
  rw [show ((w.alloc (.cells #[.pointer (some ⟨p, 0, none⟩)] 37)).alloc (.cells #[.string s] 9)).heap.size = w.heap.size + 2 by simp] at hB3
  have h0 := h.below hb0
  have HB0 := Lib.hid hb0
  have hfi := find_there h0 s hm f hf
  have hful : decide ((S.cap : Int) - (total L : Int) < (b.length : Int)) = false := decide_eq_false (by omega)
  have H := Lib.hid h
  have HW := Lib.hid hw
  have HSL := Lib.hid hs
  have HMAY := Lib.hid hm
  have HFIND := Lib.hid hf
  have HLT := Lib.hid h.lt
  have hpl := h.blk.lt
  clear h hm hf hw h0 hb0 hs
  go_enter Tryz.func30, Tryz.ntmps30
  go_wp2_with fail
  refine hfi.mono ?_
  rintro e w1 ⟨rfl, hb1⟩
  clear hfi
  have hb2 : Below w.heap.size w (w1.alloc (.cells #[.pointer (some ⟨f.g, 0, none⟩)] 108)) := (HB0.out.trans (hb1.mono HB0.out.size)).alloc (by have := hb1.size; have := HB0.out.size; omega) _
  have hC1 := (hB1.below hb1 hB1.lt).alloc (.cells #[.pointer (some ⟨f.g, 0, none⟩)] 108)
  have hC2 := (hB2.below hb1 hB2.lt).alloc (.cells #[.pointer (some ⟨f.g, 0, none⟩)] 108)
  have hC3 := (hB3.below hb1 hB3.lt).alloc (.cells #[.pointer (some ⟨f.g, 0, none⟩)] 108)
  have hC4 := Blk.new w1 108 #[.pointer (some ⟨f.g, 0, none⟩)]
  have hgz : w.heap.size ≤ w1.heap.size := (HB0.out.trans (hb1.mono HB0.out.size)).size
  clear hB1 hB2 hB3 hb1
  go_wp2_with fail
  generalize w1.heap.size = g at hC4 hgz ⊢
  generalize w1.alloc (.cells #[.pointer (some ⟨f.g, 0, none⟩)] 108) = W1 at hb2 hC1 hC2 hC3 hC4 ⊢
  have HD1 := Lib.hid (H.out.below hb2)
  have cd : W1.cell? ⟨w.heap.size, 0, none⟩ = some (.pointer (some ⟨p, 0, none⟩)) := by rw [hC1.cell]; rfl
  have cb : W1.cell? ⟨w.heap.size + 2, 0, none⟩ = some (.slice A b.length c) := by rw [hC3.cell]; rfl
  have cf : W1.cell? ⟨g, 0, none⟩ = some (.pointer (some ⟨f.g, 0, none⟩)) := by rw [hC4.cell]; rfl
  have HC := Lib.hid (And.intro hC1 (And.intro hC2 (And.intro hC3 hC4)))
  clear hC1 hC2 hC3 hC4
  refine wp_region_held_drew (S := fun w' => Keeps W1.drew w' ∧ w'.ownsMap Tryz.prog 9 ptrR m L.length (DE L)) hfo ⟨Keeps.refl _, HD1.out.map.drew⟩ (fun hS0 => ?_)
  have hd2 : Dk W1.drew p m S L := HD1.out.below (Below.refl _ _).drew
  have hsz2 : W1.drew.heap.size = W1.heap.size := rfl
  have hbw : Below W1.heap.size W1 W1.drew := (Below.refl _ _).drew
  have cb2 : W1.drew.cell? ⟨w.heap.size + 2, 0, none⟩ = some (.slice A b.length c) := by rw [World.cell?_drew]; exact cb
  have cd2 : W1.drew.cell? ⟨w.heap.size, 0, none⟩ = some (.pointer (some ⟨p, 0, none⟩)) := by rw [World.cell?_drew]; exact cd
  have cf2 : W1.drew.cell? ⟨g, 0, none⟩ = some (.pointer (some ⟨f.g, 0, none⟩)) := by rw [World.cell?_drew]; exact cf
  clear cb cd cf
  have cb := cb2
  have cd := cd2
  have cf := cf2
  clear cb2 cd2 cf2
  generalize W1.drew = W2 at hS0 hd2 hsz2 hbw cb cd cf ⊢
  have hroom := room_any hd2
  have cm := hd2.c1
  have HD2 := Lib.hid hd2
  clear hd2
  refine' wpAnyH_take (i := 0) (oi := ⟨some 25, _, _, _, _, _⟩) (v := _) rfl (by kernel_rfl) (by kernel_rfl) (by kernel_rfl) (fun _ _ _ h => h) (Or.inl ⟨by rfl, ?y0⟩) hS0 ?r0
  case y0 => (intro w' hSw; obtain ⟨s0, s1⟩ := hSw; have e := s0 _ _ cb; go_simp; try rfl)
  try simp only [Act.put, List.setIfInBounds_toArray, List.set_cons_zero, List.set_cons_succ]
  refine' wpAnyH_take (i := 1) (oi := ⟨some 26, _, _, _, _, _⟩) (v := _) rfl (by kernel_rfl) (by kernel_rfl) (by kernel_rfl) (fun _ _ _ h => h) (Or.inl ⟨by rfl, ?y1⟩) hS0 ?r1
  case y1 => (intro w' hSw; obtain ⟨s0, s1⟩ := hSw; go_simp; try rfl)
  try simp only [Act.put, List.setIfInBounds_toArray, List.set_cons_zero, List.set_cons_succ]
  refine' wpAnyH_take (i := 2) (oi := ⟨some 27, _, _, _, _, _⟩) (v := _) rfl (by kernel_rfl) (by kernel_rfl) (by kernel_rfl) (fun _ _ _ h => h) (Or.inl ⟨by rfl, ?y2⟩) hS0 ?r2
  case y2 => (intro w' hSw; obtain ⟨s0, s1⟩ := hSw; have e := s0 _ _ cd; go_simp; try rfl)
  try simp only [Act.put, List.setIfInBounds_toArray, List.set_cons_zero, List.set_cons_succ]
  refine held_one (i := 3) (by kernel_rfl) rfl (fun K hK => ?_)
  go_simp
  refine hroom.mono ?_
  rintro e W3 ⟨rfl, hb3⟩
  have hS1 : Keeps W2 W3 ∧ W3.ownsMap Tryz.prog 9 ptrR m L.length (DE L) := ⟨Keeps.of_below hb3, (HD2.out.below hb3).map⟩
  refine hK.out _ _ hS1 (fun _ => ?_)
  clear hK K
  try simp only [Act.put, List.setIfInBounds_toArray, List.set_cons_zero, List.set_cons_succ]
  refine' wpAnyH_take (i := 4) (oi := ⟨some 29, _, _, _, _, _⟩) (v := _) rfl (by kernel_rfl) (by kernel_rfl) (by kernel_rfl) (fun _ _ _ h => h) (Or.inl ⟨by rfl, ?y4⟩) hS1 ?r4
  case y4 => (intro w' hSw; obtain ⟨s0, s1⟩ := hSw; go_simp; try rfl)
  try simp only [Act.put, List.setIfInBounds_toArray, List.set_cons_zero, List.set_cons_succ]
  refine' wpAnyH_take (i := 5) (oi := ⟨some 30, _, _, _, _, _⟩) (v := _) rfl (by kernel_rfl) (by kernel_rfl) (by kernel_rfl) (fun _ _ _ h => h) (Or.inl ⟨by rfl, ?y5⟩) hS1 ?r5
  case y5 => (intro w' hSw; obtain ⟨s0, s1⟩ := hSw; go_simp; try rfl)
  try simp only [Act.put, List.setIfInBounds_toArray, List.set_cons_zero, List.set_cons_succ]
  refine' wpAnyH_take (i := 6) (oi := ⟨some 31, _, _, _, _, _⟩) (v := _) rfl (by kernel_rfl) (by kernel_rfl) (by kernel_rfl) (fun _ _ _ h => h) (Or.inl ⟨by rfl, ?y6⟩) hS1 ?r6
  case y6 => (intro w' hSw; obtain ⟨s0, s1⟩ := hSw; have e := s0 _ _ cf; go_simp; try rfl)
  try simp only [Act.put, List.setIfInBounds_toArray, List.set_cons_zero, List.set_cons_succ]
  refine' wpAnyH_take (i := 7) (oi := ⟨some 32, _, _, _, _, _⟩) (v := _) rfl (by kernel_rfl) (by kernel_rfl) (by kernel_rfl) (fun _ _ _ h => h) (Or.inl ⟨by rfl, ?y7⟩) hS1 ?r7
  case y7 => (intro w' hSw; obtain ⟨s0, s1⟩ := hSw; go_simp; try rfl)
  try simp only [Act.put, List.setIfInBounds_toArray, List.set_cons_zero, List.set_cons_succ]
  refine' wpAnyH_take (i := 8) (oi := ⟨some 33, _, _, _, _, _⟩) (v := _) rfl (by kernel_rfl) (by kernel_rfl) (by kernel_rfl) (fun _ _ _ h => h) (Or.inl ⟨by rfl, ?y8⟩) hS1 ?r8
  case y8 => (intro w' hSw; obtain ⟨s0, s1⟩ := hSw; go_simp; try rfl)
  try simp only [Act.put, List.setIfInBounds_toArray, List.set_cons_zero, List.set_cons_succ]
  refine' wpAnyH_take (i := 9) (oi := ⟨some 34, _, _, _, _, _⟩) (v := undef) rfl (by kernel_rfl) (by kernel_rfl) (by kernel_rfl) (fun _ _ _ h => h) (Or.inr ⟨by rfl, rfl⟩) hS1 ?r9
  try simp only [Act.put, List.setIfInBounds_toArray, List.set_cons_zero, List.set_cons_succ]
  refine' wpAnyH_take (i := 10) (oi := ⟨some 35, _, _, _, _, _⟩) (v := undef) rfl (by kernel_rfl) (by kernel_rfl) (by kernel_rfl) (fun _ _ _ h => h) (Or.inr ⟨by rfl, rfl⟩) hS1 ?r10
  try simp only [Act.put, List.setIfInBounds_toArray, List.set_cons_zero, List.set_cons_succ]
  refine' wpAnyH_take (i := 11) (oi := ⟨some 36, _, _, _, _, _⟩) (v := undef) rfl (by kernel_rfl) (by kernel_rfl) (by kernel_rfl) (fun _ _ _ h => h) (Or.inr ⟨by rfl, rfl⟩) hS1 ?r11
  try simp only [Act.put, List.setIfInBounds_toArray, List.set_cons_zero, List.set_cons_succ]
  refine' wpAnyH_take (i := 12) (oi := ⟨some 37, _, _, _, _, _⟩) (v := undef) rfl (by kernel_rfl) (by kernel_rfl) (by kernel_rfl) (fun _ _ _ h => h) (Or.inr ⟨by rfl, rfl⟩) hS1 ?r12
  try simp only [Act.put, List.setIfInBounds_toArray, List.set_cons_zero, List.set_cons_succ]
  refine' wpAnyH_take (i := 13) (oi := ⟨some 38, _, _, _, _, _⟩) (v := undef) rfl (by kernel_rfl) (by kernel_rfl) (by kernel_rfl) (fun _ _ _ h => h) (Or.inr ⟨by rfl, rfl⟩) hS1 ?r13
  try simp only [Act.put, List.setIfInBounds_toArray, List.set_cons_zero, List.set_cons_succ]
  refine' wpAnyH_take (i := 14) (oi := ⟨some 39, _, _, _, _, _⟩) (v := undef) rfl (by kernel_rfl) (by kernel_rfl) (by kernel_rfl) (fun _ _ _ h => h) (Or.inr ⟨by rfl, rfl⟩) hS1 ?r14
  try simp only [Act.put, List.setIfInBounds_toArray, List.set_cons_zero, List.set_cons_succ]
  refine' wpAnyH_take (i := 15) (oi := ⟨some 40, _, _, _, _, _⟩) (v := _) rfl (by kernel_rfl) (by kernel_rfl) (by kernel_rfl) (fun _ _ _ h => h) (Or.inl ⟨by rfl, ?y15⟩) hS1 ?r15
  case y15 => (intro w' hSw; obtain ⟨s0, s1⟩ := hSw; go_simp; try rfl)
  try simp only [Act.put, List.setIfInBounds_toArray, List.set_cons_zero, List.set_cons_succ]
  refine' wpAnyH_take (i := 16) (oi := ⟨some 41, _, _, _, _, _⟩) (v := _) rfl (by kernel_rfl) (by kernel_rfl) (by kernel_rfl) (fun _ _ _ h => h) (Or.inl ⟨by rfl, ?y16⟩) hS1 ?r16
  case y16 => (intro w' hSw; obtain ⟨s0, s1⟩ := hSw; go_simp; try rfl)
  try simp only [Act.put, List.setIfInBounds_toArray, List.set_cons_zero, List.set_cons_succ]
  refine' wpAnyH_take (i := 17) (oi := ⟨some 24, _, _, _, _, _⟩) (v := _) rfl (by kernel_rfl) (by kernel_rfl) (by kernel_rfl) (fun _ _ _ h => h) (Or.inl ⟨by rfl, ?y17⟩) hS1 ?r17
  case y17 => (intro w' hSw; obtain ⟨s0, s1⟩ := hSw; go_simp; try rfl)
  try simp only [Act.put, List.setIfInBounds_toArray, List.set_cons_zero, List.set_cons_succ]
  refine wpAnyH_done (by kernel_rfl) ?_ _
  have hbz : Below W1.heap.size W1 W3 := hbw.trans (hb3.mono (by omega))
  have cd3 := hS1.1 _ _ cd
  have hb4 := hb2.trans (hbz.mono hb2.size)
  have HB4 := Lib.hid hb4
  have hd4 := H.out.below hb4
  have hC1 := HC.out.1.below hbz HC.out.1.lt
  have hC2 := HC.out.2.1.below hbz HC.out.2.1.lt
  have hC3 := HC.out.2.2.1.below hbz HC.out.2.2.1.lt
  have hC4 := HC.out.2.2.2.below hbz HC.out.2.2.2.lt
  have hwz := hb4.size
  have HSL4 := Lib.hid (HSL.out.below hb4)
  have key : ∀ (S' : Ds) (W : World), S'.cap = S.cap → Dk W p m S' L → Keep (fun i => i = p) W3 W → W.heap.size = W3.heap.size → Calls Tryz.prog 72 #[.pointer (some ⟨g, 0, none⟩), .pointer (some ⟨w.heap.size, 0, none⟩), .pointer (some ⟨w.heap.size + 1, 0, none⟩), .pointer (some ⟨w.heap.size + 2, 0, none⟩)] W fun e W' => e = .returned (.tuple #[]) ∧ Turn w.heap.size W p m L S' (setP (plain L) (f.nm, f.bs ++ b, f.la)) W' := fun S' W hcap hd hk hz => by
    have hsl : Sl W (.slice A b.length c) b := by
      refine HSL4.out.keptAll hk ?_
      rintro i rfl j n e
      rw [hd4.blk.cell] at e
      match j, e with
      | 0, e => cases e
      | 1, e => cases e
      | 2, e => cases e
      | 3, e => cases e
      | 4, e => cases e
      | j + 5, e => cases e
    exact app1_there g w.heap.size (w.heap.size + 1) (w.heap.size + 2) _ b f (find_mem HFIND.out).1 hd (hC4.kept hk (by omega)) (hC3.kept hk (by omega)) hsl (by rw [hcap]; exact hr) (by omega)
  have hwr := write_any (B := w.heap.size) hd4 HW.out 72 72 #[.pointer (some ⟨g, 0, none⟩), .pointer (some ⟨w.heap.size, 0, none⟩), .pointer (some ⟨w.heap.size + 1, 0, none⟩), .pointer (some ⟨w.heap.size + 2, 0, none⟩)] #[.pointer (some ⟨g, 0, none⟩), .pointer (some ⟨w.heap.size, 0, none⟩), .pointer (some ⟨w.heap.size + 1, 0, none⟩), .pointer (some ⟨w.heap.size + 2, 0, none⟩)] (setP (plain L) (f.nm, f.bs ++ b, f.la)) (setP (plain L) (f.nm, f.bs ++ b, f.la))
    (enters_of Tryz.func72 (by kernel_rfl) rfl) (enters_of Tryz.func72 (by kernel_rfl) rfl)
    (fun W hd hk hz => key _ W rfl hd hk hz) (fun W hd hk hz => key _ W rfl hd hk hz)
  have HWR := Lib.hid hwr
  clear hwr key hC1 hC2 hC3 hC4 hd4 hb4 hbz hS0 hS1 hbw hb3 hb2 hroom cb cd cf cm
  go_wp2_with fail
  refine HWR.out.mono ?_
  rintro e w5 ⟨rfl, ht⟩
  have HT := Lib.hid ht
  clear ht HWR
  generalize (writeS S (setP (plain L) (f.nm, f.bs ++ b, f.la)) (setP (plain L) (f.nm, f.bs ++ b, f.la)) (plain L)) = r at *
  go_wp2_with fail
  go_ret
  exact ⟨rfl, HT.out.from HB4.out⟩
set_option maxHeartbeats 4000000 in
theorem append_new (h : Dk w p m S L) (hw : S.wr ≤ 1000000) (s : ByteArray) (vb : Value) (b : List UInt8) (hs : Sl w vb b) (hm : mayB s.data.toList = true) (hf : find L s.data.toList = none) (hr : total L + b.length ≤ S.cap) (h64 : L.length < 64) :
    Calls Tryz.prog 30 #[.pointer (some ⟨p, 0, none⟩), .string s, vb] w (Res w p m L (writeS S (insP (s.data.toList, b, 0) (plain L)) (insP (s.data.toList, b, 0) (plain L)) (plain L))) := by
  have hfo : Tryz.prog.follows .mixedOrders = true := by kernel_rfl
  obtain ⟨A, c, rfl, _, _⟩ := id hs
  have hb0 : Below w.heap.size w (((w.alloc (.cells #[.pointer (some ⟨p, 0, none⟩)] 37)).alloc (.cells #[.string s] 9)).alloc (.cells #[.slice A b.length c] 22)) := (((Below.refl _ _).alloc (Nat.le_refl _) _).alloc (by simp) _).alloc (by simp; omega) _
  have hB1 := ((Blk.new w 37 #[.pointer (some ⟨p, 0, none⟩)]).alloc (.cells #[.string s] 9)).alloc (.cells #[.slice A b.length c] 22)
  have hB2 := (Blk.new (w.alloc (.cells #[.pointer (some ⟨p, 0, none⟩)] 37)) 9 #[.string s]).alloc (.cells #[.slice A b.length c] 22)
  rw [show (w.alloc (.cells #[.pointer (some ⟨p, 0, none⟩)] 37)).heap.size = w.heap.size + 1 by simp] at hB2
  have hB3 := Blk.new ((w.alloc (.cells #[.pointer (some ⟨p, 0, none⟩)] 37)).alloc (.cells #[.string s] 9)) 22 #[.slice A b.length c]
  rw [show ((w.alloc (.cells #[.pointer (some ⟨p, 0, none⟩)] 37)).alloc (.cells #[.string s] 9)).heap.size = w.heap.size + 2 by simp] at hB3
  have h0 := h.below hb0
  have HB0 := Lib.hid hb0
  have hfi := find_lacks h0 s hm hf
  have hful : decide ((S.cap : Int) - (total L : Int) < (b.length : Int)) = false := decide_eq_false (by omega)
  have h64' : ((L.length : Int) == 64) = false := by rw [beq_eq_false_iff_ne]; omega
  have H64 := Lib.hid h64
  clear h64
  have H := Lib.hid h
  have HW := Lib.hid hw
  have HSL := Lib.hid hs
  have HMAY := Lib.hid hm
  have HFIND := Lib.hid hf
  have HLT := Lib.hid h.lt
  have hpl := h.blk.lt
  clear h hm hf hw h0 hb0 hs
  go_enter Tryz.func30, Tryz.ntmps30
  go_wp2_with fail
  refine hfi.mono ?_
  rintro e w1 ⟨rfl, hb1⟩
  clear hfi
  have hb2 : Below w.heap.size w (w1.alloc (.cells #[.pointer none] 108)) := (HB0.out.trans (hb1.mono HB0.out.size)).alloc (by have := hb1.size; have := HB0.out.size; omega) _
  have hC1 := (hB1.below hb1 hB1.lt).alloc (.cells #[.pointer none] 108)
  have hC2 := (hB2.below hb1 hB2.lt).alloc (.cells #[.pointer none] 108)
  have hC3 := (hB3.below hb1 hB3.lt).alloc (.cells #[.pointer none] 108)
  have hC4 := Blk.new w1 108 #[.pointer none]
  have hgz : w.heap.size ≤ w1.heap.size := (HB0.out.trans (hb1.mono HB0.out.size)).size
  clear hB1 hB2 hB3 hb1
  go_wp2_with fail
  generalize w1.heap.size = g at hC4 hgz ⊢
  generalize w1.alloc (.cells #[.pointer none] 108) = W1 at hb2 hC1 hC2 hC3 hC4 ⊢
  have HD1 := Lib.hid (H.out.below hb2)
  have cd : W1.cell? ⟨w.heap.size, 0, none⟩ = some (.pointer (some ⟨p, 0, none⟩)) := by rw [hC1.cell]; rfl
  have cb : W1.cell? ⟨w.heap.size + 2, 0, none⟩ = some (.slice A b.length c) := by rw [hC3.cell]; rfl
  have cf : W1.cell? ⟨g, 0, none⟩ = some (.pointer none) := by rw [hC4.cell]; rfl
  have HC := Lib.hid (And.intro hC1 (And.intro hC2 (And.intro hC3 hC4)))
  clear hC1 hC2 hC3 hC4
  refine wp_region_held_drew (S := fun w' => Keeps W1.drew w' ∧ w'.ownsMap Tryz.prog 9 ptrR m L.length (DE L)) hfo ⟨Keeps.refl _, HD1.out.map.drew⟩ (fun hS0 => ?_)
  have hd2 : Dk W1.drew p m S L := HD1.out.below (Below.refl _ _).drew
  have hsz2 : W1.drew.heap.size = W1.heap.size := rfl
  have hbw : Below W1.heap.size W1 W1.drew := (Below.refl _ _).drew
  have cb2 : W1.drew.cell? ⟨w.heap.size + 2, 0, none⟩ = some (.slice A b.length c) := by rw [World.cell?_drew]; exact cb
  have cd2 : W1.drew.cell? ⟨w.heap.size, 0, none⟩ = some (.pointer (some ⟨p, 0, none⟩)) := by rw [World.cell?_drew]; exact cd
  have cf2 : W1.drew.cell? ⟨g, 0, none⟩ = some (.pointer none) := by rw [World.cell?_drew]; exact cf
  clear cb cd cf
  have cb := cb2
  have cd := cd2
  have cf := cf2
  clear cb2 cd2 cf2
  generalize W1.drew = W2 at hS0 hd2 hsz2 hbw cb cd cf ⊢
  have hroom := room_any hd2
  have cm := hd2.c1
  have HD2 := Lib.hid hd2
  clear hd2
  refine' wpAnyH_take (i := 0) (oi := ⟨some 25, _, _, _, _, _⟩) (v := _) rfl (by kernel_rfl) (by kernel_rfl) (by kernel_rfl) (fun _ _ _ h => h) (Or.inl ⟨by rfl, ?y0⟩) hS0 ?r0
  case y0 => (intro w' hSw; obtain ⟨s0, s1⟩ := hSw; have e := s0 _ _ cb; go_simp; try rfl)
  try simp only [Act.put, List.setIfInBounds_toArray, List.set_cons_zero, List.set_cons_succ]
  refine' wpAnyH_take (i := 1) (oi := ⟨some 26, _, _, _, _, _⟩) (v := _) rfl (by kernel_rfl) (by kernel_rfl) (by kernel_rfl) (fun _ _ _ h => h) (Or.inl ⟨by rfl, ?y1⟩) hS0 ?r1
  case y1 => (intro w' hSw; obtain ⟨s0, s1⟩ := hSw; go_simp; try rfl)
  try simp only [Act.put, List.setIfInBounds_toArray, List.set_cons_zero, List.set_cons_succ]
  refine' wpAnyH_take (i := 2) (oi := ⟨some 27, _, _, _, _, _⟩) (v := _) rfl (by kernel_rfl) (by kernel_rfl) (by kernel_rfl) (fun _ _ _ h => h) (Or.inl ⟨by rfl, ?y2⟩) hS0 ?r2
  case y2 => (intro w' hSw; obtain ⟨s0, s1⟩ := hSw; have e := s0 _ _ cd; go_simp; try rfl)
  try simp only [Act.put, List.setIfInBounds_toArray, List.set_cons_zero, List.set_cons_succ]
  refine held_one (i := 3) (by kernel_rfl) rfl (fun K hK => ?_)
  go_simp
  refine hroom.mono ?_
  rintro e W3 ⟨rfl, hb3⟩
  have hS1 : Keeps W2 W3 ∧ W3.ownsMap Tryz.prog 9 ptrR m L.length (DE L) := ⟨Keeps.of_below hb3, (HD2.out.below hb3).map⟩
  refine hK.out _ _ hS1 (fun _ => ?_)
  clear hK K
  try simp only [Act.put, List.setIfInBounds_toArray, List.set_cons_zero, List.set_cons_succ]
  refine' wpAnyH_take (i := 4) (oi := ⟨some 29, _, _, _, _, _⟩) (v := _) rfl (by kernel_rfl) (by kernel_rfl) (by kernel_rfl) (fun _ _ _ h => h) (Or.inl ⟨by rfl, ?y4⟩) hS1 ?r4
  case y4 => (intro w' hSw; obtain ⟨s0, s1⟩ := hSw; go_simp; try rfl)
  try simp only [Act.put, List.setIfInBounds_toArray, List.set_cons_zero, List.set_cons_succ]
  refine' wpAnyH_take (i := 5) (oi := ⟨some 30, _, _, _, _, _⟩) (v := _) rfl (by kernel_rfl) (by kernel_rfl) (by kernel_rfl) (fun _ _ _ h => h) (Or.inl ⟨by rfl, ?y5⟩) hS1 ?r5
  case y5 => (intro w' hSw; obtain ⟨s0, s1⟩ := hSw; go_simp; try rfl)
  try simp only [Act.put, List.setIfInBounds_toArray, List.set_cons_zero, List.set_cons_succ]
  refine' wpAnyH_take (i := 6) (oi := ⟨some 31, _, _, _, _, _⟩) (v := _) rfl (by kernel_rfl) (by kernel_rfl) (by kernel_rfl) (fun _ _ _ h => h) (Or.inl ⟨by rfl, ?y6⟩) hS1 ?r6
  case y6 => (intro w' hSw; obtain ⟨s0, s1⟩ := hSw; have e := s0 _ _ cf; go_simp; try rfl)
  try simp only [Act.put, List.setIfInBounds_toArray, List.set_cons_zero, List.set_cons_succ]
  refine' wpAnyH_take (i := 7) (oi := ⟨some 32, _, _, _, _, _⟩) (v := _) rfl (by kernel_rfl) (by kernel_rfl) (by kernel_rfl) (fun _ _ _ h => h) (Or.inl ⟨by rfl, ?y7⟩) hS1 ?r7
  case y7 => (intro w' hSw; obtain ⟨s0, s1⟩ := hSw; go_simp; try rfl)
  try simp only [Act.put, List.setIfInBounds_toArray, List.set_cons_zero, List.set_cons_succ]
  refine' wpAnyH_take (i := 8) (oi := ⟨some 33, _, _, _, _, _⟩) (v := _) rfl (by kernel_rfl) (by kernel_rfl) (by kernel_rfl) (fun _ _ _ h => h) (Or.inl ⟨by rfl, ?y8⟩) hS1 ?r8
  case y8 => (intro w' hSw; obtain ⟨s0, s1⟩ := hSw; go_simp; try rfl)
  try simp only [Act.put, List.setIfInBounds_toArray, List.set_cons_zero, List.set_cons_succ]
  refine' wpAnyH_take (i := 9) (oi := ⟨some 34, _, _, _, _, _⟩) (v := _) rfl (by kernel_rfl) (by kernel_rfl) (by kernel_rfl) (fun _ _ _ h => h) (Or.inl ⟨by rfl, ?y9⟩) hS1 ?r9
  case y9 => (intro w' hSw; obtain ⟨s0, s1⟩ := hSw; have e := s0 _ _ cd; go_simp; try rfl)
  try simp only [Act.put, List.setIfInBounds_toArray, List.set_cons_zero, List.set_cons_succ]
  refine' wpAnyH_take (i := 10) (oi := ⟨some 35, _, _, _, _, _⟩) (v := _) rfl (by kernel_rfl) (by kernel_rfl) (by kernel_rfl) (fun _ _ _ h => h) (Or.inl ⟨by rfl, ?y10⟩) hS1 ?r10
  case y10 => (intro w' hSw; obtain ⟨s0, s1⟩ := hSw; go_simp; try rfl)
  try simp only [Act.put, List.setIfInBounds_toArray, List.set_cons_zero, List.set_cons_succ]
  refine' wpAnyH_take (i := 11) (oi := ⟨some 36, _, _, _, _, _⟩) (v := _) rfl (by kernel_rfl) (by kernel_rfl) (by kernel_rfl) (fun _ _ _ h => h) (Or.inl ⟨by rfl, ?y11⟩) hS1 ?r11
  case y11 => (intro w' hSw; obtain ⟨s0, s1⟩ := hSw; go_simp; try rfl)
  try simp only [Act.put, List.setIfInBounds_toArray, List.set_cons_zero, List.set_cons_succ]
  refine' wpAnyH_take (i := 12) (oi := ⟨some 37, _, _, _, _, _⟩) (v := _) rfl (by kernel_rfl) (by kernel_rfl) (by kernel_rfl) (fun _ _ _ h => h) (Or.inl ⟨by rfl, ?y12⟩) hS1 ?r12
  case y12 => (intro w' hSw; obtain ⟨s0, s1⟩ := hSw; have e := s0 _ _ cm; go_simp; try rfl)
  try simp only [Act.put, List.setIfInBounds_toArray, List.set_cons_zero, List.set_cons_succ]
  refine' wpAnyH_take (i := 13) (oi := ⟨some 38, _, _, _, _, _⟩) (v := _) rfl (by kernel_rfl) (by kernel_rfl) (by kernel_rfl) (fun _ _ _ h => h) (Or.inl ⟨by rfl, ?y13⟩) hS1 ?r13
  case y13 => (intro w' hSw; obtain ⟨s0, s1⟩ := hSw; have e := World.ownsMap.len s1 Tryz.underlying52 3; rw [size_DE] at e; go_simp; try rfl)
  try simp only [Act.put, List.setIfInBounds_toArray, List.set_cons_zero, List.set_cons_succ]
  refine' wpAnyH_take (i := 14) (oi := ⟨some 39, _, _, _, _, _⟩) (v := _) rfl (by kernel_rfl) (by kernel_rfl) (by kernel_rfl) (fun _ _ _ h => h) (Or.inl ⟨by rfl, ?y14⟩) hS1 ?r14
  case y14 => (intro w' hSw; obtain ⟨s0, s1⟩ := hSw; go_simp; try rfl)
  try simp only [Act.put, List.setIfInBounds_toArray, List.set_cons_zero, List.set_cons_succ]
  refine' wpAnyH_take (i := 15) (oi := ⟨some 40, _, _, _, _, _⟩) (v := _) rfl (by kernel_rfl) (by kernel_rfl) (by kernel_rfl) (fun _ _ _ h => h) (Or.inl ⟨by rfl, ?y15⟩) hS1 ?r15
  case y15 => (intro w' hSw; obtain ⟨s0, s1⟩ := hSw; go_simp; try rfl)
  try simp only [Act.put, List.setIfInBounds_toArray, List.set_cons_zero, List.set_cons_succ]
  refine' wpAnyH_take (i := 16) (oi := ⟨some 41, _, _, _, _, _⟩) (v := _) rfl (by kernel_rfl) (by kernel_rfl) (by kernel_rfl) (fun _ _ _ h => h) (Or.inl ⟨by rfl, ?y16⟩) hS1 ?r16
  case y16 => (intro w' hSw; obtain ⟨s0, s1⟩ := hSw; go_simp; try rfl)
  try simp only [Act.put, List.setIfInBounds_toArray, List.set_cons_zero, List.set_cons_succ]
  refine' wpAnyH_take (i := 17) (oi := ⟨some 24, _, _, _, _, _⟩) (v := _) rfl (by kernel_rfl) (by kernel_rfl) (by kernel_rfl) (fun _ _ _ h => h) (Or.inl ⟨by rfl, ?y17⟩) hS1 ?r17
  case y17 => (intro w' hSw; obtain ⟨s0, s1⟩ := hSw; go_simp; try rfl)
  try simp only [Act.put, List.setIfInBounds_toArray, List.set_cons_zero, List.set_cons_succ]
  refine wpAnyH_done (by kernel_rfl) ?_ _
  have hbz : Below W1.heap.size W1 W3 := hbw.trans (hb3.mono (by omega))
  have cd3 := hS1.1 _ _ cd
  have hb4 := hb2.trans (hbz.mono hb2.size)
  have HB4 := Lib.hid hb4
  have hd4 := H.out.below hb4
  have hC1 := HC.out.1.below hbz HC.out.1.lt
  have hC2 := HC.out.2.1.below hbz HC.out.2.1.lt
  have hC3 := HC.out.2.2.1.below hbz HC.out.2.2.1.lt
  have hC4 := HC.out.2.2.2.below hbz HC.out.2.2.2.lt
  have hwz := hb4.size
  have HSL4 := Lib.hid (HSL.out.below hb4)
  have key : ∀ (S' : Ds) (W : World), S'.cap = S.cap → Dk W p m S' L → Keep (fun i => i = p) W3 W → W.heap.size = W3.heap.size → Calls Tryz.prog 72 #[.pointer (some ⟨g, 0, none⟩), .pointer (some ⟨w.heap.size, 0, none⟩), .pointer (some ⟨w.heap.size + 1, 0, none⟩), .pointer (some ⟨w.heap.size + 2, 0, none⟩)] W fun e W' => e = .returned (.tuple #[]) ∧ Turn w.heap.size W p m L S' (insP (s.data.toList, b, 0) (plain L)) W' := fun S' W hcap hd hk hz => by
    have hsl : Sl W (.slice A b.length c) b := by
      refine HSL4.out.keptAll hk ?_
      rintro i rfl j n e
      rw [hd4.blk.cell] at e
      match j, e with
      | 0, e => cases e
      | 1, e => cases e
      | 2, e => cases e
      | 3, e => cases e
      | 4, e => cases e
      | j + 5, e => cases e
    exact app1_new g w.heap.size (w.heap.size + 1) (w.heap.size + 2) s _ b HFIND.out HMAY.out hd (hC4.kept hk (by omega)) (hC1.kept hk (by omega)) (hC2.kept hk (by omega)) (hC3.kept hk (by omega)) hsl (by rw [hcap]; exact hr) H64.out (by omega) hgz HLT.out
  have hwr := write_any (B := w.heap.size) hd4 HW.out 72 72 #[.pointer (some ⟨g, 0, none⟩), .pointer (some ⟨w.heap.size, 0, none⟩), .pointer (some ⟨w.heap.size + 1, 0, none⟩), .pointer (some ⟨w.heap.size + 2, 0, none⟩)] #[.pointer (some ⟨g, 0, none⟩), .pointer (some ⟨w.heap.size, 0, none⟩), .pointer (some ⟨w.heap.size + 1, 0, none⟩), .pointer (some ⟨w.heap.size + 2, 0, none⟩)] (insP (s.data.toList, b, 0) (plain L)) (insP (s.data.toList, b, 0) (plain L))
    (enters_of Tryz.func72 (by kernel_rfl) rfl) (enters_of Tryz.func72 (by kernel_rfl) rfl)
    (fun W hd hk hz => key _ W rfl hd hk hz) (fun W hd hk hz => key _ W rfl hd hk hz)
  have HWR := Lib.hid hwr
  clear hwr key hC1 hC2 hC3 hC4 hd4 hb4 hbz hS0 hS1 hbw hb3 hb2 hroom cb cd cf cm
  go_wp2_with fail
  refine HWR.out.mono ?_
  rintro e w5 ⟨rfl, ht⟩
  have HT := Lib.hid ht
  clear ht HWR
  generalize (writeS S (insP (s.data.toList, b, 0) (plain L)) (insP (s.data.toList, b, 0) (plain L)) (plain L)) = r at *
  go_wp2_with fail
  go_ret
  exact ⟨rfl, HT.out.from HB4.out⟩
theorem append_any (h : Dk w p m S L) (hw : S.wr ≤ 1000000) (s : ByteArray) (vb : Value) (b : List UInt8) (hs : Sl w vb b) :
    Calls Tryz.prog 30 #[.pointer (some ⟨p, 0, none⟩), .string s, vb] w (Res w p m L (appendS S (plain L) s.data.toList b)) := by
  unfold appendS
  have hfew := h.few
  cases hm : mayB s.data.toList with
  | false =>
    rw [if_neg (by simp)]
    exact append_bad h hw s vb b hs hm
  | true =>
    rw [if_pos rfl, total_plain, find_plain, plain_len]
    cases hf : find L s.data.toList with
    | none =>
      have ea : addP (plain L) s.data.toList b = insP (s.data.toList, b, 0) (plain L) := by unfold addP; rw [find_plain, hf]; rfl
      rw [ea]
      by_cases hr : S.cap < total L + b.length
      · rw [if_pos (.inl hr)]; exact append_full_lacks h hw s vb b hs hm hf hr
      · by_cases h64 : L.length = 64
        · rw [if_pos (.inr ⟨rfl, h64⟩)]; exact append_many h hw s vb b hs hm hf (by omega) h64
        · rw [if_neg (fun h1 => h1.elim hr (fun h2 => h64 h2.2))]
          exact append_new h hw s vb b hs hm hf (by omega) (by omega)
    | some f =>
      have ea : addP (plain L) s.data.toList b = setP (plain L) (f.nm, f.bs ++ b, f.la) := by unfold addP; rw [find_plain, hf]; rfl
      rw [ea]
      by_cases hr : S.cap < total L + b.length
      · rw [if_pos (.inl hr)]; exact append_full_there h hw s vb b hs hm f hf hr
      · rw [if_neg (fun h1 => h1.elim hr (fun h2 => by cases h2.1))]
        exact append_there h hw s vb b hs hm f hf (by omega)
end
end Go.Proofs.YtibifnknkphanaaGreatDoor

/-
  The walk of Same, where one disk is not there.
-/
import Derived.Test.YtibifnknkphanaaGreatDoorDskOnce
namespace Go.Proofs.YtibifnknkphanaaGreatDoor
open Go.RowKit Go.Maps Go.Shelf
open DskM
set_option linter.unusedVariables false
set_option linter.unusedSimpArgs false
set_option maxRecDepth 100000
attribute [local go_sem] Oper.semAt_some

/-- What none answers, in whatever world behind this one. -/
def NoneIs (w : World) (P : Option Addr) (x : Bool) : Prop := ∀ W, Below w.heap.size w W → Calls Tryz.prog 57 #[.pointer P] W fun e w' => e = .returned (.bool x) ∧ w' = W
theorem Nd.noneIs {w : World} {P : Option Addr} (h : Nd w P) : NoneIs w P true := fun W hb => none_no (h.below hb)
theorem Dk.noneIs {w : World} {p m : Nat} {S : Ds} {L : List Fo} (h : Dk w p m S L) : NoneIs w (some ⟨p, 0, none⟩) false := fun W hb => none_any (h.below hb)
def sameW (w : World) (P Q : Option Addr) : World := ((w.alloc (.cells #[.pointer P] 37)).alloc (.cells #[.pointer Q] 37)).alloc (.cells #[.bool false] 4)
theorem sameW_facts (w : World) (P Q : Option Addr) : Below w.heap.size w (sameW w P Q) ∧ Blk (sameW w P Q) w.heap.size 37 #[.pointer P] ∧ Blk (sameW w P Q) (w.heap.size + 1) 37 #[.pointer Q] ∧ Blk (sameW w P Q) (w.heap.size + 1 + 1) 4 #[.bool false] ∧ (sameW w P Q).heap.size = w.heap.size + 1 + 1 + 1 := by
  refine ⟨(((Below.refl _ _).alloc (Nat.le_refl _) _).alloc (by simp) _).alloc (by simp; omega) _, ((Blk.new w _ _).alloc _).alloc _, ?_, ?_, by simp [sameW]⟩
  · have := (Blk.new (w.alloc (.cells #[.pointer P] 37)) 37 #[.pointer Q]).alloc (.cells #[.bool false] 4)
    rw [World.size_alloc] at this
    exact this
  · have := Blk.new ((w.alloc (.cells #[.pointer P] 37)).alloc (.cells #[.pointer Q] 37)) 4 #[.bool false]
    rw [World.size_alloc, World.size_alloc] at this
    exact this
set_option maxHeartbeats 2000000 in
theorem same_nn {w : World} {P Q : Option Addr} (h1 : NoneIs w P true) (h2 : NoneIs w Q true) :
    Calls Tryz.prog 53 #[.pointer P, .pointer Q] w fun e w' => e = .returned (.bool true) ∧ Below w.heap.size w w' := by
  obtain ⟨hb, b1, b2, b3, hz⟩ := sameW_facts w P Q
  have n1 := h1 _ hb
  have n2 := h2 _ hb
  have q0 : (sameW w P Q).cell? ⟨w.heap.size, 0, none⟩ = some (.pointer P) := by rw [b1.cell]; rfl
  have q1 : (sameW w P Q).cell? ⟨w.heap.size + 1, 0, none⟩ = some (.pointer Q) := by rw [b2.cell]; rfl
  have q2 : (sameW w P Q).cell? ⟨w.heap.size + 1 + 1, 0, none⟩ = some (.bool false) := by rw [b3.cell]; rfl
  have z2 := b3.frozen 0
  have hB3 : Blk ((sameW w P Q).setCell ⟨w.heap.size + 1 + 1, 0, none⟩ (.bool true)) (w.heap.size + 1 + 1) 4 #[.bool true] := b3.set_ 0 _
  have hc5 : ((sameW w P Q).setCell ⟨w.heap.size + 1 + 1, 0, none⟩ (.bool true)).cell? ⟨w.heap.size + 1 + 1, 0, none⟩ = some (.bool true) := by rw [hB3.cell]; rfl
  have HC := Lib.hid hc5
  have HB := Lib.hid (hb.setCell (p := ⟨w.heap.size + 1 + 1, 0, none⟩) (by show w.heap.size ≤ w.heap.size + 1 + 1; omega) (.bool true))
  have HW := Lib.hid (show sameW w P Q = ((w.alloc (.cells #[.pointer P] 37)).alloc (.cells #[.pointer Q] 37)).alloc (.cells #[.bool false] 4) from rfl)
  generalize sameW w P Q = W at *
  rw [HW.out] at n1
  clear b1 b2 b3 hz hB3 hc5 hb h1 h2
  refine (callsIn_wide (n := 8)).1 ?_
  refine callsIn_of_wp_marks Tryz.func53 rfl trivial ?_ rfl
  simp only [Tryz.ntmps53, List.size_toArray, List.length_cons, List.length_nil, Nat.reduceAdd, Nat.reduceSub, Array.replicate_succ, Array.replicate_zero, List.push_toArray, List.append_toArray, List.nil_append, List.cons_append]
  refine wpIn_wide.2 ?_
  go_wp2_with fail
  refine n1.mono ?_
  rintro e w1 ⟨rfl, hw1⟩
  rw [← HW.out] at hw1 n1
  subst hw1
  go_wp2_with fail
  refine Calls.mono n1 ?_
  rintro e w2 ⟨rfl, hw2⟩
  rw [hw2]
  clear hw2
  go_wp2_with fail
  refine Calls.mono n2 ?_
  rintro e w2 ⟨rfl, hw2⟩
  rw [hw2]
  clear hw2
  go_wp2
  refine ⟨.bool true, ?_, rfl, HB.out⟩
  have hc5 := HC.out
  simp [results, Tryz.f53, go_sem, hc5]
set_option maxHeartbeats 2000000 in
theorem same_nd {w : World} {P Q : Option Addr} (h1 : NoneIs w P true) (h2 : NoneIs w Q false) :
    Calls Tryz.prog 53 #[.pointer P, .pointer Q] w fun e w' => e = .returned (.bool false) ∧ Below w.heap.size w w' := by
  obtain ⟨hb, b1, b2, b3, hz⟩ := sameW_facts w P Q
  have n1 := h1 _ hb
  have n2 := h2 _ hb
  have q0 : (sameW w P Q).cell? ⟨w.heap.size, 0, none⟩ = some (.pointer P) := by rw [b1.cell]; rfl
  have q1 : (sameW w P Q).cell? ⟨w.heap.size + 1, 0, none⟩ = some (.pointer Q) := by rw [b2.cell]; rfl
  have q2 : (sameW w P Q).cell? ⟨w.heap.size + 1 + 1, 0, none⟩ = some (.bool false) := by rw [b3.cell]; rfl
  have z2 := b3.frozen 0
  have hB3 : Blk ((sameW w P Q).setCell ⟨w.heap.size + 1 + 1, 0, none⟩ (.bool false)) (w.heap.size + 1 + 1) 4 #[.bool false] := b3.set_ 0 _
  have hc5 : ((sameW w P Q).setCell ⟨w.heap.size + 1 + 1, 0, none⟩ (.bool false)).cell? ⟨w.heap.size + 1 + 1, 0, none⟩ = some (.bool false) := by rw [hB3.cell]; rfl
  have HC := Lib.hid hc5
  have HB := Lib.hid (hb.setCell (p := ⟨w.heap.size + 1 + 1, 0, none⟩) (by show w.heap.size ≤ w.heap.size + 1 + 1; omega) (.bool false))
  have HW := Lib.hid (show sameW w P Q = ((w.alloc (.cells #[.pointer P] 37)).alloc (.cells #[.pointer Q] 37)).alloc (.cells #[.bool false] 4) from rfl)
  generalize sameW w P Q = W at *
  rw [HW.out] at n1
  clear b1 b2 b3 hz hB3 hc5 hb h1 h2
  refine (callsIn_wide (n := 8)).1 ?_
  refine callsIn_of_wp_marks Tryz.func53 rfl trivial ?_ rfl
  simp only [Tryz.ntmps53, List.size_toArray, List.length_cons, List.length_nil, Nat.reduceAdd, Nat.reduceSub, Array.replicate_succ, Array.replicate_zero, List.push_toArray, List.append_toArray, List.nil_append, List.cons_append]
  refine wpIn_wide.2 ?_
  go_wp2_with fail
  refine n1.mono ?_
  rintro e w1 ⟨rfl, hw1⟩
  rw [← HW.out] at hw1 n1
  subst hw1
  go_wp2_with fail
  refine Calls.mono n1 ?_
  rintro e w2 ⟨rfl, hw2⟩
  rw [hw2]
  clear hw2
  go_wp2_with fail
  refine Calls.mono n2 ?_
  rintro e w2 ⟨rfl, hw2⟩
  rw [hw2]
  clear hw2
  go_wp2
  refine ⟨.bool false, ?_, rfl, HB.out⟩
  have hc5 := HC.out
  simp [results, Tryz.f53, go_sem, hc5]
set_option maxHeartbeats 2000000 in
theorem same_dn {w : World} {P Q : Option Addr} (h1 : NoneIs w P false) (h2 : NoneIs w Q true) :
    Calls Tryz.prog 53 #[.pointer P, .pointer Q] w fun e w' => e = .returned (.bool false) ∧ Below w.heap.size w w' := by
  obtain ⟨hb, b1, b2, b3, hz⟩ := sameW_facts w P Q
  have n1 := h1 _ hb
  have n2 := h2 _ hb
  have q0 : (sameW w P Q).cell? ⟨w.heap.size, 0, none⟩ = some (.pointer P) := by rw [b1.cell]; rfl
  have q1 : (sameW w P Q).cell? ⟨w.heap.size + 1, 0, none⟩ = some (.pointer Q) := by rw [b2.cell]; rfl
  have q2 : (sameW w P Q).cell? ⟨w.heap.size + 1 + 1, 0, none⟩ = some (.bool false) := by rw [b3.cell]; rfl
  have z2 := b3.frozen 0
  have hB3 : Blk ((sameW w P Q).setCell ⟨w.heap.size + 1 + 1, 0, none⟩ (.bool false)) (w.heap.size + 1 + 1) 4 #[.bool false] := b3.set_ 0 _
  have hc5 : ((sameW w P Q).setCell ⟨w.heap.size + 1 + 1, 0, none⟩ (.bool false)).cell? ⟨w.heap.size + 1 + 1, 0, none⟩ = some (.bool false) := by rw [hB3.cell]; rfl
  have HC := Lib.hid hc5
  have HB := Lib.hid (hb.setCell (p := ⟨w.heap.size + 1 + 1, 0, none⟩) (by show w.heap.size ≤ w.heap.size + 1 + 1; omega) (.bool false))
  have HW := Lib.hid (show sameW w P Q = ((w.alloc (.cells #[.pointer P] 37)).alloc (.cells #[.pointer Q] 37)).alloc (.cells #[.bool false] 4) from rfl)
  generalize sameW w P Q = W at *
  rw [HW.out] at n1
  clear b1 b2 b3 hz hB3 hc5 hb h1 h2
  refine (callsIn_wide (n := 8)).1 ?_
  refine callsIn_of_wp_marks Tryz.func53 rfl trivial ?_ rfl
  simp only [Tryz.ntmps53, List.size_toArray, List.length_cons, List.length_nil, Nat.reduceAdd, Nat.reduceSub, Array.replicate_succ, Array.replicate_zero, List.push_toArray, List.append_toArray, List.nil_append, List.cons_append]
  refine wpIn_wide.2 ?_
  go_wp2_with fail
  refine n1.mono ?_
  rintro e w1 ⟨rfl, hw1⟩
  rw [← HW.out] at hw1 n1
  subst hw1
  go_wp2_with fail
  refine Calls.mono n2 ?_
  rintro e w2 ⟨rfl, hw2⟩
  rw [hw2]
  clear hw2
  go_wp2_with fail
  refine Calls.mono n1 ?_
  rintro e w2 ⟨rfl, hw2⟩
  rw [hw2]
  clear hw2
  go_wp2
  refine ⟨.bool false, ?_, rfl, HB.out⟩
  have hc5 := HC.out
  simp [results, Tryz.f53, go_sem, hc5]
end Go.Proofs.YtibifnknkphanaaGreatDoor

/-
  The walks of none, find, New, blank, Dead, Writes.
-/
import Derived.Test.YtdbkhigocjmfoaaDskMem
import Derived.Carry
namespace Go.Proofs.Ytdbkhigocjmfoaa
open Go.RowKit Go.Maps
open DskM
set_option linter.unusedVariables false
set_option linter.unusedSimpArgs false
set_option maxRecDepth 20000

section
variable {w : World} {p m : Nat} {S : Ds} {L : List Fo}
theorem none_any (h : Dk w p m S L) : Calls Try.prog 38 #[.pointer (some ⟨p, 0, none⟩)] w fun e w' => e = .returned (.bool false) ∧ w' = w := by
  have h0 := h.c0
  have h1 : ((S.cap : Int) == 0) = false := by rw [beq_eq_false_iff_ne]; have := h.cap1; omega
  go_enter Try.func38, Try.ntmps38
  go_wp2
  go_ret
  exact ⟨rfl, rfl⟩

/-- What find answers: the file and a number. -/
def findE (L : List Fo) (n : Nm) (may : Bool) : Int := if mayB n = true ∧ may = true then (if (find L n).isSome then 0 else 6) else 2
theorem find_bad (h : Dk w p m S L) (s : ByteArray) (may : Bool) (hm : ¬ (mayB s.data.toList = true ∧ may = true)) :
    Calls Try.prog 52 #[.pointer (some ⟨p, 0, none⟩), .string s, .bool may] w fun e w' => e = .returned (.tuple #[.pointer none, .int .i64 2]) ∧ Below w.heap.size w w' := by
  have hn := none_any h
  have hN := mayName_any s w
  obtain ⟨b, hb⟩ : ∃ b, b = mayB s.data.toList := ⟨_, rfl⟩
  rw [← hb] at hN hm
  clear hb h
  cases b
  · go_enter Try.func52, Try.ntmps52
    go_wp2_with fail
    refine hn.mono ?_
    rintro e w1 ⟨rfl, rfl⟩
    go_wp2_with fail
    refine hN.mono ?_
    rintro e w2 ⟨rfl, hb2⟩
    clear hn hN
    go_wp2
    go_ret2
    exact ⟨rfl, hb2⟩
  · obtain rfl : may = false := by
      cases may
      · rfl
      · exact absurd ⟨rfl, rfl⟩ hm
    clear hm
    go_enter Try.func52, Try.ntmps52
    go_wp2_with fail
    refine hn.mono ?_
    rintro e w1 ⟨rfl, rfl⟩
    go_wp2_with fail
    refine hN.mono ?_
    rintro e w2 ⟨rfl, hb2⟩
    clear hn hN
    go_wp2
    go_ret2
    exact ⟨rfl, hb2⟩
theorem find_there (h : Dk w p m S L) (s : ByteArray) (hm : mayB s.data.toList = true) (f : Fo) (hf : find L s.data.toList = some f) :
    Calls Try.prog 52 #[.pointer (some ⟨p, 0, none⟩), .string s, .bool true] w fun e w' => e = .returned (.tuple #[.pointer (some ⟨f.g, 0, none⟩), .int .i64 0]) ∧ Below w.heap.size w w' := by
  have hn := none_any h
  have hN := mayName_any s w
  rw [hm] at hN
  have hsz : s.size ≤ maxLen := by have := may_size hm; unfold maxLen; omega
  have H := Lib.hid h
  have HF := Lib.hid hf
  have HS := Lib.hid hsz
  clear hm h hf hsz
  go_enter Try.func52, Try.ntmps52
  go_wp2_with fail
  refine hn.mono ?_
  rintro e w1 ⟨rfl, rfl⟩
  go_wp2_with fail
  refine hN.mono ?_
  rintro e w2 ⟨rfl, hb2⟩
  have h2 := H.out.below hb2
  have hl := h2.look s HS.out
  have k1 := h2.c1
  rw [HF.out] at hl
  simp only [ptrOf] at hl
  clear hn hN h2
  go_wp2
  go_ret2
  exact ⟨rfl, hb2⟩
theorem find_lacks (h : Dk w p m S L) (s : ByteArray) (hm : mayB s.data.toList = true) (hf : find L s.data.toList = none) :
    Calls Try.prog 52 #[.pointer (some ⟨p, 0, none⟩), .string s, .bool true] w fun e w' => e = .returned (.tuple #[.pointer none, .int .i64 6]) ∧ Below w.heap.size w w' := by
  have hn := none_any h
  have hN := mayName_any s w
  rw [hm] at hN
  have hsz : s.size ≤ maxLen := by have := may_size hm; unfold maxLen; omega
  have H := Lib.hid h
  have HF := Lib.hid hf
  have HS := Lib.hid hsz
  clear hm h hf hsz
  go_enter Try.func52, Try.ntmps52
  go_wp2_with fail
  refine hn.mono ?_
  rintro e w1 ⟨rfl, rfl⟩
  go_wp2_with fail
  refine hN.mono ?_
  rintro e w2 ⟨rfl, hb2⟩
  have h2 := H.out.below hb2
  have hl := h2.look s HS.out
  have k1 := h2.c1
  rw [HF.out] at hl
  simp only [ptrOf] at hl
  clear hn hN h2
  go_wp2
  go_ret2
  exact ⟨rfl, hb2⟩
theorem dead_any (h : Dk w p m S L) : Calls Try.prog 21 #[.pointer (some ⟨p, 0, none⟩)] w fun e w' => e = .returned (.bool S.dead) ∧ w' = w := by
  have hn := none_any h
  have h3 := h.c3
  clear h
  generalize S.dead = q at h3 ⊢
  go_enter Try.func21, Try.ntmps21
  go_wp2_with fail
  refine hn.mono ?_
  rintro e w1 ⟨rfl, rfl⟩
  clear hn
  go_wp2
  go_ret
  exact ⟨rfl, rfl⟩
theorem writes_any (h : Dk w p m S L) : Calls Try.prog 22 #[.pointer (some ⟨p, 0, none⟩)] w fun e w' => e = .returned (.int .i64 (S.wr : Int)) ∧ w' = w := by
  have hn := none_any h
  have h4 := h.c4
  clear h
  generalize S.wr = q at h4 ⊢
  go_enter Try.func22, Try.ntmps22
  go_wp2_with fail
  refine hn.mono ?_
  rintro e w1 ⟨rfl, rfl⟩
  clear hn
  go_wp2
  go_ret
  exact ⟨rfl, rfl⟩
end
/-- A disk without files. -/
theorem blank_any (c : Nat) (w : World) (h1 : 1 ≤ c) (h2 : c ≤ 16777216) :
    Calls Try.prog 31 #[.int .i64 (c : Int)] w fun e w' => ∃ p m, e = .returned (.pointer (some ⟨p, 0, none⟩)) ∧ Dk w' p m ⟨c, -1, false, 0⟩ [] ∧ (∀ i, Foot p m [] i → w.heap.size ≤ i) ∧ Below w.heap.size w w' := by
  have hmm := @run_makeMap Try.prog
  have hb0 : Below w.heap.size w ((w.alloc (.map #[] 0)).alloc (.cells (dkc ⟨c, -1, false, 0⟩ w.heap.size) 63)) := ((Below.refl _ _).alloc (Nat.le_refl _) _).alloc (by simp) _
  have hB := Blk.new (w.alloc (.map #[] 0)) 63 (dkc ⟨c, -1, false, 0⟩ w.heap.size)
  rw [show (w.alloc (.map #[] 0)).heap.size = w.heap.size + 1 by simp] at hB
  have hM := (World.ownsMap_made w Try.prog 9 ptrR).alloc (.cells (dkc ⟨c, -1, false, 0⟩ w.heap.size) 63)
  go_enter Try.func31, Try.ntmps31
  go_wp2
  go_ret
  refine ⟨_, w.heap.size, rfl, ⟨hB, hM, List.Pairwise.nil, (fun f hf => by cases hf), (fun f hf => by cases hf), h1, h2, Nat.zero_le _, Nat.zero_le _, (by show (-9223372036854775808 : Int) ≤ -1; omega), (by show (-1 : Int) ≤ 9223372036854775807; omega)⟩, ?_, hb0⟩
  rintro i (rfl | rfl | ⟨f, hf, _⟩)
  · simp
  · exact Nat.le_refl _
  · cases hf
theorem new_bad (c : Int) (w : World) (h : ¬ (1 ≤ c ∧ c ≤ 16777216)) :
    Calls Try.prog 7 #[.int .i64 c] w fun e w' => e = .returned (.tuple #[.pointer none, .int .i64 2]) ∧ w' = w := by
  by_cases h1 : 1 ≤ c
  · have t1 : decide (c < 1) = false := decide_eq_false (by omega)
    have t2 : decide (16777216 < c) = true := decide_eq_true (by omega)
    clear h h1
    go_enter Try.func7, Try.ntmps7
    go_wp2
    go_ret2
    exact ⟨rfl, rfl⟩
  · have t1 : decide (c < 1) = true := decide_eq_true (by omega)
    clear h h1
    go_enter Try.func7, Try.ntmps7
    go_wp2
    go_ret2
    exact ⟨rfl, rfl⟩
theorem new_any (c : Nat) (w : World) (h1 : 1 ≤ c) (h2 : c ≤ 16777216) :
    Calls Try.prog 7 #[.int .i64 (c : Int)] w fun e w' => ∃ p m, e = .returned (.tuple #[.pointer (some ⟨p, 0, none⟩), .int .i64 0]) ∧ Dk w' p m ⟨c, -1, false, 0⟩ [] ∧ (∀ i, Foot p m [] i → w.heap.size ≤ i) ∧ Below w.heap.size w w' := by
  have t1 : decide ((c : Int) < 1) = false := decide_eq_false (by omega)
  have t2 : decide ((16777216 : Int) < (c : Int)) = false := decide_eq_false (by omega)
  have hbl := blank_any c w h1 h2
  clear h1 h2
  go_enter Try.func7, Try.ntmps7
  go_wp2_with fail
  refine hbl.mono ?_
  rintro e w1 ⟨p, m, rfl, hd, hf, hb⟩
  clear hbl
  go_wp2
  go_ret2
  exact ⟨p, m, rfl, hd, hf, hb⟩
end Go.Proofs.Ytdbkhigocjmfoaa

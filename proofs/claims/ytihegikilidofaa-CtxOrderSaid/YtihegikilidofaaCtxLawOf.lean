/-
  A context of dots, by both: the laws' 'of'.
-/
import Derived.Test.YtihegikilidofaaCtxLawPlays
namespace Go.Proofs.Ytihegikilidofaa
open Go.RowKit
open CtxM
set_option linter.unusedVariables false
set_option linter.unusedSimpArgs false
set_option maxRecDepth 20000

set_option maxHeartbeats 4000000 in
theorem of_any (vl : Value) (L : List Dt) (w : World) (hL : Sd w vl L) (hl : L.length ≤ 4000) :
    Calls Try.prog 22 #[vl] w fun e w' => ∃ h, e = .returned (.tuple #[.pointer (some ⟨w.heap.size, 0, none⟩), .pointer (some ⟨h, 0, none⟩)]) ∧ Two w' w.heap.size w.heap.size h (addAll (zeros, []) L) ∧ Below w.heap.size w w' := by
  have hfo : Try.prog.follows .mixedOrders = true := by kernel_rfl
  have HL := Lib.hid hL
  obtain ⟨A, c, rfl, _, _⟩ := hL
  go_enter Try.func22, Try.ntmps22
  go_wp2_with fail
  refine (new_any w).mono ?_
  rintro e w1 ⟨rfl, hc1, hb1⟩
  have hlt1 := hc1.blk.lt
  have hT0 := two_new w.heap.size hc1 (Nat.le_refl _) hlt1
  have hb2 : Below w.heap.size w (w1.alloc (.cells (sxc zeros (.slice none 0 0)) 30)) := hb1.alloc hb1.size _
  have hz2 : w.heap.size ≤ (w1.alloc (.cells (sxc zeros (.slice none 0 0)) 30)).heap.size := hb2.size
  clear hc1 hb1
  go_wp2
  go_loopw [6] (fun z wr => ∃ i : Nat, z = .int .i64 (i : Int) ∧ i ≤ L.length ∧ Two wr w.heap.size w.heap.size w1.heap.size (addAll (zeros, []) (L.take i)) ∧ Below w.heap.size w wr ∧ w.heap.size ≤ wr.heap.size) (fun z _ => L.length - (intOf z).toNat)
  case atStart => exact ⟨0, rfl, Nat.zero_le _, hT0, hb2, hz2⟩
  case round =>
    clear hT0 hb2 hz2
    obtain ⟨i, rfl, hi, hT, hb, hz⟩ := hrel
    by_cases hlt : i < L.length
    · obtain ⟨d, hd⟩ : ∃ d, L[i] = d := ⟨_, rfl⟩
      obtain ⟨b, o, rfl, k0, k1⟩ := (HL.out.below hb).at_ i hlt d hd
      have hil : (i : Int) < (L.length : Int) := by omega
      have hSl : (addAll (zeros, []) (L.take i)).2.length ≤ 4000 := by
        have h1 := addAll_short (L.take i) (zeros, [])
        have h2 : (L.take i).length ≤ i := by rw [List.length_take]; omega
        simp only [List.length_nil] at h1
        omega
      have HST := Lib.hid (show addAll (zeros, []) (L.take (i + 1)) = addS (addAll (zeros, []) (L.take i)) d by
        rw [List.take_succ_eq_append_getElem hlt, hd, addAll_append]; rfl)
      generalize addAll (zeros, []) (L.take i) = S at hT hSl HST
      have HD := Lib.hid hd
      have HLT := Lib.hid hlt
      clear hd
      go_wp2_with fail
      refine (refMay_any d wr).mono ?_
      rintro e w2 ⟨rfl, hg2⟩
      have hT2 := hT.below hg2.below
      have hb2 := hb.trans (hg2.below.mono hz)
      have hz2 := Nat.le_trans hz hg2.below.size
      clear k0 k1 hT hb hz hg2
      by_cases hM : May d
      · rw [decide_eq_true hM]
        have HM := Lib.hid hM
        clear hM
        obtain ⟨bb2, oo2, ee2, k0, k1⟩ := (HL.out.below hb2).at_ i HLT.out d HD.out
        injection ee2 with ee2
        injection ee2 with f1 f2
        subst f1; subst f2
        go_wp2_with fail
        refine (two_add hT2 (by omega) hb2 hz2).mono ?_
        rintro e w3 ⟨rfl, hb3, hz3, h3⟩
        clear k0 k1 hT2 hb2 hz2
        obtain ⟨bb3, oo3, ee3, k0, k1⟩ := (HL.out.below hb3).at_ i HLT.out d HD.out
        injection ee3 with ee3
        injection ee3 with f1 f2
        subst f1; subst f2
        go_wp2_with fail
        refine (two_ref HM.out h3 (by omega) (by omega) hb3 hz3).mono ?_
        rintro e w4 ⟨rfl, hb4, hz4, hT4⟩
        clear k0 k1 h3 hb3 hz3
        go_wp2
        exact ⟨⟨i + 1, by go_num, HLT.out, by rw [HST.out]; exact hT4, hb4, hz4⟩, by have := HLT.out; simp [intOf]; omega⟩
      · rw [decide_eq_false hM]
        have hS : addS S d = S := by unfold addS; rw [if_neg hM]
        have HS := Lib.hid hS
        clear hM hS
        go_wp2
        exact ⟨⟨i + 1, by go_num, HLT.out, by rw [HST.out, HS.out]; exact hT2, hb2, hz2⟩, by have := HLT.out; simp [intOf]; omega⟩
    · obtain rfl : i = L.length := by omega
      rw [List.take_length] at hT
      clear hlt hi
      go_wp2
      go_ret2
      exact ⟨_, rfl, hT, hb⟩
end Go.Proofs.Ytihegikilidofaa

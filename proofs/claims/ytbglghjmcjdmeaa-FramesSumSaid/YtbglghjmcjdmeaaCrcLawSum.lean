/-
  The walk of minsterlaw02.FramesSum.
-/
import Derived.Test.YtbglghjmcjdmeaaCrcKnown
import Derived.Test.YtbglghjmcjdmeaaCrcRefOpen
import Derived.Test.YtbglghjmcjdmeaaHeld
namespace Go.Proofs.Ytbglghjmcjdmeaa
open Go.RowKit
set_option linter.unusedVariables false

set_option maxHeartbeats 4000000 in
set_option maxRecDepth 100000 in
theorem law_sum (v : Value) (ls : List (List UInt8)) (w : World) (hs : Sls w v ls) (hn : ls.length ≤ 9223372036854775807) (hl : ∀ l ∈ ls, l.length ≤ 140737488351232) :
    Calls Try.prog 3 #[v] w fun e w' => e = .returned (.bool true) ∧ Below w.heap.size w w' := by
  obtain ⟨i0, hi, hz0, hz1, hz2⟩ := info_parts info_u8
  have hs' := hs
  obtain ⟨A, c, rfl, hc, ha⟩ := hs
  clear ha
  have HL := Lib.hid hl
  clear hl
  go_enter Try.func3, Try.ntmps3
  go_wp2
  go_loopw [3, 4] (fun x z wr => ∃ k : Nat, k ≤ ls.length ∧ z = .int .i64 (k : Int) ∧ Own wr w.heap.size 5 x (ls.take k).flatten ∧ (ls.take k).flatten.length ≤ 1500 ∧ Below w.heap.size w wr) (fun _ z _ => ls.length - (intOf z).toNat)
  case atStart => exact ⟨0, Nat.zero_le _, rfl, by simpa using Own.nil, by simp, Below.refl _ _⟩
  case round =>
    obtain ⟨k, hk, rfl, ho, hle, hb⟩ := hrel
    obtain ⟨A1, n1, c1, rfl⟩ := ho.shape
    have hn1 := ho.sl.len
    by_cases hlt : k < ls.length
    · have E := Lib.hid (flatten_take_succ ls k hlt)
      have hlk := HL.out _ (List.getElem_mem hlt)
      obtain ⟨A', c', e, _, ha⟩ := hs'.below hb
      injection e with e1 e2 e3
      subst e1 e3
      obtain ⟨b, o, rfl, hx⟩ := ha (by omega)
      obtain ⟨u, hu, hsu⟩ := hx k hlt
      have hsu' := hsu
      obtain ⟨A2, c2, rfl, _, _⟩ := hsu
      clear hx ha hs' HL
      have hle1 : n1 ≤ 1500 := by omega
      have hbw := hb.size
      by_cases hbig : 1500 < n1 + ls[k].length
      · have hbig' : (1500 : Int) < (n1 : Int) + (ls[k].length : Int) := by omega
        clear hn1
        go_wp2_with (go_at_call 8; refine (known_any _).mono ?_; rintro e w2 ⟨rfl, hb2⟩)
        go_ret
        exact ⟨rfl, hb.trans (hb2.mono hbw)⟩
      · have hbig' : ¬ (1500 : Int) < (n1 : Int) + (ls[k].length : Int) := by omega
        have Hlen := Lib.hid (show (ls.take k).flatten.length + ls[k].length ≤ 140737488355328 by omega)
        have Hlen2 := Lib.hid (show (ls.take k).flatten.length + ls[k].length ≤ 1500 by omega)
        clear hn1 hle
        go_wp2_with (at_builtin; refine wpList_append_big _ rfl _ _ 23 rfl w.heap.size 5 i0 Try.underlying23 hi hz0 hz1 hz2 _ (ls.take k).flatten rfl ho _ ls[k] rfl hsu' Hlen.out hbw ?_)
        intro v' w2 ho2 hb2
        have Ho := Lib.hid ho2
        clear ho2
        go_wp2
        go_roundw
        case rel => exact ⟨k + 1, by omega, by go_num, by rw [E.out]; exact Ho.out, by rw [E.out, List.length_append]; exact Hlen2.out, hb.trans hb2⟩
        case measure => simp [intOf]; omega
    · obtain rfl : k = ls.length := by omega
      rw [List.take_length] at ho hle hn1
      have hsl := ho.sl
      have hrows := hs'.below hb
      have Hl := Lib.hid hle
      clear ho hn1 HL hs' hle
      go_wp2_with fail
      refine (close_any _ ls _ hrows (by have := Hl.out; omega) hn).mono ?_
      rintro e w1 ⟨v1, rfl, ho1, hb1⟩
      obtain ⟨A2, n2, c2, rfl⟩ := ho1.shape
      have hcl := ho1.sl
      have hall := hsl.below hb1
      have hrows1 := hrows.below hb1
      have hb2 := hb.trans (hb1.mono hb.size)
      clear ho1 hsl hrows hb hb1
      obtain ⟨str, hstr⟩ : ∃ t : ByteArray, (⟨(closeB ls.flatten).toArray⟩ : ByteArray) = t := ⟨_, rfl⟩
      have Hstr := Lib.hid hstr
      clear hstr
      go_upto_region 9 with (fail)
      have hall0 : Sl w1.drew (.slice A1 n1 c1) ls.flatten := hall
      have hcl0 : Sl w1.drew (.slice A2 n2 c2) (closeB ls.flatten) := hcl
      have B0 : Below w.heap.size w w1.drew := hb2.drew
      have hrows0 : Sls w1.drew (.slice A ls.length c) ls := hrows1
      clear hall hcl hb2 hrows1
      refine held_begin (by kernel_rfl) ?_
      generalize w1.drew = W0 at hall0 hcl0 B0 hrows0 ⊢
      have hm : ls.flatten.length ≤ 140737488355328 := by have := Hl.out; omega
      refine' wpAnyH_take (i := 0) (oi := ⟨some 30, _, _, _, _, _⟩) (v := _) rfl (by kernel_rfl) (by kernel_rfl) (by kernel_rfl) (fun _ _ _ h => h) (Or.inl ⟨by rfl, ?y0⟩) (Keeps.refl _) ?r0
      case y0 => (intro w' hSw; go_simp; try rfl)
      try simp only [Act.put, List.setIfInBounds_toArray, List.set_cons_zero, List.set_cons_succ]
      refine' wpAnyH_take (i := 2) (oi := ⟨some 32, _, _, _, _, _⟩) (v := _) rfl (by kernel_rfl) (by kernel_rfl) (by kernel_rfl) (fun _ _ _ h => h) (Or.inl ⟨by rfl, ?y2⟩) (Keeps.refl _) ?r2
      case y2 => (intro w' hSw; go_simp; try rfl)
      try simp only [Act.put, List.setIfInBounds_toArray, List.set_cons_zero, List.set_cons_succ]
      refine held_one (i := 1) (by kernel_rfl) rfl (fun K hK => ?_)
      go_simp
      refine (sum_any _ ls _ hrows0 hm hn).mono ?_
      rintro e W1 ⟨rfl, hb1⟩
      clear hrows0
      have hk1 := Keeps.of_below hb1
      have hall1 := hall0.below hb1
      have hcl1 := hcl0.below hb1
      have B1 := B0.trans (hb1.mono B0.size)
      clear hall0 hcl0 B0
      refine hK.out _ _ hk1 (fun _ => ?_)
      clear hK K
      refine held_next hk1 ?_
      clear hk1
      refine held_one (i := 3) (by kernel_rfl) rfl (fun K hK => ?_)
      go_simp
      refine (refSum_any _ ls.flatten _ hall1 hm).mono ?_
      rintro e W2 ⟨rfl, hb2⟩
      have hk2 := Keeps.of_below hb2
      have hall2 := hall1.below hb2
      have hcl2 := hcl1.below hb2
      have B2 := B1.trans (hb2.mono B1.size)
      clear hall1 hcl1 B1
      refine hK.out _ _ hk2 (fun _ => ?_)
      clear hK K
      refine held_next hk2 ?_
      clear hk2
      refine' wpAnyH_take (i := 4) (oi := ⟨some 34, _, _, _, _, _⟩) (v := _) rfl (by kernel_rfl) (by kernel_rfl) (by kernel_rfl) (fun _ _ _ h => h) (Or.inl ⟨by rfl, ?y4⟩) (Keeps.refl _) ?r4
      case y4 => (intro w' hSw; go_simp; try rfl)
      try simp only [Act.put, List.setIfInBounds_toArray, List.set_cons_zero, List.set_cons_succ]
      refine' wpAnyH_take (i := 5) (oi := ⟨some 35, _, _, _, _, _⟩) (v := _) rfl (by kernel_rfl) (by kernel_rfl) (by kernel_rfl) (fun _ _ _ h => h) (Or.inl ⟨by rfl, ?y5⟩) (Keeps.refl _) ?r5
      case y5 => (intro w' hSw; go_simp; try rfl)
      try simp only [Act.put, List.setIfInBounds_toArray, List.set_cons_zero, List.set_cons_succ]
      refine' wpAnyH_take (i := 6) (oi := ⟨some 36, _, _, _, _, _⟩) (v := _) rfl (by kernel_rfl) (by kernel_rfl) (by kernel_rfl) (fun _ _ _ h => h) (Or.inl ⟨by rfl, ?y6⟩) (Keeps.refl _) ?r6
      case y6 => (intro w' hSw; go_simp; try rfl)
      try simp only [Act.put, List.setIfInBounds_toArray, List.set_cons_zero, List.set_cons_succ]
      refine' wpAnyH_take (i := 9) (oi := ⟨some 39, _, _, _, _, _⟩) (v := _) rfl (by kernel_rfl) (by kernel_rfl) (by kernel_rfl) (fun _ _ _ h => h) (Or.inl ⟨by rfl, ?y9⟩) (Keeps.refl _) ?r9
      case y9 => (intro w' hSw; go_simp; try rfl)
      try simp only [Act.put, List.setIfInBounds_toArray, List.set_cons_zero, List.set_cons_succ]
      refine held_one (i := 7) (by kernel_rfl) rfl (fun K hK => ?_)
      go_simp
      have hb3 : Below W2.heap.size W2 (W2.alloc (.cells #[.slice A1 n1 c1] 23)) := (Below.refl _ _).alloc (Nat.le_refl _) _
      have hone := Sls.one W2 23 _ _ hall2
      have hk3 := Keeps.of_below hb3
      have hall3 := hall2.below hb3
      have hcl3 := hcl2.below hb3
      have B3 := B2.trans (hb3.mono B2.size)
      clear hall2 hcl2 B2
      refine hK.out _ _ hk3 (fun _ => ?_)
      clear hK K
      refine held_next hk3 ?_
      clear hk3
      refine held_one (i := 8) (by kernel_rfl) rfl (fun K hK => ?_)
      go_simp
      refine (sum_any _ [ls.flatten] _ hone (by simpa using hm) (by simp)).mono ?_
      rintro e W3 ⟨rfl, hb4⟩
      rw [show crcN [ls.flatten].flatten = crcN ls.flatten by rw [show [ls.flatten].flatten = ls.flatten by simp]]
      clear hone
      have hk4 := Keeps.of_below hb4
      have hall4 := hall3.below hb4
      have hcl4 := hcl3.below hb4
      have B4 := B3.trans (hb4.mono B3.size)
      clear hall3 hcl3 B3
      refine hK.out _ _ hk4 (fun _ => ?_)
      clear hK K
      refine held_next hk4 ?_
      clear hk4
      refine held_one (i := 10) (by kernel_rfl) rfl (fun K hK => ?_)
      go_simp
      refine (refSum_any _ ls.flatten _ hall4 hm).mono ?_
      rintro e W4 ⟨rfl, hb5⟩
      have hk5 := Keeps.of_below hb5
      have hall5 := hall4.below hb5
      have hcl5 := hcl4.below hb5
      have B5 := B4.trans (hb5.mono B4.size)
      clear hall4 hcl4 B4
      refine hK.out _ _ hk5 (fun _ => ?_)
      clear hK K
      refine held_next hk5 ?_
      clear hk5
      refine' wpAnyH_take (i := 11) (oi := ⟨some 41, _, _, _, _, _⟩) (v := _) rfl (by kernel_rfl) (by kernel_rfl) (by kernel_rfl) (fun _ _ _ h => h) (Or.inl ⟨by rfl, ?y11⟩) (Keeps.refl _) ?r11
      case y11 => (intro w' hSw; go_simp; try rfl)
      try simp only [Act.put, List.setIfInBounds_toArray, List.set_cons_zero, List.set_cons_succ]
      refine' wpAnyH_take (i := 12) (oi := ⟨some 42, _, _, _, _, _⟩) (v := _) rfl (by kernel_rfl) (by kernel_rfl) (by kernel_rfl) (fun _ _ _ h => h) (Or.inl ⟨by rfl, ?y12⟩) (Keeps.refl _) ?r12
      case y12 => (intro w' hSw; go_simp; try rfl)
      try simp only [Act.put, List.setIfInBounds_toArray, List.set_cons_zero, List.set_cons_succ]
      refine' wpAnyH_take (i := 13) (oi := ⟨some 43, _, _, _, _, _⟩) (v := _) rfl (by kernel_rfl) (by kernel_rfl) (by kernel_rfl) (fun _ _ _ h => h) (Or.inl ⟨by rfl, ?y13⟩) (Keeps.refl _) ?r13
      case y13 => (intro w' hSw; go_simp; try rfl)
      try simp only [Act.put, List.setIfInBounds_toArray, List.set_cons_zero, List.set_cons_succ]
      refine' wpAnyH_take (i := 14) (oi := ⟨some 44, _, _, _, _, _⟩) (v := _) rfl (by kernel_rfl) (by kernel_rfl) (by kernel_rfl) (fun _ _ _ h => h) (Or.inl ⟨by rfl, ?y14⟩) (Keeps.refl _) ?r14
      case y14 => (intro w' hSw; go_simp; try rfl)
      try simp only [Act.put, List.setIfInBounds_toArray, List.set_cons_zero, List.set_cons_succ]
      refine' wpAnyH_take (i := 16) (oi := ⟨some 46, _, _, _, _, _⟩) (v := _) rfl (by kernel_rfl) (by kernel_rfl) (by kernel_rfl) (fun _ _ _ h => h) (Or.inl ⟨by rfl, ?y16⟩) (Keeps.refl _) ?r16
      case y16 => (intro w' hSw; go_simp; try rfl)
      try simp only [Act.put, List.setIfInBounds_toArray, List.set_cons_zero, List.set_cons_succ]
      have q15 : ∀ w', Keeps W4 w' → (convert 23 9 (.slice A2 n2 c2)).run Try.prog w' = .ok (.string str) w' := fun w' hk => conv_mk (hk.sl hcl5) Hstr.out
      refine' wpAnyH_take (i := 15) (oi := ⟨some 45, _, _, _, _, _⟩) (v := _) rfl (by kernel_rfl) (by kernel_rfl) (by kernel_rfl) (fun _ _ _ h => h) (Or.inl ⟨by rfl, ?y15⟩) (Keeps.refl _) ?r15
      case y15 => (intro w' hSw; go_simp; try rfl)
      try simp only [Act.put, List.setIfInBounds_toArray, List.set_cons_zero, List.set_cons_succ]
      clear q15
      refine held_one (i := 17) (by kernel_rfl) rfl (fun K hK => ?_)
      go_simp
      refine (refClose_any _ ls.flatten _ hall5 (by have := Hl.out; omega)).mono ?_
      rintro e W5 ⟨v5, rfl, ho5, hb6⟩
      obtain ⟨A5, n5, c5, rfl⟩ := ho5.shape
      have hk6 := Keeps.of_below hb6
      have hall6 := hall5.below hb6
      have hcl6 := hcl5.below hb6
      have B6 := B5.trans (hb6.mono B5.size)
      clear hall5 hcl5 B5
      refine hK.out _ _ hk6 (fun _ => ?_)
      clear hK K
      refine held_next hk6 ?_
      clear hk6
      have q18 : ∀ w', Keeps W5 w' → (convert 23 9 (.slice A5 n5 c5)).run Try.prog w' = .ok (.string str) w' := fun w' hk => conv_mk (hk.sl ho5.sl) Hstr.out
      refine' wpAnyH_take (i := 18) (oi := ⟨some 48, _, _, _, _, _⟩) (v := _) rfl (by kernel_rfl) (by kernel_rfl) (by kernel_rfl) (fun _ _ _ h => h) (Or.inl ⟨by rfl, ?y18⟩) (Keeps.refl _) ?r18
      case y18 => (intro w' hSw; go_simp; try rfl)
      try simp only [Act.put, List.setIfInBounds_toArray, List.set_cons_zero, List.set_cons_succ]
      clear q18 ho5
      refine' wpAnyH_take (i := 19) (oi := ⟨some 49, _, _, _, _, _⟩) (v := _) rfl (by kernel_rfl) (by kernel_rfl) (by kernel_rfl) (fun _ _ _ h => h) (Or.inl ⟨by rfl, ?y19⟩) (Keeps.refl _) ?r19
      case y19 => (intro w' hSw; go_simp; try rfl)
      try simp only [Act.put, List.setIfInBounds_toArray, List.set_cons_zero, List.set_cons_succ]
      refine' wpAnyH_take (i := 20) (oi := ⟨some 50, _, _, _, _, _⟩) (v := _) rfl (by kernel_rfl) (by kernel_rfl) (by kernel_rfl) (fun _ _ _ h => h) (Or.inl ⟨by rfl, ?y20⟩) (Keeps.refl _) ?r20
      case y20 => (intro w' hSw; go_simp; try rfl)
      try simp only [Act.put, List.setIfInBounds_toArray, List.set_cons_zero, List.set_cons_succ]
      refine' wpAnyH_take (i := 21) (oi := ⟨some 51, _, _, _, _, _⟩) (v := _) rfl (by kernel_rfl) (by kernel_rfl) (by kernel_rfl) (fun _ _ _ h => h) (Or.inl ⟨by rfl, ?y21⟩) (Keeps.refl _) ?r21
      case y21 => (intro w' hSw; go_simp; try rfl)
      try simp only [Act.put, List.setIfInBounds_toArray, List.set_cons_zero, List.set_cons_succ]
      refine' wpAnyH_take (i := 22) (oi := ⟨some 52, _, _, _, _, _⟩) (v := _) rfl (by kernel_rfl) (by kernel_rfl) (by kernel_rfl) (fun _ _ _ h => h) (Or.inl ⟨by rfl, ?y22⟩) (Keeps.refl _) ?r22
      case y22 => (intro w' hSw; go_simp; try rfl)
      try simp only [Act.put, List.setIfInBounds_toArray, List.set_cons_zero, List.set_cons_succ]
      refine held_one (i := 23) (by kernel_rfl) rfl (fun K hK => ?_)
      go_simp
      have hb7 : Below W5.heap.size W5 (W5.alloc (.cells #[.slice A2 n2 c2] 23)) := (Below.refl _ _).alloc (Nat.le_refl _) _
      have hone := Sls.one W5 23 _ _ hcl6
      have hk7 := Keeps.of_below hb7
      have hall7 := hall6.below hb7
      have hcl7 := hcl6.below hb7
      have B7 := B6.trans (hb7.mono B6.size)
      clear hall6 hcl6 B6
      refine hK.out _ _ hk7 (fun _ => ?_)
      clear hK K
      refine held_next hk7 ?_
      clear hk7
      refine held_one (i := 24) (by kernel_rfl) rfl (fun K hK => ?_)
      go_simp
      refine (sum_any _ [closeB ls.flatten] _ hone (by simp [closeB_length]; have := Hl.out; simp at this; omega) (by simp)).mono ?_
      rintro e W6 ⟨rfl, hb8⟩
      rw [show crcN [closeB ls.flatten].flatten = resN by rw [show [closeB ls.flatten].flatten = closeB ls.flatten by simp]; exact crcN_close _]
      clear hone
      have hk8 := Keeps.of_below hb8
      have hall8 := hall7.below hb8
      have hcl8 := hcl7.below hb8
      have B8 := B7.trans (hb8.mono B7.size)
      clear hall7 hcl7 B7
      refine hK.out _ _ hk8 (fun _ => ?_)
      clear hK K
      refine held_next hk8 ?_
      clear hk8
      refine held_one (i := 25) (by kernel_rfl) rfl (fun K hK => ?_)
      go_simp
      refine (residue_any _).mono ?_
      rintro e W7 ⟨rfl, hb9⟩
      have hk9 := Keeps.of_below hb9
      have hall9 := hall8.below hb9
      have hcl9 := hcl8.below hb9
      have B9 := B8.trans (hb9.mono B8.size)
      clear hall8 hcl8 B8
      refine hK.out _ _ hk9 (fun _ => ?_)
      clear hK K
      refine held_next hk9 ?_
      clear hk9
      refine' wpAnyH_take (i := 26) (oi := ⟨some 56, _, _, _, _, _⟩) (v := _) rfl (by kernel_rfl) (by kernel_rfl) (by kernel_rfl) (fun _ _ _ h => h) (Or.inl ⟨by rfl, ?y26⟩) (Keeps.refl _) ?r26
      case y26 => (intro w' hSw; go_simp; try rfl)
      try simp only [Act.put, List.setIfInBounds_toArray, List.set_cons_zero, List.set_cons_succ]
      refine' wpAnyH_take (i := 27) (oi := ⟨some 57, _, _, _, _, _⟩) (v := _) rfl (by kernel_rfl) (by kernel_rfl) (by kernel_rfl) (fun _ _ _ h => h) (Or.inl ⟨by rfl, ?y27⟩) (Keeps.refl _) ?r27
      case y27 => (intro w' hSw; go_simp; try rfl)
      try simp only [Act.put, List.setIfInBounds_toArray, List.set_cons_zero, List.set_cons_succ]
      refine' wpAnyH_take (i := 28) (oi := ⟨some 58, _, _, _, _, _⟩) (v := _) rfl (by kernel_rfl) (by kernel_rfl) (by kernel_rfl) (fun _ _ _ h => h) (Or.inl ⟨by rfl, ?y28⟩) (Keeps.refl _) ?r28
      case y28 => (intro w' hSw; go_simp; try rfl)
      try simp only [Act.put, List.setIfInBounds_toArray, List.set_cons_zero, List.set_cons_succ]
      refine held_one (i := 29) (by kernel_rfl) rfl (fun K hK => ?_)
      go_simp
      refine (known_any _).mono ?_
      rintro e W8 ⟨rfl, hb10⟩
      have hk10 := Keeps.of_below hb10
      have hall10 := hall9.below hb10
      have hcl10 := hcl9.below hb10
      have B10 := B9.trans (hb10.mono B9.size)
      clear hall9 hcl9 B9
      refine hK.out _ _ hk10 (fun _ => ?_)
      clear hK K
      refine held_next hk10 ?_
      clear hk10
      refine' wpAnyH_take (i := 30) (oi := ⟨some 60, _, _, _, _, _⟩) (v := _) rfl (by kernel_rfl) (by kernel_rfl) (by kernel_rfl) (fun _ _ _ h => h) (Or.inl ⟨by rfl, ?y30⟩) (Keeps.refl _) ?r30
      case y30 => (intro w' hSw; go_simp; try rfl)
      try simp only [Act.put, List.setIfInBounds_toArray, List.set_cons_zero, List.set_cons_succ]
      refine' wpAnyH_take (i := 31) (oi := ⟨some 2, _, _, _, _, _⟩) (v := _) rfl (by kernel_rfl) (by kernel_rfl) (by kernel_rfl) (fun _ _ _ h => h) (Or.inl ⟨by rfl, ?y31⟩) (Keeps.refl _) ?r31
      case y31 => (intro w' hSw; go_simp; try rfl)
      try simp only [Act.put, List.setIfInBounds_toArray, List.set_cons_zero, List.set_cons_succ]
      refine wpAnyH_done (by kernel_rfl) ?_ _
      go_wp2_with fail
      go_ret
      exact ⟨rfl, B10⟩
end Go.Proofs.Ytbglghjmcjdmeaa

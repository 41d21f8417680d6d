/-
  The walk of minsterlaw02.FramesShort.
-/
import Derived.Test.YtbglghjmcjdmeaaCrcKnown
import Derived.Test.YtbglghjmcjdmeaaCrcRefOpen
namespace Go.Proofs.Ytbglghjmcjdmeaa
open Go.RowKit
set_option linter.unusedVariables false

theorem opens_false {l : List UInt8} (h : opens l = false) : 4 ≤ l.length → crcN l ≠ resN := by
  intro h4 hc
  simp [opens, h4, hc] at h
theorem opens_true {l : List UInt8} (h : opens l = true) : 4 ≤ l.length ∧ crcN l = resN := by
  simpa [opens] using h
/-- Open, whatever the bytes: is it opened? -/
theorem open_any (v : Value) (l : List UInt8) (w : World) (hs : Sl w v l) (hl : l.length ≤ 140737488355328) :
    Calls Try.prog 14 #[v] w fun e w' => ∃ v', e = .returned (.tuple #[v', .bool (opens l)]) ∧ Below w.heap.size w w' := by
  cases h : opens l with
  | true =>
    obtain ⟨h4, hc⟩ := opens_true h
    exact (open_yes v l w hs hl h4 hc).mono fun e w' ⟨v', he, _, hb⟩ => ⟨v', he, hb⟩
  | false => exact (open_no v l w hs hl (opens_false h)).mono fun e w' ⟨he, hb⟩ => ⟨_, he, hb⟩
/-- The document's Open, likewise. -/
theorem refOpen_any (v : Value) (l : List UInt8) (w : World) (hs : Sl w v l) (hl : l.length ≤ 140737488355328) :
    Calls Try.prog 15 #[v] w fun e w' => ∃ v', e = .returned (.tuple #[v', .bool (opens l)]) ∧ Below w.heap.size w w' := by
  by_cases h4 : 4 ≤ l.length
  · cases h : opens l with
    | true =>
      obtain ⟨h4, hc⟩ := opens_true h
      exact (refOpen_yes v l w hs hl h4 hc).mono fun e w' ⟨v', he, _, hb⟩ => ⟨v', he, hb⟩
    | false => exact (refOpen_no v l w hs hl h4 (opens_false h h4)).mono fun e w' ⟨he, hb⟩ => ⟨_, he, hb⟩
  · have h : opens l = false := by simp [opens, h4]
    rw [h]
    exact (refOpen_few v l w hs (by omega)).mono fun e w' ⟨he, hb⟩ => ⟨_, he, hb⟩
/-- The end of a slice. -/
theorem Sl.back {w : World} {g o n c : Nat} {l : List UInt8} (h : Sl w (.slice (some ⟨g, o, none⟩) n c) l) (i : Nat) (hi : i ≤ n) (c' : Nat) (hc' : n - i ≤ c') : Sl w (.slice (some ⟨g, o + i, none⟩) (n - i) c') (l.drop i) := by
  have hn := h.len
  obtain ⟨A', c2, e, _, ha⟩ := h
  injection e with e1 e2 e3
  subst e1
  have hl : (l.drop i).length = n - i := by rw [List.length_drop, hn]
  refine ⟨_, c', by rw [hl], by rw [hl]; exact hc', fun h0 => ?_⟩
  rw [hl] at h0
  obtain ⟨b, o', e, hx⟩ := ha (by omega)
  injection e with e
  injection e with e1 e2 e3
  subst e1 e2
  refine ⟨g, o + i, rfl, fun j hj => ?_⟩
  rw [hl] at hj
  rw [Nat.add_assoc, hx (i + j) (by omega), List.getElem_drop]

set_option maxHeartbeats 1000000 in
theorem short_bad (v : Value) (l : List UInt8) (gone : Int) (w : World) (hs : Sl w v l) (hl : l.length ≤ 140737488351232)
    (h : 800 < l.length ∨ gone < 1 ∨ (l.length : Int) + 4 < gone) :
    Calls Try.prog 7 #[v, .int .i64 gone] w fun e w' => e = .returned (.bool true) ∧ Below w.heap.size w w' := by
  have hs' := hs
  obtain ⟨A, c, rfl, hc, ha⟩ := hs
  clear ha
  have close : Calls Try.prog 9 #[.slice (some ⟨w.heap.size, 0, none⟩) 1 1] (w.alloc (.cells #[.slice A l.length c] 23)) fun e w' => ∃ A' c', e = .returned (.slice A' (l.length + 4) c') ∧ Below w.heap.size w w' := by
    refine (close_any _ [l] _ (Sls.one w 23 _ _ hs') (by simp; omega) (by simp)).mono ?_
    rintro e w1 ⟨v1, rfl, ho1, hb1⟩
    obtain ⟨A1, n1, c1, rfl⟩ := ho1.shape
    obtain rfl : n1 = l.length + 4 := by have := ho1.sl.len; simpa [closeB_length] using this
    exact ⟨A1, c1, rfl, ((Below.refl _ _).alloc (Nat.le_refl _) _).trans (hb1.mono (by simp))⟩
  have Close := Lib.hid close
  clear close hs'
  by_cases h1 : 800 < l.length
  · have h1' : (800 : Int) < (l.length : Int) := by omega
    clear h
    go_enter Try.func7, Try.ntmps7
    go_wp2_with fail
    refine Close.out.mono ?_
    rintro e w1 ⟨A1, c1, rfl, hb1⟩
    go_wp2_with (go_at_call 8; refine (known_any _).mono ?_; rintro e w2 ⟨rfl, hb2⟩)
    go_ret
    exact ⟨rfl, hb1.trans (hb2.mono hb1.size)⟩
  · have h1' : ¬ (800 : Int) < (l.length : Int) := by omega
    by_cases h3 : gone < 1
    · clear h
      go_enter Try.func7, Try.ntmps7
      go_wp2_with fail
      refine Close.out.mono ?_
      rintro e w1 ⟨A1, c1, rfl, hb1⟩
      go_wp2_with (go_at_call 8; refine (known_any _).mono ?_; rintro e w2 ⟨rfl, hb2⟩)
      go_ret
      exact ⟨rfl, hb1.trans (hb2.mono hb1.size)⟩
    · have h4 : (l.length : Int) + 4 < gone := by omega
      clear h
      go_enter Try.func7, Try.ntmps7
      go_wp2_with fail
      refine Close.out.mono ?_
      rintro e w1 ⟨A1, c1, rfl, hb1⟩
      go_wp2_with (go_at_call 8; refine (known_any _).mono ?_; rintro e w2 ⟨rfl, hb2⟩)
      go_ret
      exact ⟨rfl, hb1.trans (hb2.mono hb1.size)⟩

set_option maxHeartbeats 1000000 in
theorem short_good (v : Value) (l : List UInt8) (gone : Nat) (w : World) (hs : Sl w v l) (hl : l.length ≤ 800) (h1 : 1 ≤ gone) (h2 : gone ≤ l.length + 4) :
    Calls Try.prog 7 #[v, .int .i64 (gone : Int)] w fun e w' => e = .returned (.bool true) ∧ Below w.heap.size w w' := by
  have hs' := hs
  obtain ⟨A, c, rfl, hc, ha⟩ := hs
  clear ha
  have g1 : ¬ (800 : Int) < (l.length : Int) := by omega
  have g2 : ¬ (gone : Int) < 1 := by omega
  have g3 : ¬ (l.length : Int) + 4 < (gone : Int) := by omega
  go_enter Try.func7, Try.ntmps7
  go_wp2_with fail
  refine (close_any _ [l] _ (Sls.one w 23 _ _ hs') (by simp; omega) (by simp)).mono ?_
  rintro e w1 ⟨v1, rfl, ho1, hb1⟩
  obtain ⟨A1, n1, c1, rfl⟩ := ho1.shape
  rw [show [l].flatten = l by simp] at ho1
  have hsl := ho1.sl
  have hlen := closeB_length l
  obtain rfl : n1 = l.length + 4 := by rw [← hlen]; exact hsl.len
  obtain ⟨A', c2, e, hcc, ha⟩ := ho1.sl
  injection e with e1 e2 e3
  subst e1 e3
  obtain ⟨g, o, rfl, _⟩ := ha (by rw [hlen]; omega)
  rw [hlen] at hcc
  have hb2 : Below w.heap.size w w1 := ((Below.refl _ _).alloc (Nat.le_refl _) _).trans (hb1.mono (by simp))
  clear ho1 hb1 ha e2 hs'
  have hback := hsl.begin (l.length + 4 - gone) (by omega) c1 (by omega)
  have hfront := hsl.back gone (by omega) (c1 - gone) (by omega)
  have hfront0 : c1 = gone → Sl w1 (.slice (some ⟨g, o, none⟩) (l.length + 4 - gone) 0) ((closeB l).drop gone) := by
    intro h
    have h0 : l.length + 4 - gone = 0 := by omega
    rw [h0, List.drop_of_length_le (by omega)]
    exact Sl.nil _ _
  have lf : ((closeB l).drop gone).length ≤ 140737488355328 := by rw [List.length_drop]; omega
  have lb : ((closeB l).take (l.length + 4 - gone)).length ≤ 140737488355328 := by rw [List.length_take]; omega
  have HF0 := Lib.hid hfront0
  have LF := Lib.hid lf
  have LB := Lib.hid lb
  clear hfront0 lf lb hlen hsl
  generalize (closeB l).drop gone = F at hfront HF0 LF
  generalize (closeB l).take (l.length + 4 - gone) = B at hback LB
  have hcase : ∃ A2 c2, Hid ((if c1 = gone then (some ⟨g, o, none⟩ : Option Addr) else some ⟨g, o + gone, none⟩) = A2) ∧ Hid (c1 - gone = c2) ∧ Sl w1 (.slice A2 (l.length + 4 - gone) c2) F := by
    by_cases h : c1 = gone
    · exact ⟨_, 0, Lib.hid (if_pos h), Lib.hid (by omega), HF0.out h⟩
    · exact ⟨_, _, Lib.hid (if_neg h), Lib.hid rfl, hfront⟩
  obtain ⟨A2, c2, EA, EC, hF⟩ := hcase
  clear hfront HF0
  go_wp2
  go_quiet (fail)
  rw [EA.out, EC.out]
  clear EA EC
  all_goals
    have hfr : Sl (w1.drewN nq) _ F := hF.drewN nq
    have hbr := hback.drewN nq
    have hb3 := below_drewN hb2 nq
    generalize w1.drewN nq = w2 at hfr hbr hb3 ⊢
    go_wp2_with fail
    refine (open_any _ F _ hfr LF.out).mono ?_
    rintro e w3 ⟨v3, rfl, hb4⟩
    have hfr2 := hfr.below hb4
    have hbr2 := hbr.below hb4
    have hb5 := hb3.trans (hb4.mono hb3.size)
    clear hb4 hfr hbr hb3
    go_wp2_with fail
    refine (open_any _ B _ hbr2 LB.out).mono ?_
    rintro e w4 ⟨v4, rfl, hb6⟩
    have hfr3 := hfr2.below hb6
    have hbr3 := hbr2.below hb6
    have hb7 := hb5.trans (hb6.mono hb5.size)
    clear hb6 hfr2 hbr2 hb5
    go_wp2_with fail
    refine (refOpen_any _ F _ hfr3 LF.out).mono ?_
    rintro e w5 ⟨v5, rfl, hb8⟩
    have hbr4 := hbr3.below hb8
    have hb9 := hb7.trans (hb8.mono hb7.size)
    clear hb8 hfr3 hbr3 hb7
    go_wp2_with fail
    refine (refOpen_any _ B _ hbr4 LB.out).mono ?_
    rintro e w6 ⟨v6, rfl, hb10⟩
    have hb11 := hb9.trans (hb10.mono hb9.size)
    clear hb10 hbr4 hb9
    generalize opens F = x
    generalize opens B = y
    go_wp2_with (go_at_call 8; refine (known_any _).mono ?_; rintro e w7 ⟨rfl, hb12⟩)
    go_ret
    exact ⟨rfl, hb11.trans (hb12.mono hb11.size)⟩
end Go.Proofs.Ytbglghjmcjdmeaa

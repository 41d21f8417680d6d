/-
  The walk of minsterlaw02.FramesBack.
-/
import Derived.Test.YtbglghjmcjdmeaaCrcKnown
namespace Go.Proofs.Ytbglghjmcjdmeaa
open Go.RowKit
set_option linter.unusedVariables false

/-- Closed so many times. -/
def closeN : Nat → List UInt8 → List UInt8
  | 0, l => l
  | k + 1, l => closeB (closeN k l)
theorem closeN_length : ∀ (k : Nat) (l : List UInt8), (closeN k l).length = l.length + 4 * k
  | 0, l => rfl
  | k + 1, l => by rw [closeN, closeB_length, closeN_length k]; omega

set_option maxHeartbeats 1000000 in
theorem back_bad (v : Value) (l : List UInt8) (t : Int) (w : World) (hs : Sl w v l) (h : 800 < l.length ∨ t < 0 ∨ 6 < t) :
    Calls Try.prog 5 #[v, .int .i64 t] w fun e w' => e = .returned (.bool true) ∧ Below w.heap.size w w' := by
  obtain ⟨A, c, rfl, hc, ha⟩ := hs
  clear ha
  by_cases h1 : 800 < l.length
  · have h1' : (800 : Int) < (l.length : Int) := by omega
    go_enter Try.func5, Try.ntmps5
    go_wp2_with (go_at_call 8; refine (known_any _).mono ?_; rintro e w1 ⟨rfl, hb1⟩)
    go_ret
    exact ⟨rfl, hb1⟩
  · have h1' : ¬ (800 : Int) < (l.length : Int) := by omega
    by_cases h2 : t < 0
    · go_enter Try.func5, Try.ntmps5
      go_wp2_with (go_at_call 8; refine (known_any _).mono ?_; rintro e w1 ⟨rfl, hb1⟩)
      go_ret
      exact ⟨rfl, hb1⟩
    · have h3 : 6 < t := by omega
      go_enter Try.func5, Try.ntmps5
      go_wp2_with (go_at_call 8; refine (known_any _).mono ?_; rintro e w1 ⟨rfl, hb1⟩)
      go_ret
      exact ⟨rfl, hb1⟩

set_option maxHeartbeats 1000000 in
theorem back_good (v : Value) (l : List UInt8) (t : Nat) (w : World) (hs : Sl w v l) (hl : l.length ≤ 800) (ht : t ≤ 6) :
    Calls Try.prog 5 #[v, .int .i64 (t : Int)] w fun e w' => e = .returned (.bool true) ∧ Below w.heap.size w w' := by
  have hs' := hs
  obtain ⟨A, c, rfl, hc, ha⟩ := hs
  clear ha
  have h1 : ¬ (800 : Int) < (l.length : Int) := by omega
  have h2 : ¬ (t : Int) < 0 := by omega
  have h3 : ¬ (6 : Int) < (t : Int) := by omega
  obtain ⟨str, hstr⟩ : ∃ t : ByteArray, (⟨l.toArray⟩ : ByteArray) = t := ⟨_, rfl⟩
  have Hstr := Lib.hid hstr
  clear hstr
  go_enter Try.func5, Try.ntmps5
  go_wp2
  go_loopw [5, 6] (fun x z wr => ∃ k : Nat, k ≤ t ∧ z = .int .i64 (k : Int) ∧ Sl wr x (closeN k l) ∧ Below w.heap.size w wr) (fun _ z _ => t - (intOf z).toNat)
  case atStart => exact ⟨0, Nat.zero_le _, rfl, hs', Below.refl _ _⟩
  case round =>
    obtain ⟨k, hk, rfl, hx, hb⟩ := hrel
    have hx' := hx
    obtain ⟨A1, c1, rfl, hc1, _⟩ := hx
    have hlen := closeN_length k l
    by_cases hlt : k < t
    · have HL := Lib.hid hlen
      clear hlen
      go_wp2_with fail
      refine (close_any _ [closeN k l] _ (Sls.one wr _ _ _ hx') (by simp [HL.out]; omega) (by simp)).mono ?_
      rintro e w1 ⟨v1, rfl, ho1, hb1⟩
      have Ho := Lib.hid (show Sl w1 v1 (closeN (k + 1) l) by have := ho1.sl; simpa [closeN] using this)
      have hb2 : Below w.heap.size w w1 := (hb.alloc hb.size _).trans (hb1.mono (by simp; have := hb.size; omega))
      clear ho1 hb1
      go_wp2
      go_roundw
      case rel => exact ⟨k + 1, by omega, by go_num, Ho.out, hb2⟩
      case measure => simp [intOf]; omega
    · obtain rfl : k = t := by omega
      have HL := Lib.hid hlen
      rw [hlen] at hc1 ⊢
      clear hlen
      have Hx := Lib.hid (show Sl wr (.slice A1 (l.length + 4 * k) c1) (closeN k l) by rw [← HL.out]; exact hx')
      clear hx'
      go_wp2
      go_loopw [5, 7] (fun x z wr => ∃ j : Nat, j ≤ k ∧ z = .int .i64 (j : Int) ∧ Sl wr x (closeN (k - j) l) ∧ Below w.heap.size w wr) (fun _ z _ => k - (intOf z).toNat)
      case atStart => exact ⟨0, Nat.zero_le _, rfl, Hx.out, hb⟩
      case round =>
        clear Hx hb
        obtain ⟨j, hj, rfl, hx, hb⟩ := hrel
        have hx' := hx
        obtain ⟨A2, c2, rfl, hc2, _⟩ := hx
        by_cases hlj : j < k
        · obtain ⟨m, hm⟩ : ∃ m, k - j = m + 1 := ⟨k - j - 1, by omega⟩
          rw [hm] at hx' hc2 ⊢
          have HM := Lib.hid (show k - (j + 1) = m by omega)
          have hlen := Lib.hid (closeN_length (m + 1) l)
          have hm6 : m ≤ 6 := by omega
          clear hm
          have hop := open_yes _ (closeN (m + 1) l) wr hx' (by rw [hlen.out]; omega) (by rw [hlen.out]; omega) (crcN_close _)
          rw [show (closeN (m + 1) l).take ((closeN (m + 1) l).length - 4) = closeN m l from take_close _] at hop
          have Hop := Lib.hid hop
          clear hop
          go_wp2_with fail
          refine Hop.out.mono ?_
          rintro e w1 ⟨v1, rfl, ho1, hb1⟩
          have Ho := Lib.hid ho1.sl
          have hb2 := hb.trans (hb1.mono hb.size)
          clear ho1 hb1 Hop
          go_wp2
          go_roundw
          case rel => exact ⟨j + 1, by omega, by go_num, by rw [HM.out]; exact Ho.out, hb2⟩
          case measure => simp [intOf]; omega
        · obtain rfl : j = k := by omega
          rw [Nat.sub_self] at hx' hc2 ⊢
          have k1 : (convert 23 9 (.slice A2 l.length c2)).run Try.prog wr = .ok (.string str) wr := by rw [← Hstr.out]; exact conv_known hx'
          have k2 : (convert 23 9 (.slice A l.length c)).run Try.prog wr = .ok (.string str) wr := by rw [← Hstr.out]; exact conv_known (hs'.below hb)
          clear hx'
          rw [closeN] at hc2 ⊢
          go_wp2_with (go_at_call 8; refine (known_any _).mono ?_; rintro e w1 ⟨rfl, hb1⟩)
          go_ret
          exact ⟨rfl, hb.trans (hb1.mono hb.size)⟩
end Go.Proofs.Ytbglghjmcjdmeaa

/-
  The walk of minsterlaw01.WireHex.
-/
import Derived.Test.YteneicngmglgbaaUnhexR
import Derived.Test.YteneicngmglgbaaHexR
namespace Go.Proofs.Yteneicngmglgbaa
open Go.RowKit
set_option linter.unusedVariables false

theorem conv_mk2 {w : World} {v : Value} {l : List UInt8} {t : ByteArray} (h : Sl w v l) (e : (⟨l.toArray⟩ : ByteArray) = t) : (convert 23 9 v).run Try.prog w = .ok (.string t) w := by
  subst e; exact conv_any h

set_option maxHeartbeats 1000000 in
theorem hex_long (v : Value) (l : List UInt8) (s : ByteArray) (w : World) (hs : Sl w v l) (h : 9000 < l.length ∨ 9000 < s.size) :
    Calls Try.prog 5 #[v, .string s] w fun e w' => e = .returned (.bool true) ∧ Below w.heap.size w w' := by
  obtain ⟨A, c, rfl, hc, ha⟩ := hs
  clear ha
  by_cases h1 : 9000 < l.length
  · have h1' : (9000 : Int) < (l.length : Int) := by omega
    go_enter Try.func5, Try.ntmps5
    go_wp2_with (go_at_call 9; refine (known_any _).mono ?_; rintro e w2 ⟨rfl, hb2⟩)
    go_ret
    exact ⟨rfl, hb2⟩
  · have h1' : ¬ (9000 : Int) < (l.length : Int) := by omega
    have h2' : (9000 : Int) < (s.size : Int) := by omega
    go_enter Try.func5, Try.ntmps5
    go_wp2_with (go_at_call 9; refine (known_any _).mono ?_; rintro e w2 ⟨rfl, hb2⟩)
    go_ret
    exact ⟨rfl, hb2⟩

set_option maxHeartbeats 2000000 in
theorem hex_short (v : Value) (l : List UInt8) (s : ByteArray) (w : World) (hs : Sl w v l) (hl : l.length ≤ 9000) (hl2 : s.size ≤ 9000) :
    Calls Try.prog 5 #[v, .string s] w fun e w' => e = .returned (.bool true) ∧ Below w.heap.size w w' := by
  have hs' := hs
  obtain ⟨A, c, rfl, hc, ha⟩ := hs
  clear ha
  have h1 : ¬ (9000 : Int) < (l.length : Int) := by omega
  have h2 : ¬ (9000 : Int) < (s.size : Int) := by omega
  go_enter Try.func5, Try.ntmps5
  go_wp2_with fail
  refine (unhex_any s _ (by omega)).mono ?_
  rintro e w1 ⟨v1, n1, rfl, hb1, hor⟩
  have Hor := Lib.hid hor
  clear hor
  go_wp2_with fail
  refine (refUnhex_any s _ (by omega)).mono ?_
  rintro e w2 ⟨v2, b2, rfl, hb2, hor2⟩
  have Hor2 := Lib.hid hor2
  clear hor2
  have hb3 := hb1.trans (hb2.mono hb1.size)
  obtain ⟨str, hstr⟩ : ∃ t : ByteArray, (⟨(hexB l).toArray⟩ : ByteArray) = t := ⟨_, rfl⟩
  have Hstr := Lib.hid hstr
  go_wp2_with fail
  refine (hex_any _ l _ (hs'.below hb3) (by omega)).mono ?_
  rintro e w3 ⟨rfl, hb4⟩
  rw [hstr]
  have hb5 := hb3.trans (hb4.mono hb3.size)
  clear hstr
  go_wp2_with fail
  refine (refHex_any _ l _ (hs'.below hb5) (by omega)).mono ?_
  rintro e w4 ⟨rfl, hb6⟩
  rw [Hstr.out]
  have hb7 := hb5.trans (hb6.mono hb5.size)
  rcases Hor.out with ⟨m, hm, rfl, hs1⟩ | ⟨hm, rfl, rfl⟩
  · rcases Hor2.out with ⟨m2, hm2, rfl, hs2⟩ | ⟨hm2, _, _⟩
    · rw [hm] at hm2
      injection hm2 with hm2
      subst hm2
      obtain ⟨A1, n1, c1, rfl⟩ := hs1.shape
      obtain ⟨A2, n2, c2, rfl⟩ := hs2.shape
      obtain ⟨str2, hstr⟩ : ∃ t : ByteArray, (⟨m.toArray⟩ : ByteArray) = t := ⟨_, rfl⟩
      have k1 := conv_mk2 (((hs1.below hb2).below hb4).below hb6) hstr
      have k2 := conv_mk2 ((hs2.below hb4).below hb6) hstr
      clear hstr Hor Hor2 hs1 hs2 hm hb1 hb2 hb3 hb4 hb5 hb6 hs'
      go_wp2_with (first | (go_at_call 13; refine (num_any _ _).mono ?_; rintro e w' ⟨rfl, rfl⟩) | (go_at_call 9; refine (known_any _).mono ?_; rintro e w5 ⟨rfl, hb8⟩))
      go_ret
      exact ⟨rfl, hb7.trans (hb8.mono hb7.size)⟩
    · rw [hm] at hm2; cases hm2
  · rcases Hor2.out with ⟨m2, hm2, _, _⟩ | ⟨hm2, rfl, rfl⟩
    · rw [hm] at hm2; cases hm2
    · have k1 : (convert 23 9 (.slice none 0 0)).run Try.prog w4 = .ok (.string ⟨#[]⟩) w4 := conv_any (Sl.nil none 0)
      clear Hor Hor2 hm hm2 hb1 hb2 hb3 hb4 hb5 hb6 hs'
      go_wp2_with (first | (go_at_call 13; refine (num_any _ _).mono ?_; rintro e w' ⟨rfl, rfl⟩) | (go_at_call 9; refine (known_any _).mono ?_; rintro e w5 ⟨rfl, hb8⟩))
      go_ret
      exact ⟨rfl, hb7.trans (hb8.mono hb7.size)⟩
end Go.Proofs.Yteneicngmglgbaa

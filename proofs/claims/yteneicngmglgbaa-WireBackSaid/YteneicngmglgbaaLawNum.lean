/-
  The walk of minsterlaw01.WireNumbers.
-/
import Derived.Test.YteneicngmglgbaaKnown
import Derived.Deep.RegionWith
import Derived.Deep.DeepCutAuto
namespace Go.Proofs.Yteneicngmglgbaa
open Go.RowKit
set_option linter.unusedVariables false

theorem conv_mk {w : World} {v : Value} {l : List UInt8} {s : ByteArray} (h : Sl w v l) (e : (⟨l.toArray⟩ : ByteArray) = s) : (convert 23 9 v).run Try.prog w = .ok (.string s) w := by
  subst e; exact conv_any h

set_option maxHeartbeats 1000000 in
theorem wn_long (n : Nat) (s : Int) (A : Option Addr) (m c : Nat) (w : World) (hb : 9000 < m) :
    Calls Try.prog 3 #[.int .u64 (n : Int), .int .i64 s, .slice A m c] w fun e w' => e = .returned (.bool true) ∧ Below w.heap.size w w' := by
  have h1 : (9000 : Int) < (m : Int) := by omega
  go_enter Try.func3, Try.ntmps3
  go_wp2_with (go_at_call 9; refine (known_any _).mono ?_; rintro e w' ⟨rfl, hb'⟩)
  go_ret
  exact ⟨rfl, hb'⟩

set_option maxHeartbeats 1000000 in
theorem wn_room (n s : Nat) (v : Value) (l : List UInt8) (w : World) (hn : n < 18446744073709551616) (h1 : 1 ≤ s) (h8 : s ≤ 8) (hr : n < 256 ^ s) (hs : Sl w v l) (hb : l.length ≤ 9000) :
    Calls Try.prog 3 #[.int .u64 (n : Int), .int .i64 (s : Int), v] w fun e w' => e = .returned (.bool true) ∧ Below w.heap.size w w' := by
  have hs' := hs
  obtain ⟨A, c, rfl, hc, ha⟩ := hs
  clear ha
  have hl1 : ¬ (9000 : Int) < (l.length : Int) := by omega
  obtain ⟨str, hstr⟩ : ∃ t : ByteArray, (⟨(beB s n).toArray⟩ : ByteArray) = t := ⟨_, rfl⟩
  have Hstr := Lib.hid hstr
  clear hstr
  go_enter Try.func3, Try.ntmps3
  go_wp2_with fail
  refine (put_yes n s w h1 h8 hn hr).mono ?_
  rintro e w1 ⟨v1, rfl, ho1, hb1⟩
  obtain ⟨A1, n1, c1, rfl⟩ := ho1.shape
  have hs1 := ho1.sl
  clear ho1
  go_wp2_with fail
  refine (room_any n (s : Int) w1 true hn (by simp [roomB]; omega)).mono ?_
  rintro e w' ⟨rfl, rfl⟩
  go_upto_region 5 with (fail)
  go_cut [35] (fun x wc => x = .bool false ∧ Below w1.heap.size w1 wc)
  case first =>
    have k1 : (convert 23 9 (.slice A1 n1 c1)).run Try.prog w1.drew = .ok (.string str) w1.drew := conv_mk hs1.drew Hstr.out
    go_region_with (first | (go_at_call 12; refine (refPut_any n s _ h8 hn).mono ?_; rintro e w2 ⟨v2, rfl, ho2, hb2⟩; obtain ⟨A2, n2, c2, rfl⟩ := ho2.shape; have k2 : (convert 23 9 (.slice A2 n2 c2)).run Try.prog w2 = .ok (.string str) w2 := conv_mk ho2.sl Hstr.out; have k3 : (convert 23 9 (.slice A1 n1 c1)).run Try.prog w2 = .ok (.string str) w2 := conv_mk (hs1.drew.below hb2) Hstr.out) | (go_at_call 13; refine (num_any _ _).mono ?_; rintro e w' ⟨rfl, rfl⟩))
    all_goals (go_wp2_with fail; go_meet; exact ⟨rfl, (Below.refl _ _).drew.trans hb2⟩)
  case rest =>
    obtain ⟨rfl, hb2⟩ := hcut
    have hs2 := hs'.below (below_trans hb1 hb2)
    by_cases h18 : 1 ≤ l.length ∧ l.length ≤ 8
    · obtain ⟨g1, g8⟩ := h18
      have g1' : ¬ (l.length : Int) < 1 := by omega
      have g8' : ¬ (8 : Int) < (l.length : Int) := by omega
      go_wp2_with fail
      refine (get_yes _ l _ hs2 g1 g8).mono ?_
      rintro e w' ⟨rfl, rfl⟩
      go_wp2_with fail
      refine (refGet_any _ l _ hs2 g8).mono ?_
      rintro e w' ⟨rfl, rfl⟩
      go_wp2_with (first | (go_at_call 13; refine (num_any _ _).mono ?_; rintro e w' ⟨rfl, rfl⟩) | (go_at_call 9; refine (known_any _).mono ?_; rintro e w3 ⟨rfl, hb3⟩))
      go_ret
      exact ⟨rfl, below_trans (below_trans hb1 hb2) hb3⟩
    · have hno : l.length < 1 ∨ 8 < l.length := by omega
      have Hno := Lib.hid hno
      rcases hno with g1 | g8
      · have g1' : (l.length : Int) < 1 := by omega
        go_wp2_with fail
        refine (get_no _ l _ hs2 Hno.out).mono ?_
        rintro e w' ⟨rfl, rfl⟩
        go_wp2_with (first | (go_at_call 13; refine (num_any _ _).mono ?_; rintro e w' ⟨rfl, rfl⟩) | (go_at_call 9; refine (known_any _).mono ?_; rintro e w3 ⟨rfl, hb3⟩))
        go_ret
        exact ⟨rfl, below_trans (below_trans hb1 hb2) hb3⟩
      · have g8' : (8 : Int) < (l.length : Int) := by omega
        have g1' : ¬ (l.length : Int) < 1 := by omega
        go_wp2_with fail
        refine (get_no _ l _ hs2 Hno.out).mono ?_
        rintro e w' ⟨rfl, rfl⟩
        go_wp2_with (first | (go_at_call 13; refine (num_any _ _).mono ?_; rintro e w' ⟨rfl, rfl⟩) | (go_at_call 9; refine (known_any _).mono ?_; rintro e w3 ⟨rfl, hb3⟩))
        go_ret
        exact ⟨rfl, below_trans (below_trans hb1 hb2) hb3⟩

set_option maxHeartbeats 1000000 in
theorem wn_none (n : Nat) (s : Int) (v : Value) (l : List UInt8) (w : World) (hn : n < 18446744073709551616) (hr : ¬ (1 ≤ s ∧ s ≤ 8 ∧ n < 256 ^ s.toNat)) (hs : Sl w v l) (hb : l.length ≤ 9000) :
    Calls Try.prog 3 #[.int .u64 (n : Int), .int .i64 s, v] w fun e w' => e = .returned (.bool true) ∧ Below w.heap.size w w' := by
  have hs' := hs
  obtain ⟨A, c, rfl, hc, ha⟩ := hs
  clear ha
  have hl1 : ¬ (9000 : Int) < (l.length : Int) := by omega
  have hbad := Lib.hid (show s < 1 ∨ 8 < s ∨ ¬ n < 256 ^ s.toNat by omega)
  have hroom := Lib.hid (show false = roomB n s by unfold roomB; rw [decide_eq_false hr])
  clear hr
  go_enter Try.func3, Try.ntmps3
  go_wp2_with fail
  refine (put_no n s w hn hbad.out).mono ?_
  rintro e w' ⟨rfl, rfl⟩
  go_wp2_with fail
  refine (room_any n s _ false hn hroom.out).mono ?_
  rintro e w' ⟨rfl, rfl⟩
  go_wp2_with fail
  refine (num_any _ _).mono ?_
  rintro e w' ⟨rfl, rfl⟩
  have hs2 := hs'
  by_cases h18 : 1 ≤ l.length ∧ l.length ≤ 8
  · obtain ⟨g1, g8⟩ := h18
    have g1' : ¬ (l.length : Int) < 1 := by omega
    have g8' : ¬ (8 : Int) < (l.length : Int) := by omega
    go_wp2_with fail
    refine (get_yes _ l _ hs2 g1 g8).mono ?_
    rintro e w' ⟨rfl, rfl⟩
    go_wp2_with fail
    refine (refGet_any _ l _ hs2 g8).mono ?_
    rintro e w' ⟨rfl, rfl⟩
    go_wp2_with (first | (go_at_call 13; refine (num_any _ _).mono ?_; rintro e w' ⟨rfl, rfl⟩) | (go_at_call 9; refine (known_any _).mono ?_; rintro e w3 ⟨rfl, hb3⟩))
    go_ret
    exact ⟨rfl, hb3⟩
  · have hno : l.length < 1 ∨ 8 < l.length := by omega
    have Hno := Lib.hid hno
    rcases hno with g1 | g8
    · have g1' : (l.length : Int) < 1 := by omega
      go_wp2_with fail
      refine (get_no _ l _ hs2 Hno.out).mono ?_
      rintro e w' ⟨rfl, rfl⟩
      go_wp2_with (first | (go_at_call 13; refine (num_any _ _).mono ?_; rintro e w' ⟨rfl, rfl⟩) | (go_at_call 9; refine (known_any _).mono ?_; rintro e w3 ⟨rfl, hb3⟩))
      go_ret
      exact ⟨rfl, hb3⟩
    · have g8' : (8 : Int) < (l.length : Int) := by omega
      have g1' : ¬ (l.length : Int) < 1 := by omega
      go_wp2_with fail
      refine (get_no _ l _ hs2 Hno.out).mono ?_
      rintro e w' ⟨rfl, rfl⟩
      go_wp2_with (first | (go_at_call 13; refine (num_any _ _).mono ?_; rintro e w' ⟨rfl, rfl⟩) | (go_at_call 9; refine (known_any _).mono ?_; rintro e w3 ⟨rfl, hb3⟩))
      go_ret
      exact ⟨rfl, hb3⟩
end Go.Proofs.Yteneicngmglgbaa

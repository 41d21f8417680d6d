/-
  The walks of the document's Close and Open.
-/
import Derived.Test.YtbglghjmcjdmeaaCrcRefSum
import Derived.Test.YtbglghjmcjdmeaaCrcClose
import Derived.Deep.RegionHeld
import Derived.Deep.DeepCutAuto
namespace Go.Proofs.Ytbglghjmcjdmeaa
open Go.RowKit
set_option linter.unusedVariables false

/-- A string made of a slice of bytes, in the seat's program. -/
theorem conv_any {w : World} {v : Value} {l : List UInt8} (h : Sl w v l) : (convert 23 9 v).run Try.prog w = .ok (.string ⟨l.toArray⟩) w :=
  h.conv Try.underlying23 Try.underlying5 Try.underlying9
theorem conv_mk {w : World} {v : Value} {l : List UInt8} {t : ByteArray} (h : Sl w v l) (e : (⟨l.toArray⟩ : ByteArray) = t) : (convert 23 9 v).run Try.prog w = .ok (.string t) w := by
  rw [← e]; exact conv_any h

set_option maxHeartbeats 1000000 in
theorem refClose_any (v : Value) (l : List UInt8) (w : World) (hs : Sl w v l) (hl : l.length + 4 ≤ 140737488355328) :
    Calls Try.prog 12 #[v] w fun e w' => ∃ v', e = .returned v' ∧ Own w' w.heap.size 5 v' (closeB l) ∧ Below w.heap.size w w' := by
  obtain ⟨i0, hi, hz0, hz1, hz2⟩ := info_parts info_u8
  have hs' := hs
  obtain ⟨A, c, rfl, hc, ha⟩ := hs
  clear ha
  go_enter Try.func12, Try.ntmps12
  go_wp2_with fail
  refine (refSum_any _ l _ hs' (by omega)).mono ?_
  rintro e w1 ⟨rfl, hb1⟩
  have hs1 := hs'.below hb1
  have hsz := hb1.size
  have Hl := Lib.hid (show ([] : List UInt8).length + l.length ≤ 140737488355328 by simp; omega)
  go_wp2_with (at_builtin; refine wpList_append_big _ rfl _ _ 23 rfl w.heap.size 5 i0 Try.underlying23 hi hz0 hz1 hz2 _ [] rfl Own.nil _ l rfl hs1 Hl.out hsz ?_)
  intro v2 w2 ho2 hb2
  have Ho2 := Lib.hid ho2
  have hb3 := hb1.trans hb2
  have hN := crcN_lt l
  clear ho2 hs1 hs' hb1 hb2 hsz Hl
  obtain ⟨N, E, hN, eN⟩ : ∃ N, Hid (closeB l = l ++ le4 N) ∧ N < 4294967296 ∧ crcN l = N := ⟨crcN l, Lib.hid rfl, hN, rfl⟩
  rw [eN]
  clear eN
  go_wp2
  go_loopw [4, 3, 5] (fun x y z wr => ∃ k : Nat, k ≤ 4 ∧ z = .int .i64 (k : Int) ∧ y = .int .u32 ((N / 256 ^ k : Nat) : Int) ∧ Own wr w.heap.size 5 x (l ++ (le4 N).take k) ∧ Below w.heap.size w wr) (fun _ _ z _ => 4 - (intOf z).toNat)
  case atStart => exact ⟨0, Nat.zero_le _, rfl, by simp, by simpa using Ho2.out, hb3⟩
  case round =>
    clear Ho2 hb3
    obtain ⟨k, hk, rfl, rfl, ho, hb⟩ := hrel
    by_cases hlt : k < 4
    · have hbw := hb.size
      have Hlen := Lib.hid (show (l ++ (le4 N).take k).length + [UInt8.ofNat (N / 256 ^ k % 256)].length ≤ 140737488355328 by simp [le4_length]; omega)
      have D := Lib.hid (div_succ N k)
      have T := Lib.hid (le4_take_succ N k hlt)
      have hM : N / 256 ^ k < 4294967296 := Nat.lt_of_le_of_lt (Nat.div_le_self _ _) hN
      have hsl : ∀ (W : World), Sl (W.alloc (.cells #[.int .u8 (((N / 256 ^ k : Nat) : Int) % 256)] 5)) (.slice (some ⟨W.heap.size, 0, none⟩) 1 1) [UInt8.ofNat (N / 256 ^ k % 256)] :=
        fun W => Sl.one W _ _ _ (by rw [u8_toNat]; omega)
      have Hsl := Lib.hid hsl
      clear hsl
      generalize N / 256 ^ k = M at hM Hlen D T Hsl ⊢
      go_wp2_with (at_builtin; refine wpList_append_big _ rfl _ _ 23 rfl w.heap.size 5 i0 Try.underlying23 hi hz0 hz1 hz2 _ (l ++ (le4 N).take k) rfl (ho.alloc _) _ _ rfl (Hsl.out _) Hlen.out (by simp; omega) ?_)
      intro v' w2 ho2 hb2
      have Ho := Lib.hid ho2
      clear ho2
      go_wp2
      go_roundw
      case rel =>
        refine ⟨k + 1, by omega, by go_num, ?_, ?_, (hb.alloc hbw _).trans hb2⟩
        · rw [← D.out]; go_num
        · rw [T.out]; exact Ho.out
      case measure => simp [intOf]; omega
    · obtain rfl : k = 4 := by omega
      go_wp2
      go_ret
      rw [List.take_of_length_le (by simp [le4_length]), ← E.out] at ho
      exact ⟨_, rfl, ho, hb⟩

set_option maxHeartbeats 1000000 in
/-- The document's Open, of too few bytes. -/
theorem refOpen_few (v : Value) (l : List UInt8) (w : World) (hs : Sl w v l) (h4 : l.length < 4) :
    Calls Try.prog 15 #[v] w fun e w' => e = .returned (.tuple #[.slice none 0 0, .bool false]) ∧ Below w.heap.size w w' := by
  obtain ⟨A, c, rfl, hc, ha⟩ := hs
  clear ha
  have hd : decide ((l.length : Int) - 4 < 0) = true := by simp; omega
  go_enter Try.func15, Try.ntmps15
  go_wp2_with fail
  go_quiet (fail)
  go_wp2
  go_ret2
  exact ⟨rfl, below_drewN (Below.refl _ _) _⟩
set_option maxHeartbeats 1000000 in
/-- The document's Open, of bytes that are closed. -/
theorem refOpen_yes (v : Value) (l : List UInt8) (w : World) (hs : Sl w v l) (hl : l.length ≤ 140737488355328) (h4 : 4 ≤ l.length) (hc : crcN l = resN) :
    Calls Try.prog 15 #[v] w fun e w' => ∃ v', e = .returned (.tuple #[v', .bool true]) ∧ Sl w' v' (l.take (l.length - 4)) ∧ Below w.heap.size w w' := by
  have hs' := hs
  obtain ⟨A, c, rfl, hcc, ha⟩ := hs
  clear ha
  have HC := Lib.hid ((opens_iff l h4).1 hc)
  clear hc
  have hd : decide ((l.length : Int) - 4 < 0) = false := by simp; omega
  have hb4 := hs'.begin (l.length - 4) (by omega) c (by omega)
  obtain ⟨str, hstr⟩ : ∃ t : ByteArray, (⟨l.toArray⟩ : ByteArray) = t := ⟨_, rfl⟩
  have Hstr := Lib.hid hstr
  clear hstr
  go_enter Try.func15, Try.ntmps15
  go_upto_region 2 with (fail)
  go_cut [19] (fun x wc => x = .bool false ∧ Below w.heap.size w wc)
  case first =>
    go_region_held (fun w' => (convert 23 9 (.slice A l.length c)).run Try.prog w' = .ok (.string str) w')
      (first | exact conv_mk (hs'.drew.below hb2) Hstr.out | exact conv_mk hs'.drew Hstr.out)
      (first | (go_at_call 12; refine (refClose_any _ (l.take (l.length - 4)) _ hb4.drew (by simp; omega)).mono ?_; rintro e w2 ⟨v2', rfl, ho2, hb2⟩; obtain ⟨A2, n2, c2, rfl⟩ := ho2.shape; rw [HC.out] at ho2; have k2 : (convert 23 9 (.slice A2 n2 c2)).run Try.prog w2 = .ok (.string str) w2 := conv_mk ho2.sl Hstr.out))
    all_goals (go_wp2_with fail; go_meet; exact ⟨rfl, (Below.refl _ _).drew.trans hb2⟩)
  case rest =>
    obtain ⟨rfl, hb2⟩ := hcut
    go_wp2
    go_ret2
    exact ⟨_, rfl, hb4.below hb2, hb2⟩

theorem bytes_ne {a b : List UInt8} (h : a ≠ b) : ((⟨a.toArray⟩ : ByteArray).toList == (⟨b.toArray⟩ : ByteArray).toList) = false := by
  rw [ByteArray.toList_eq, ByteArray.toList_eq, beq_eq_false_iff_ne]
  simpa using h

set_option maxHeartbeats 1000000 in
/-- The document's Open, of bytes that are not closed. -/
theorem refOpen_no (v : Value) (l : List UInt8) (w : World) (hs : Sl w v l) (hl : l.length ≤ 140737488355328) (h4 : 4 ≤ l.length) (hc : crcN l ≠ resN) :
    Calls Try.prog 15 #[v] w fun e w' => e = .returned (.tuple #[.slice none 0 0, .bool false]) ∧ Below w.heap.size w w' := by
  have hs' := hs
  obtain ⟨A, c, rfl, hcc, ha⟩ := hs
  clear ha
  have hC := bytes_ne (fun h => hc ((opens_iff l h4).2 h))
  clear hc
  have hd : decide ((l.length : Int) - 4 < 0) = false := by simp; omega
  have hb4 := hs'.begin (l.length - 4) (by omega) c (by omega)
  obtain ⟨str, hstr⟩ : ∃ t : ByteArray, (⟨l.toArray⟩ : ByteArray) = t := ⟨_, rfl⟩
  obtain ⟨str1, hstr1⟩ : ∃ t : ByteArray, (⟨(closeB (l.take (l.length - 4))).toArray⟩ : ByteArray) = t := ⟨_, rfl⟩
  rw [hstr, hstr1] at hC
  have Hstr := Lib.hid hstr
  have Hstr1 := Lib.hid hstr1
  clear hstr hstr1
  go_enter Try.func15, Try.ntmps15
  go_upto_region 2 with (fail)
  go_cut [19] (fun x wc => x = .bool true ∧ Below w.heap.size w wc)
  case first =>
    go_region_held (fun w' => (convert 23 9 (.slice A l.length c)).run Try.prog w' = .ok (.string str) w')
      (first | exact conv_mk (hs'.drew.below hb2) Hstr.out | exact conv_mk hs'.drew Hstr.out)
      (first | (go_at_call 12; refine (refClose_any _ (l.take (l.length - 4)) _ hb4.drew (by simp; omega)).mono ?_; rintro e w2 ⟨v2', rfl, ho2, hb2⟩; obtain ⟨A2, n2, c2, rfl⟩ := ho2.shape; have k2 : (convert 23 9 (.slice A2 n2 c2)).run Try.prog w2 = .ok (.string str1) w2 := conv_mk ho2.sl Hstr1.out))
    all_goals (go_wp2_with fail; go_meet; exact ⟨rfl, (Below.refl _ _).drew.trans hb2⟩)
  case rest =>
    obtain ⟨rfl, hb2⟩ := hcut
    go_wp2
    go_ret2
    exact ⟨rfl, hb2⟩
end Go.Proofs.Ytbglghjmcjdmeaa

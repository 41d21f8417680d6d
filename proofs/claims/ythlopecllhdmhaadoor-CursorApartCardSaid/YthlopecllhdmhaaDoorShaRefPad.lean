/-
  The walk of the document's pad.
-/
import Derived.Test.YthlopecllhdmhaaDoorShaU32
namespace Go.Proofs.YthlopecllhdmhaaDoor
open Go.RowKit
set_option linter.unusedVariables false
set_option linter.unusedSimpArgs false

theorem padz_not (n k : Nat) (h : k < zerosN n) : (n + 1 + k) % 64 ≠ 56 := by unfold zerosN at h; omega
theorem padz_at (n : Nat) : (n + 1 + zerosN n) % 64 = 56 := by unfold zerosN; omega
theorem padN_parts (m : List UInt8) : padK m (zerosN m.length) ++ beB 8 (8 * m.length) = padN m := rfl

set_option maxHeartbeats 800000 in
theorem refPad_any (v : Value) (m : List UInt8) (w : World) (hs : Sl w v m) (hl : m.length ≤ 1000000) :
    Calls Tryd.prog 45 #[v] w fun e w' => ∃ v', e = .returned v' ∧ Own w' w.heap.size 5 v' (padN m) ∧ Below w.heap.size w w' := by
  obtain ⟨i0, hi, hz0, hz1, hz2⟩ := info_parts info_u8
  obtain ⟨A, n, c, rfl⟩ := hs.shape
  have hn := hs.len
  subst hn
  have EP := Lib.hid (padN_parts m)
  have hle0 : ([] : List UInt8).length + m.length ≤ 1000000000 := by simp; omega
  have hle1 : ([] ++ m).length + [(128 : UInt8)].length ≤ 1000000000 := by simp; omega
  go_enter Tryd.func45, Tryd.ntmps45
  go_wp2_with (at_builtin; refine wpList_append_bytes _ rfl _ _ 22 rfl w.heap.size 5 i0 Tryd.underlying22 hi hz0 hz1 hz2 _ [] rfl Own.nil _ m rfl hs hle0 (Nat.le_refl _) ?_)
  intro v1 w1 ho1 hb1
  have hsz1 := hb1.size
  have Ho1 := Lib.hid ho1
  obtain ⟨A1, n1, c1, rfl⟩ := ho1.shape
  clear ho1
  have hsz1' : w.heap.size ≤ (w1.alloc (.cells #[.int .u8 128] 5)).heap.size := by simp; omega
  go_wp2_with (at_builtin; refine wpList_append_bytes _ rfl _ _ 22 rfl w.heap.size 5 i0 Tryd.underlying22 hi hz0 hz1 hz2 _ ([] ++ m) rfl (Ho1.out.alloc _) _ [128] rfl (Sl.one w1 5 _ _ rfl) hle1 hsz1' ?_)
  intro v2 w2 ho2 hb2
  have hb02 : Below w.heap.size w w2 := (hb1.alloc hsz1 _).trans hb2
  have Ho2 := Lib.hid (show Own w2 w.heap.size 5 v2 (padK m 0) by simpa [padK] using ho2)
  clear Ho1 ho2 hb1 hb2
  go_wp2
  go_loopw [3] (fun x wr => ∃ k : Nat, k ≤ zerosN m.length ∧ Own wr w.heap.size 5 x (padK m k) ∧ Below w.heap.size w wr) (fun x _ => m.length + 1 + zerosN m.length - lenOf x)
  case atStart => exact ⟨0, Nat.zero_le _, Ho2.out, hb02⟩
  case round =>
    clear Ho2 hb02
    obtain ⟨k, hk, ho, hb⟩ := hrel
    obtain ⟨A3, n3, c3, rfl⟩ := ho.shape
    have hn3 := ho.sl.len
    rw [padK_length] at hn3
    subst hn3
    have hz64 := zerosN_lt m.length
    have hbw : w.heap.size ≤ wr.heap.size := hb.size
    by_cases hlt : k < zerosN m.length
    · have ht := padz_not m.length k hlt
      have hne : (((m.length + 1 + k : Nat) : Int) % 64) ≠ 56 := by omega
      have hlen : (padK m k).length + [(0 : UInt8)].length ≤ 1000000000 := by rw [padK_length]; simp; omega
      have hbw' : w.heap.size ≤ (wr.alloc (.cells #[.int .u8 0] 5)).heap.size := by simp; omega
      go_wp2_with (at_builtin; refine wpList_append_bytes _ rfl _ _ 22 rfl w.heap.size 5 i0 Tryd.underlying22 hi hz0 hz1 hz2 _ (padK m k) rfl (ho.alloc _) _ [0] rfl (Sl.one wr 5 _ _ rfl) hlen hbw' ?_)
      intro v' w3 ho3 hb3
      have Ho := Lib.hid (show Own w3 w.heap.size 5 v' (padK m (k + 1)) by rw [padK_succ]; exact ho3)
      have HL := Lib.hid Ho.out.lenOf
      clear ho3 ht hne
      go_wp2
      go_roundw
      case rel => exact ⟨k + 1, by omega, Ho.out, (hb.alloc hbw _).trans hb3⟩
      case measure => have := HL.out; rw [padK_length] at this; simp only [lenOf] at *; simp at *; omega
    · obtain rfl : k = zerosN m.length := by omega
      have ht := padz_at m.length
      have heq : (((m.length + 1 + zerosN m.length : Nat) : Int) % 64) = 56 := by omega
      have Ho := Lib.hid ho
      have hB8 : 8 * m.length < 18446744073709551616 := by omega
      have hw8 : IntKind.u64.wrap ((m.length : Int) * 8) = ((8 * m.length : Nat) : Int) := by rw [IntKind.wrap_u64]; omega
      have hlen : (padK m (zerosN m.length)).length + (beB 8 (8 * m.length)).length ≤ 1000000000 := by rw [padK_length, beB_length]; omega
      clear ho ht
      go_wp2_with fail
      rw [show (8 * (m.length : Int)) = ((8 * m.length : Nat) : Int) by omega]
      refine (refPut_any (8 * m.length) 8 wr (by decide) hB8).mono ?_
      rintro e w4 ⟨v4, rfl, ho4, hb4⟩
      have hoX := Ho.out.below hb4 (Nat.le_refl _)
      have hbX := hb.trans (hb4.mono hbw)
      obtain ⟨A4, n4, c4, rfl⟩ := ho4.shape
      have hs4 := ho4.sl
      clear ho4 hb4
      go_wp2_with (at_builtin; refine wpList_append_bytes _ rfl _ _ 22 rfl w.heap.size 5 i0 Tryd.underlying22 hi hz0 hz1 hz2 _ (padK m (zerosN m.length)) rfl hoX _ (beB 8 (8 * m.length)) rfl hs4 hlen hbX.size ?_)
      intro v' w5 ho5 hb5
      have Ho5 := Lib.hid ho5
      clear ho5
      go_wp2
      go_ret
      exact ⟨_, rfl, by rw [← EP.out]; exact Ho5.out, hbX.trans hb5⟩
end Go.Proofs.YthlopecllhdmhaaDoor

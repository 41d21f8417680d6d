/-
  wal.Record: a record's bytes.
-/
import Derived.Test.YtibifnknkphanaaGreatDoorPutA
import Derived.Test.YtibifnknkphanaaGreatDoorJoin
import Derived.Test.YtibifnknkphanaaGreatDoorCrcSum
import Derived.Test.YtibifnknkphanaaGreatDoorDskBase
namespace Go.Proofs.YtibifnknkphanaaGreatDoor
open Go.RowKit Go.Maps
open DskM
set_option linter.unusedVariables false
set_option linter.unusedSimpArgs false
set_option maxRecDepth 20000
attribute [local go_sem] Oper.semAt_some

/-- A record's bytes. -/
def recP (l : List UInt8) : List UInt8 := beB 4 l.length ++ (beB 4 (crcN (beB 4 l.length ++ l)) ++ l)
theorem recP_length (l : List UInt8) : (recP l).length = l.length + 8 := by
  unfold recP
  rw [List.length_append, List.length_append, beB_length, beB_length]; omega
theorem record_long (v : Value) (l : List UInt8) (w : World) (hs : Sl w v l) (hl : 1048576 < l.length) :
    Calls Tryz.prog 9 #[v] w fun e w' => e = .returned (.tuple #[.slice none 0 0, .int .i64 3]) ∧ w' = w := by
  have hlt : (1048576 : Int) < (l.length : Int) := by omega
  obtain ⟨A, c, rfl, _, _⟩ := hs
  go_enter Tryz.func9, Tryz.ntmps9
  go_wp2
  go_ret2
  exact ⟨rfl, rfl⟩
set_option maxHeartbeats 1000000 in
theorem record_any (v : Value) (l : List UInt8) (w : World) (hs : Sl w v l) (hl : l.length ≤ 1048576) :
    Calls Tryz.prog 9 #[v] w fun e w' => ∃ v', e = .returned (.tuple #[v', .int .i64 0]) ∧ Own w' w.heap.size 5 v' (recP l) ∧ Below w.heap.size w w' := by
  have hlt : ¬ (1048576 : Int) < (l.length : Int) := by omega
  have hcr : crcN (beB 4 l.length ++ l) < 4294967296 := by unfold crcN; omega
  have HS := Lib.hid hs
  have hu : (l.length : Int) % 18446744073709551616 = (l.length : Int) := by omega
  obtain ⟨A, c, rfl, _, _⟩ := hs
  go_enter Tryz.func9, Tryz.ntmps9
  go_wp2_with fail
  refine (put_yes l.length 4 w (by omega) (by omega) (by omega) (by omega)).mono ?_
  rintro e w1 ⟨v1, rfl, ho1, hb1⟩
  have HO1 := Lib.hid ho1
  have HB1 := Lib.hid hb1
  obtain ⟨A1, n1, c1, rfl⟩ := ho1.shape
  clear ho1 hb1 hu
  have hsl1 := HO1.out.sl
  obtain rfl := hsl1.len
  have hS2 : Sls (w1.alloc (.cells #[.slice A1 (beB 4 l.length).length c1, .slice A l.length c] 22)) (.slice (some ⟨w1.heap.size, 0, none⟩) 2 2) [beB 4 l.length, l] :=
    Sls.of_new w1 _ _ _ 2 rfl ⟨hsl1, HS.out.below HB1.out, trivial⟩
  have hb2 : Below w1.heap.size w1 (w1.alloc (.cells #[.slice A1 (beB 4 l.length).length c1, .slice A l.length c] 22)) := (Below.refl _ _).alloc (Nat.le_refl _) _
  have HS2 := Lib.hid hS2
  have HB2 := Lib.hid (HB1.out.trans (hb2.mono HB1.out.size))
  clear hsl1 hS2 hb2 hlt
  have hfl : [beB 4 l.length, l].flatten = beB 4 l.length ++ l := by simp
  have HSUM := Lib.hid (sum_any _ _ _ HS2.out (by rw [hfl, List.length_append, beB_length]; omega) (by simp))
  clear HS2
  rw [hfl] at HSUM
  clear hfl
  have HR := Lib.hid (show recP l = beB 4 l.length ++ (beB 4 (crcN (beB 4 l.length ++ l)) ++ l) from rfl)
  generalize crcN (beB 4 l.length ++ l) = cr at hcr HSUM HR
  go_wp2_with fail
  refine HSUM.out.mono ?_
  rintro e w3 ⟨rfl, hb3⟩
  have HB3 := Lib.hid (HB2.out.trans (hb3.mono HB2.out.size))
  have HB13 := Lib.hid (show Below w1.heap.size w1 w3 from ((Below.refl _ _).alloc (Nat.le_refl _) _).trans (hb3.mono (by simp)))
  clear hb3 HSUM
  have hu : (cr : Int) % 18446744073709551616 = (cr : Int) := by omega
  go_wp2_with fail
  refine (put_yes cr 4 w3 (by omega) (by omega) (by omega) (by omega)).mono ?_
  rintro e w4 ⟨v2, rfl, ho2, hb4⟩
  have HO2 := Lib.hid ho2
  have HB4 := Lib.hid (HB3.out.trans (hb4.mono HB3.out.size))
  have hsl1 := (HO1.out.sl.below HB13.out).below hb4
  have hsl2 := HO2.out.sl
  obtain ⟨A2, n2, c2, rfl⟩ := ho2.shape
  obtain rfl := hsl2.len
  have hS4 : Sls (w4.alloc (.cells #[.slice A1 (beB 4 l.length).length c1, .slice A2 (beB 4 cr).length c2, .slice A l.length c] 22)) (.slice (some ⟨w4.heap.size, 0, none⟩) 3 3) [beB 4 l.length, beB 4 cr, l] :=
    Sls.of_new w4 _ _ _ 3 rfl ⟨hsl1, hsl2, HS.out.below HB4.out, trivial⟩
  have hb5 : Below w4.heap.size w4 (w4.alloc (.cells #[.slice A1 (beB 4 l.length).length c1, .slice A2 (beB 4 cr).length c2, .slice A l.length c] 22)) := (Below.refl _ _).alloc (Nat.le_refl _) _
  have HS4 := Lib.hid hS4
  have HB5 := Lib.hid (HB4.out.trans (hb5.mono HB4.out.size))
  clear hsl1 hsl2 hS4 hb5 ho2 hb4 hu
  have hfl : [beB 4 l.length, beB 4 cr, l].flatten = recP l := by rw [HR.out]; simp
  have HJ := Lib.hid (join_big _ _ _ HS4.out (by rw [hfl, recP_length]; omega) (by simp))
  clear HS4
  rw [hfl] at HJ
  clear hfl HR
  go_wp2_with fail
  refine HJ.out.mono ?_
  rintro e w5 ⟨v', rfl, ho5, hb5⟩
  have HO5 := Lib.hid (ho5.mono HB5.out.size)
  have HB6 := Lib.hid (HB5.out.trans (hb5.mono HB5.out.size))
  clear ho5 hb5 HJ
  go_wp2
  go_ret2
  exact ⟨_, rfl, HO5.out, HB6.out⟩
end Go.Proofs.YtibifnknkphanaaGreatDoor

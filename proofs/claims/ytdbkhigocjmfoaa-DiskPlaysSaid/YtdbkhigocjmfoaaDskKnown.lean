/-
  The law's known: the chapter's rows.
-/
import Derived.Test.YtdbkhigocjmfoaaDskMy
import Derived.Lib.SlBytesConst
import Derived.Deep.OwnRows
namespace Go.Proofs.Ytdbkhigocjmfoaa
open Go.RowKit Go.Maps Go.Shelf
open DskM
set_option linter.unusedVariables false
set_option linter.unusedSimpArgs false
set_option maxRecDepth 100000

theorem k1 : appendS ⟨9, -1, false, 0⟩ [] [97] [120, 121, 122] = ((0, ⟨9, -1, false, 1⟩, [([97], [120, 121, 122], 0)]) : Int × Ds × List Fp) := by kernel_rfl
theorem k2 : syncS ⟨9, -1, false, 1⟩ [([97], [120, 121, 122], 0)] [97] = ((0, ⟨9, -1, false, 2⟩, [([97], [120, 121, 122], 3)]) : Int × Ds × List Fp) := by kernel_rfl
theorem k3 : appendS ⟨9, -1, false, 2⟩ [([97], [120, 121, 122], 3)] [97] [117, 118] = ((0, ⟨9, -1, false, 3⟩, [([97], [120, 121, 122, 117, 118], 3)]) : Int × Ds × List Fp) := by kernel_rfl
theorem k5 : renameS ⟨9, 1, false, 3⟩ [([97], [120, 121, 122, 117, 118], 3)] [97] [98] = ((0, ⟨9, 0, false, 4⟩, [([98], [120, 121, 122, 117, 118], 3)]) : Int × Ds × List Fp) := by kernel_rfl
theorem k6 : appendS ⟨9, 0, false, 4⟩ [([98], [120, 121, 122, 117, 118], 3)] [98] [119] = ((8, ⟨9, 0, true, 5⟩, [([98], [120, 121, 122, 117, 118, 119], 3)]) : Int × Ds × List Fp) := by kernel_rfl
theorem k7 : cutS ⟨9, 0, true, 5⟩ [([98], [120, 121, 122, 117, 118, 119], 3)] [98] 0 = ((8, ⟨9, 0, true, 5⟩, [([98], [120, 121, 122, 117, 118, 119], 3)]) : Int × Ds × List Fp) := by kernel_rfl
theorem k8 : appendS ⟨9, 0, true, 5⟩ [([98], [120, 121, 122, 117, 118, 119], 3)] [66] [120] = ((2, ⟨9, 0, true, 5⟩, [([98], [120, 121, 122, 117, 118, 119], 3)]) : Int × Ds × List Fp) := by kernel_rfl
theorem k4 : crashP [1] [([97], [120, 121, 122, 117, 118], 3)] = [([97], [120, 121, 122, 117], 4)] := by kernel_rfl
theorem k9 (b : List UInt8) (hb : b.length = 99) : appendS ⟨9, 0, true, 5⟩ [([98], [120, 121, 122, 117, 118, 119], 3)] [98] b = (5, ⟨9, 0, true, 5⟩, [([98], [120, 121, 122, 117, 118, 119], 3)]) := by
  have h1 : mayB [98] = true := by kernel_rfl
  have h2 : totalP [([98], [120, 121, 122, 117, 118, 119], 3)] = 6 := by kernel_rfl
  unfold appendS
  rw [if_pos h1, if_pos (.inl (by rw [h2, hb]; decide))]
theorem k10 : fuseS ⟨9, -1, false, 3⟩ 1 = ⟨9, 1, false, 3⟩ := by kernel_rfl
theorem r1 : readE [([97], [120, 121, 122, 117], 4)] [97] = 0 ∧ bytesP [([97], [120, 121, 122, 117], 4)] [97] = [120, 121, 122, 117] := ⟨by kernel_rfl, by kernel_rfl⟩
theorem r2 : readE [([98], [120, 121, 122, 117, 118, 119], 3)] [98] = 0 ∧ bytesP [([98], [120, 121, 122, 117, 118, 119], 3)] [98] = [120, 121, 122, 117, 118, 119] := ⟨by kernel_rfl, by kernel_rfl⟩
theorem r3 : readE [([98], [120, 121, 122, 117, 118, 119], 3)] [99] = 6 ∧ bytesP [([98], [120, 121, 122, 117, 118, 119], 3)] [99] = [] := ⟨by kernel_rfl, by kernel_rfl⟩
theorem r4 : readE [([97], [120, 121, 122, 117, 118], 3)] [97] = 0 ∧ lastsP [([97], [120, 121, 122, 117, 118], 3)] [97] = 3 := ⟨by kernel_rfl, by kernel_rfl⟩

theorem conv_known {w : World} {v : Value} {l : List UInt8} (h : Sl w v l) : (convert 38 9 v).run Try.prog w = .ok (.string ⟨l.toArray⟩) w :=
  h.conv Try.underlying38 Try.underlying5 Try.underlying9
/-- A new row of bytes, whatever its mark, as a slice. -/
theorem Sl.of_mark (w : World) (e : TypeId) (C : Array Value) (fr : Nat × Nat) (l : List UInt8) (n c : Nat) (hn : n = l.length) (hc : n ≤ c) (hC : C.toList = l.map bv) :
    Sl (w.alloc (.cells C e fr)) (.slice (some ⟨w.heap.size, 0, none⟩) n c) l := by
  subst hn
  refine ⟨_, c, rfl, hc, fun _ => ⟨w.heap.size, 0, rfl, fun j hj => ?_⟩⟩
  rw [World.cell?_alloc_mark, Nat.zero_add, ← Array.getElem?_toList, hC]
  simp [List.getElem?_eq_getElem hj, bv]
theorem SlN.one (w : World) (e : TypeId) (k : Int) : SlN (w.alloc (.cells #[.int .i64 k] e)) (.slice (some ⟨w.heap.size, 0, none⟩) 1 1) [k] :=
  ⟨_, 1, rfl, Nat.le_refl _, by omega, fun _ => ⟨_, 0, rfl, fun j hj => by
    obtain rfl : j = 0 := by simpa using hj
    exact (Blk.new w e #[.int .i64 k]).cell 0⟩⟩
/-- A row of noughts. -/
def zerosR (n : Nat) : Array Value := madeCells #[.int .u8 0] n
theorem make_zeros (n : Nat) (z : Int) (hz : z = (n : Int)) (hn : n ≤ 1000000000) (w : World) : (Instr.makeSlice 38 (.int .i64 z) (.int .i64 z)).run Try.prog w = .ok (.slice (some ⟨w.heap.size, 0, none⟩) n n) (w.alloc (.cells (zerosR n) 5)) := by
  subst hz
  exact run_make_row' (P := Try.prog) 38 5 (.int .u8 0) 1 Try.underlying38 info_u8 rfl .i64 .i64 n (by omega) (by omega) w
theorem zerosR_list (n : Nat) : (zerosR n).toList = (List.replicate n (0 : UInt8)).map bv := by
  unfold zerosR
  rw [toList_madeCells_one]
  simp [bv]
theorem Sl.zeros (w : World) (n : Nat) : Sl (w.alloc (.cells (zerosR n) 5)) (.slice (some ⟨w.heap.size, 0, none⟩) n n) (List.replicate n 0) :=
  Sl.of_mark w _ _ _ _ n n (by simp) (Nat.le_refl _) (zerosR_list n)
theorem al1 (w : World) (o : Obj) : Below w.heap.size w (w.alloc o) := (Below.refl _ _).alloc (Nat.le_refl _) _
theorem via {w a b c : World} (h : Below w.heap.size w a) (k : Below a.heap.size a b) (l : Below w.heap.size b c) : Below w.heap.size w c := (h.trans (k.mono h.size)).trans l

set_option maxHeartbeats 4000000 in
theorem known_law (w : World) : Calls Try.prog 9 #[] w fun e w' => e = .returned (.bool true) ∧ Below w.heap.size w w' := by
  have kc := fun (w : World) (C : Array Value) (n c : Nat) => Lib.run_convert_bytes_const (P := Try.prog) w 38 5 C n c Try.underlying38 Try.underlying5
  have hmk := make_zeros 99 99 rfl (by omega)
  go_enter Try.func9, Try.ntmps9
  go_wp2_with fail
  refine (my_new 9 w (by omega) (by omega)).mono ?_
  rintro e w1 ⟨p, rfl, hm, hb⟩
  have HM := Lib.hid hm
  have HB := Lib.hid hb
  clear hm hb
  go_wp2_with fail
  refine (num_any 0 w1).mono ?_
  rintro e wx ⟨rfl, hwx⟩
  rw [hwx]
  clear hwx wx
  go_wp2_with fail
  refine (my_append (HM.out.below (al1 w1 _)) (Nat.le_trans HB.out.size (al1 w1 _).size) (by decide) ⟨#[97]⟩ _ [120, 121, 122] (Sl.of_mark w1 5 _ _ [120, 121, 122] 3 3 rfl (Nat.le_refl _) rfl) k1).mono ?_
  rintro e w2 ⟨rfl, hm, hb⟩
  replace HM := Lib.hid hm
  replace HB := Lib.hid (via HB.out (al1 w1 _) hb)
  clear hm hb
  go_wp2_with fail
  refine (num_any 0 w2).mono ?_
  rintro e wx ⟨rfl, hwx⟩
  rw [hwx]
  clear hwx wx
  go_wp2_with fail
  refine (my_sync (HM.out.below (Below.refl w2.heap.size w2)) (Nat.le_trans HB.out.size (Below.refl w2.heap.size w2).size) (by decide) ⟨#[97]⟩ k2).mono ?_
  rintro e w3 ⟨rfl, hm, hb⟩
  replace HM := Lib.hid hm
  replace HB := Lib.hid (via HB.out (Below.refl w2.heap.size w2) hb)
  clear hm hb
  go_wp2_with fail
  refine (num_any 0 w3).mono ?_
  rintro e wx ⟨rfl, hwx⟩
  rw [hwx]
  clear hwx wx
  go_wp2_with fail
  refine (my_append (HM.out.below (al1 w3 _)) (Nat.le_trans HB.out.size (al1 w3 _).size) (by decide) ⟨#[97]⟩ _ [117, 118] (Sl.of_mark w3 5 _ _ [117, 118] 2 2 rfl (Nat.le_refl _) rfl) k3).mono ?_
  rintro e w4 ⟨rfl, hm, hb⟩
  replace HM := Lib.hid hm
  replace HB := Lib.hid (via HB.out (al1 w3 _) hb)
  clear hm hb
  go_wp2_with fail
  refine (num_any 0 w4).mono ?_
  rintro e wx ⟨rfl, hwx⟩
  rw [hwx]
  clear hwx wx
  go_wp2_with fail
  refine (my_crash (HM.out.below (al1 w4 _)) [1] _ (SlN.one w4 3 1)).mono ?_
  rintro e w5 ⟨pc, rfl, hc, hb⟩
  rw [k4] at hc
  replace HM := Lib.hid ((HM.out.below (al1 w4 _)).below hb)
  have HC := Lib.hid hc
  replace HB := Lib.hid (via HB.out (al1 w4 _) (hb.mono (Nat.le_trans HB.out.size (al1 w4 _).size)))
  clear hc hb
  go_wp2_with fail
  refine (my_read_is HC.out ⟨#[97]⟩ r1.1 r1.2).mono ?_
  rintro e w6 ⟨Ab, cb, rfl, hsb, hb⟩
  replace HM := Lib.hid (HM.out.below hb)
  replace HB := Lib.hid (HB.out.trans (hb.mono HB.out.size))
  have HS := Lib.hid hsb
  clear hb hsb HC
  go_wp2_with fail
  refine (my_lasts_is HM.out ⟨#[97]⟩ r4.1 r4.2).mono ?_
  rintro e w7 ⟨rfl, hb⟩
  replace HM := Lib.hid (HM.out.below hb)
  replace HB := Lib.hid (HB.out.trans (hb.mono HB.out.size))
  have kx : (convert 38 9 (.slice Ab 4 cb)).run Try.prog w7 = .ok (.string ⟨#[120, 121, 122, 117]⟩) w7 := conv_known (HS.out.below hb)
  clear hb HS
  go_wp2_with fail
  refine (num_any 0 w7).mono ?_
  rintro e wx ⟨rfl, hwx⟩
  rw [hwx]
  clear hwx wx
  go_wp2_with fail
  refine (num_any 0 w7).mono ?_
  rintro e wx ⟨rfl, hwx⟩
  rw [hwx]
  clear hwx wx
  go_wp2_with fail
  refine (my_fuse HM.out HB.out.size 1 (by omega) (by omega)).mono ?_
  rintro e w8 ⟨rfl, hm, hb⟩
  rw [k10] at hm
  replace HM := Lib.hid hm
  replace HB := Lib.hid (HB.out.trans hb)
  clear hm hb kx
  go_wp2_with fail
  refine (my_rename (HM.out.below (Below.refl w8.heap.size w8)) (Nat.le_trans HB.out.size (Below.refl w8.heap.size w8).size) (by decide) ⟨#[97]⟩ ⟨#[98]⟩ k5).mono ?_
  rintro e w9 ⟨rfl, hm, hb⟩
  replace HM := Lib.hid hm
  replace HB := Lib.hid (via HB.out (Below.refl w8.heap.size w8) hb)
  clear hm hb
  go_wp2_with fail
  refine (my_append (HM.out.below (al1 w9 _)) (Nat.le_trans HB.out.size (al1 w9 _).size) (by decide) ⟨#[98]⟩ _ [119] (Sl.of_mark w9 5 _ _ [119] 1 1 rfl (Nat.le_refl _) rfl) k6).mono ?_
  rintro e w10 ⟨rfl, hm, hb⟩
  replace HM := Lib.hid hm
  replace HB := Lib.hid (via HB.out (al1 w9 _) hb)
  clear hm hb
  go_wp2_with fail
  refine (my_read_is HM.out ⟨#[98]⟩ r2.1 r2.2).mono ?_
  rintro e w11 ⟨Ab, cb, rfl, hsb, hb⟩
  replace HM := Lib.hid (HM.out.below hb)
  replace HB := Lib.hid (HB.out.trans (hb.mono HB.out.size))
  have HS := Lib.hid hsb
  clear hb hsb
  go_wp2_with fail
  refine (my_read_is HM.out ⟨#[99]⟩ r3.1 r3.2).mono ?_
  rintro e w12 ⟨An, cn, rfl, hsn, hb⟩
  replace HM := Lib.hid (HM.out.below hb)
  replace HB := Lib.hid (HB.out.trans (hb.mono HB.out.size))
  have kx : (convert 38 9 (.slice Ab 6 cb)).run Try.prog w12 = .ok (.string ⟨#[120, 121, 122, 117, 118, 119]⟩) w12 := conv_known (HS.out.below hb)
  clear hb HS hsn
  go_wp2_with fail
  refine (num_any 0 w12).mono ?_
  rintro e wx ⟨rfl, hwx⟩
  rw [hwx]
  clear hwx wx
  go_wp2_with fail
  refine (num_any 8 w12).mono ?_
  rintro e wx ⟨rfl, hwx⟩
  rw [hwx]
  clear hwx wx
  go_wp2_with fail
  refine (num_any 0 w12).mono ?_
  rintro e wx ⟨rfl, hwx⟩
  rw [hwx]
  clear hwx wx
  go_wp2_with fail
  refine (my_cut (HM.out.below (Below.refl w12.heap.size w12)) (Nat.le_trans HB.out.size (Below.refl w12.heap.size w12).size) (by decide) ⟨#[98]⟩ 0 k7).mono ?_
  rintro e w13 ⟨rfl, hm, hb⟩
  replace HM := Lib.hid hm
  replace HB := Lib.hid (via HB.out (Below.refl w12.heap.size w12) hb)
  clear hm hb
  go_wp2_with fail
  refine (num_any 8 w13).mono ?_
  rintro e wx ⟨rfl, hwx⟩
  rw [hwx]
  clear hwx wx
  go_wp2_with fail
  refine (my_append (HM.out.below (al1 w13 _)) (Nat.le_trans HB.out.size (al1 w13 _).size) (by decide) ⟨#[66]⟩ _ [120] (Sl.of_mark w13 5 _ _ [120] 1 1 rfl (Nat.le_refl _) rfl) k8).mono ?_
  rintro e w14 ⟨rfl, hm, hb⟩
  replace HM := Lib.hid hm
  replace HB := Lib.hid (via HB.out (al1 w13 _) hb)
  clear hm hb
  go_wp2_with fail
  refine (num_any 2 w14).mono ?_
  rintro e wx ⟨rfl, hwx⟩
  rw [hwx]
  clear hwx wx
  go_wp2_with fail
  refine (my_append (HM.out.below (al1 w14 _)) (Nat.le_trans HB.out.size (al1 w14 _).size) (by decide) ⟨#[98]⟩ _ (List.replicate 99 0) (Sl.zeros w14 99) (k9 _ (by simp))).mono ?_
  rintro e w15 ⟨rfl, hm, hb⟩
  replace HM := Lib.hid hm
  replace HB := Lib.hid (via HB.out (al1 w14 _) hb)
  clear hm hb
  go_wp2_with fail
  refine (num_any 5 w15).mono ?_
  rintro e wx ⟨rfl, hwx⟩
  rw [hwx]
  clear hwx wx
  go_wp2_with fail
  refine (num_any 6 w15).mono ?_
  rintro e wx ⟨rfl, hwx⟩
  rw [hwx]
  clear hwx wx
  go_wp2
  go_ret
  exact ⟨rfl, HB.out⟩
end Go.Proofs.Ytdbkhigocjmfoaa

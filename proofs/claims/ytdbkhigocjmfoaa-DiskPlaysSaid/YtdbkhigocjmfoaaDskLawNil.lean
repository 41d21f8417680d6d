/-
  The walk of DiskNil.
-/
import Derived.Test.YtdbkhigocjmfoaaDskKnown
namespace Go.Proofs.Ytdbkhigocjmfoaa
open Go.RowKit Go.Maps Go.Shelf
open DskM
set_option linter.unusedVariables false
set_option linter.unusedSimpArgs false
set_option maxRecDepth 100000

instance : DecidableEq Ds := fun a b => decidable_of_iff (a.cap = b.cap ∧ a.fuse = b.fuse ∧ a.dead = b.dead ∧ a.wr = b.wr) (by cases a; cases b; simp)
instance decSF : DecidableEq (Ds × List Fp) := inferInstance
def nilN (i : Nat) : Nm := [102, 97 + UInt8.ofNat (i / 26), 97 + UInt8.ofNat (i % 26)]
def nilF (i : Nat) : List Fp := (List.range i).map fun j => (nilN j, [], 0)
theorem nil_step : ∀ i, i < 64 → appendS ⟨16777216, -1, false, i⟩ (nilF i) (nilN i) [] = (0, ⟨16777216, -1, false, i + 1⟩, nilF (i + 1)) := by decide +kernel
def oneMore : Nm := [111, 110, 101, 45, 109, 111, 114, 101]
def nilG (b : List UInt8) : List Fp := ((List.range 64).filter (fun j => j != 0)).map (fun j => (nilN j, [], 0)) ++ [(oneMore, b, 0)]
theorem nil_full : appendS ⟨16777216, -1, false, 64⟩ (nilF 64) oneMore [] = (5, ⟨16777216, -1, false, 64⟩, nilF 64) := by decide +kernel
theorem nil_ren : renameS ⟨16777216, -1, false, 64⟩ (nilF 64) [102, 97, 97] oneMore = (0, ⟨16777216, -1, false, 65⟩, nilG []) := by decide +kernel
theorem nil_big (b : List UInt8) (hb : b.length = 16777216) : appendS ⟨16777216, -1, false, 65⟩ (nilG []) oneMore b = (0, ⟨16777216, -1, false, 66⟩, nilG b) := by
  have h1 : mayB oneMore = true := by decide +kernel
  have h2 : totalP (nilG []) = 0 := by decide +kernel
  have h3 : findP (nilG []) oneMore = some (oneMore, [], 0) := by decide +kernel
  have h4 : ((((List.range 64).filter (fun j => j != 0)).map (fun j => ((nilN j, [], 0) : Fp))).map fun y => if y.1 = oneMore then ((oneMore, b, 0) : Fp) else y) = ((List.range 64).filter (fun j => j != 0)).map (fun j => ((nilN j, [], 0) : Fp)) := by
    have h5 : ∀ y ∈ ((List.range 64).filter (fun j => j != 0)).map (fun j => ((nilN j, [], 0) : Fp)), y.1 ≠ oneMore := by decide +kernel
    exact (List.map_congr_left (fun y hy => if_neg (h5 y hy))).trans (List.map_id _)
  unfold appendS addP
  rw [if_pos h1, h3, if_neg (by rw [h2, hb]; simp)]
  simp only [List.nil_append]
  have h6 : setP (nilG []) (oneMore, b, 0) = nilG b := by
    unfold setP nilG
    rw [List.map_append, h4]
    simp
  rw [h6]
  rfl
theorem nil_none (b : List UInt8) (hb : b.length = 16777216) : appendS ⟨16777216, -1, false, 66⟩ (nilG b) [102, 97, 98] [1] = (5, ⟨16777216, -1, false, 66⟩, nilG b) ∧ totalP (nilG b) = 16777216 := by
  have h1 : mayB [102, 97, 98] = true := by decide +kernel
  have h2 : totalP (nilG b) = 16777216 := by
    have h3 : totalP (((List.range 64).filter (fun j => j != 0)).map (fun j => ((nilN j, [], 0) : Fp))) = 0 := by decide +kernel
    unfold totalP at h3 ⊢
    unfold nilG
    rw [List.map_append, List.sum_append, h3]
    simp [hb]
  refine ⟨?_, h2⟩
  unfold appendS
  rw [if_pos h1, if_pos (.inl (by rw [h2]; decide))]
set_option maxHeartbeats 4000000 in
theorem lawNil (w : World) : Calls Try.prog 5 #[] w fun e w' => e = .returned (.bool true) ∧ Below w.heap.size w w' := by
  go_enter Try.func5, Try.ntmps5
  go_wp2_with fail
  refine (my_new 16777216 w (by omega) (by omega)).mono ?_
  rintro e w1 ⟨p, rfl, hm, hb⟩
  have HM := Lib.hid hm
  have HB := Lib.hid hb
  clear hm hb
  go_wp2_with fail
  refine (num_any 0 w1).mono ?_
  rintro e wx ⟨rfl, hwx⟩
  rw [hwx]
  clear hwx wx
  go_wp2_with fail
  go_loopw [3] (fun z wr => ∃ i : Nat, z = .int .i64 (i : Int) ∧ i ≤ 64 ∧ My w.heap.size wr p ⟨16777216, -1, false, i⟩ (nilF i) ∧ Below w.heap.size w wr) (fun z _ => 64 - (intOf z).toNat)
  case atStart => exact ⟨0, rfl, by omega, HM.out, HB.out⟩
  case round =>
    obtain ⟨i, rfl, hi, hm, hb⟩ := hrel
    replace HM := Lib.hid hm
    replace HB := Lib.hid hb
    clear hm hb
    by_cases hlt : i < 64
    · have hi0 : (0 : Int) ≤ (i : Int) := by omega
      have hi1 : (i : Int) < 64 := by omega
      have ha : Sl (wr.alloc (.cells #[.int .u8 (97 + (i : Int) / 26), .int .u8 (97 + (i : Int) % 26)] 5)) (.slice (some ⟨wr.heap.size, 0, none⟩) 2 2) [97 + UInt8.ofNat (i / 26), 97 + UInt8.ofNat (i % 26)] := by
        refine Sl.of_mark wr _ _ _ _ 2 2 rfl (Nat.le_refl _) ?_
        have e1 : ((97 + UInt8.ofNat (i / 26)).toNat : Int) = 97 + (i : Int) / 26 := by rw [UInt8.toNat_add, UInt8.toNat_ofNat']; show (((97 + _) % 256 : Nat) : Int) = _; omega
        have e2 : ((97 + UInt8.ofNat (i % 26)).toNat : Int) = 97 + (i : Int) % 26 := by rw [UInt8.toNat_add, UInt8.toNat_ofNat']; show (((97 + _) % 256 : Nat) : Int) = _; omega
        show [Value.int .u8 (97 + (i : Int) / 26), Value.int .u8 (97 + (i : Int) % 26)] = [Value.int .u8 ((97 + UInt8.ofNat (i / 26)).toNat : Int), Value.int .u8 ((97 + UInt8.ofNat (i % 26)).toNat : Int)]
        rw [e1, e2]
      have kx := conv_known ha
      clear ha
      have hal := al1 wr (.cells #[.int .u8 (97 + (i : Int) / 26), .int .u8 (97 + (i : Int) % 26)] 5)
      have HM2 := Lib.hid (HM.out.below hal)
      have HB2 := Lib.hid (HB.out.trans (hal.mono HB.out.size))
      clear hal
      have hsl : ((⟨#[102]⟩ : ByteArray) ++ ⟨#[97 + UInt8.ofNat (i / 26), 97 + UInt8.ofNat (i % 26)]⟩).data.toList = nilN i := by rw [ByteArray.data_append]; rfl
      have hap := my_append (B := w.heap.size) HM2.out HB2.out.size (show i ≤ 1000000 by omega) ((⟨#[102]⟩ : ByteArray) ++ ⟨#[97 + UInt8.ofNat (i / 26), 97 + UInt8.ofNat (i % 26)]⟩) (.slice none 0 0) [] (Sl.nil none 0) (hsl ▸ nil_step i hlt)
      have HAP := Lib.hid hap
      clear hap hsl
      go_wp2_with fail
      refine HAP.out.mono ?_
      rintro e w2 ⟨rfl, hm, hb⟩
      have HM3 := Lib.hid hm
      have HB3 := Lib.hid (HB2.out.trans hb)
      clear hm hb kx
      go_wp2_with fail
      refine (num_any 0 w2).mono ?_
      rintro e wx ⟨rfl, hwx⟩
      rw [hwx]
      clear hwx wx
      have HLT := Lib.hid hlt
      clear hlt
      go_wp2
      exact ⟨⟨i + 1, by simp, HLT.out, HM3.out, HB3.out⟩, by have := HLT.out; simp [intOf]; omega⟩
    · obtain rfl : i = 64 := by omega
      have hmk := make_zeros 16777216 16777216 rfl (by omega)
      clear hi hlt
      go_wp2_with fail
      refine (my_append (HM.out.below (Below.refl wr.heap.size wr)) (Nat.le_trans HB.out.size (Below.refl wr.heap.size wr).size) (by decide) ⟨#[111, 110, 101, 45, 109, 111, 114, 101]⟩ _ [] (Sl.nil none 0) nil_full).mono ?_
      rintro e w2 ⟨rfl, hm, hb⟩
      replace HM := Lib.hid hm
      replace HB := Lib.hid (via HB.out (Below.refl wr.heap.size wr) hb)
      clear hm hb
      go_wp2_with fail
      refine (num_any 5 w2).mono ?_
      rintro e wx ⟨rfl, hwx⟩
      rw [hwx]
      clear hwx wx
      go_wp2_with fail
      refine (my_rename (HM.out.below (Below.refl w2.heap.size w2)) (Nat.le_trans HB.out.size (Below.refl w2.heap.size w2).size) (by decide) ⟨#[102, 97, 97]⟩ ⟨#[111, 110, 101, 45, 109, 111, 114, 101]⟩ nil_ren).mono ?_
      rintro e w3 ⟨rfl, hm, hb⟩
      replace HM := Lib.hid hm
      replace HB := Lib.hid (via HB.out (Below.refl w2.heap.size w2) hb)
      clear hm hb
      go_wp2_with fail
      refine (num_any 0 w3).mono ?_
      rintro e wx ⟨rfl, hwx⟩
      rw [hwx]
      clear hwx wx
      go_wp2_with fail
      refine (my_append (HM.out.below (al1 w3 _)) (Nat.le_trans HB.out.size (al1 w3 _).size) (by decide) ⟨#[111, 110, 101, 45, 109, 111, 114, 101]⟩ _ (List.replicate 16777216 0) (Sl.zeros w3 16777216) (nil_big _ (by rw [List.length_replicate]))).mono ?_
      rintro e w4 ⟨rfl, hm, hb⟩
      replace HM := Lib.hid hm
      replace HB := Lib.hid (via HB.out (al1 w3 _) hb)
      clear hm hb
      go_wp2_with fail
      refine (num_any 0 w4).mono ?_
      rintro e wx ⟨rfl, hwx⟩
      rw [hwx]
      clear hwx wx
      go_wp2_with fail
      refine (my_append (HM.out.below (al1 w4 _)) (Nat.le_trans HB.out.size (al1 w4 _).size) (by decide) ⟨#[102, 97, 98]⟩ _ [1] (Sl.of_mark w4 5 _ _ [1] 1 1 rfl (Nat.le_refl _) rfl) (nil_none _ (by rw [List.length_replicate])).1).mono ?_
      rintro e w5 ⟨rfl, hm, hb⟩
      replace HM := Lib.hid hm
      replace HB := Lib.hid (via HB.out (al1 w4 _) hb)
      clear hm hb
      go_wp2_with fail
      refine (num_any 5 w5).mono ?_
      rintro e wx ⟨rfl, hwx⟩
      rw [hwx]
      clear hwx wx
      have hro := my_room HM.out
      have hz : ((16777216 : Nat) : Int) - (totalP (nilG (List.replicate 16777216 0)) : Int) = 0 := by rw [(nil_none _ (by rw [List.length_replicate])).2]; rfl
      have hro2 : Calls Try.prog 28 #[.pointer (some ⟨p, 0, none⟩)] w5 fun e W' => e = .returned (.int .i64 0) ∧ Below w5.heap.size w5 W' := hro.mono (fun e W' h => ⟨h.1.trans (by rw [← hz]), h.2⟩)
      clear hro hz
      go_wp2_with fail
      refine hro2.mono ?_
      rintro e v1 ⟨rfl, hb⟩
      replace HM := Lib.hid (HM.out.below hb)
      replace HB := Lib.hid (HB.out.trans (hb.mono HB.out.size))
      clear hb hro2 hmk
      have hal := al1 v1 (.cells #[.int .i64 0, .map none, .int .i64 0, .bool false, .int .i64 0] 63)
      have hbn := (Blk.new v1 63 #[.int .i64 0, .map none, .int .i64 0, .bool false, .int .i64 0])
      have hnd : Nd (v1.alloc (.cells #[.int .i64 0, .map none, .int .i64 0, .bool false, .int .i64 0] 63)) (some ⟨v1.heap.size, 0, none⟩) := .inr ⟨_, rfl, hbn.cell 0⟩
      have HAL := Lib.hid hal
      have HND := Lib.hid hnd
      clear hal hbn hnd
      obtain ⟨m, L, _, hd, _⟩ := HM.out.below HAL.out
      have HD := Lib.hid hd
      replace HB := Lib.hid (HB.out.trans (HAL.out.mono HB.out.size))
      clear hd
      go_wp2_with fail
      refine (nothing_law (P := none) (.inl rfl) HD.out).mono ?_
      rintro e v2 ⟨rfl, hb⟩
      replace HD := Lib.hid (HD.out.below hb)
      replace HND := Lib.hid (HND.out.below hb)
      replace HB := Lib.hid (HB.out.trans (hb.mono HB.out.size))
      clear hb HAL
      go_wp2_with fail
      refine (nothing_law HND.out HD.out).mono ?_
      rintro e v3 ⟨rfl, hb⟩
      replace HND := Lib.hid (HND.out.below hb)
      replace HB := Lib.hid (HB.out.trans (hb.mono HB.out.size))
      clear hb
      go_wp2_with fail
      refine (same_nn HND.out.noneIs (Nd.noneIs (.inl rfl))).mono ?_
      rintro e v4 ⟨rfl, hb⟩
      replace HB := Lib.hid (HB.out.trans (hb.mono HB.out.size))
      clear hb
      go_wp2_with fail
      refine (known_law v4).mono ?_
      rintro e v5 ⟨rfl, hb⟩
      replace HB := Lib.hid (HB.out.trans (hb.mono HB.out.size))
      clear hb
      go_wp2
      go_ret
      exact ⟨rfl, HB.out⟩
end Go.Proofs.Ytdbkhigocjmfoaa

/-
  The document's Join, Bytes and Of of a cursor.
-/
import Derived.Test.YthlopecllhdmhaaDoorCuE
import Derived.Test.YthlopecllhdmhaaDoorShaRefCode
namespace Go.Proofs.YthlopecllhdmhaaDoor
open Go.RowKit
open CtxM
set_option linter.unusedVariables false
set_option linter.unusedSimpArgs false
set_option maxRecDepth 20000

set_option maxHeartbeats 1000000 in
theorem rjoin_any (A B : List Nat) (w : World) (hA : A.length = 16) (hB : B.length = 16) :
    Calls Tryd.prog 16 #[.agg (uqs A), .agg (uqs B)] w fun e w' => e = .returned (.agg (uqs (maxV A B))) ∧ Below w.heap.size w w' := by
  have hfo : Tryd.prog.follows .mixedOrders = true := by kernel_rfl
  have hmx := maxV_getD A B
  have hml := maxV_length A B
  generalize maxV A B = W at hmx hml ⊢
  obtain ⟨b0, b1, hg⟩ := two_boxes w 25 25 (uqs A) (uqs B)
  replace b0 := b0.alloc (.cells (uqs (z16 0 0)) 25)
  replace b1 := b1.alloc (.cells (uqs (z16 0 0)) 25)
  have b2 := Blk.new ((w.alloc (.cells (uqs A) 25)).alloc (.cells (uqs B) 25)) 25 (uqs (z16 0 0))
  rw [show ((w.alloc (.cells (uqs A) 25)).alloc (.cells (uqs B) 25)).heap.size = w.heap.size + 2 by simp] at b2
  have hb := (hg.alloc (.cells (uqs (z16 0 0)) 25)).below
  clear hg
  go_enter Tryd.func16, Tryd.ntmps16
  go_upto_region 1 with fail
  change Code.wp _ _ _ _ (((w.alloc (.cells (uqs A) 25)).alloc (.cells (uqs B) 25)).alloc (.cells (uqs (z16 0 0)) 25))
  generalize ((w.alloc (.cells (uqs A) 25)).alloc (.cells (uqs B) 25)).alloc (.cells (uqs (z16 0 0)) 25) = w1 at b0 b1 b2 hb ⊢
  go_wp2_with fail
  go_loopw [5] (fun z wr => ∃ i : Nat, z = .int .i64 (i : Int) ∧ i ≤ 16 ∧ ∃ U, Mix W A U i ∧ Blk wr w.heap.size 25 (uqs U) ∧ Blk wr (w.heap.size + 1) 25 (uqs B) ∧ Blk wr (w.heap.size + 2) 25 (uqs (z16 0 0)) ∧ Below w.heap.size w wr) (fun z _ => 16 - (intOf z).toNat)
  case atStart => exact ⟨0, rfl, Nat.zero_le _, A, Mix.start hA W, b0, b1, b2, hb⟩
  case round =>
    clear b0 b1 b2 hb
    obtain ⟨i, rfl, hi16, U, hU, hB0, hB1, hB2, hb⟩ := hrel
    by_cases hlt : i < 16
    · have hU16 := hU.1
      have hUg := hU.get hlt
      rw [show at_ A ((i : Int) + 1) = A.getD i 0 by unfold at_; rw [show ((i : Int) + 1 - 1).toNat = i by omega]] at hUg
      have q0 : ∀ n os, (Go.Sort.grow (wr.drewN n) os).cell? ⟨w.heap.size, i, none⟩ = some (.int .u64 (A.getD i 0 : Int)) := cell_grown hB0.lt (by rw [hB0.cell, uqs_get _ _ (by omega), hUg])
      have q1 : ∀ n os, (Go.Sort.grow (wr.drewN n) os).cell? ⟨w.heap.size + 1, i, none⟩ = some (.int .u64 (B.getD i 0 : Int)) := cell_grown hB1.lt (by rw [hB1.cell]; exact uqs_get B i (by omega))
      have hm := hmx i hlt
      have hnx := hU.next hlt
      obtain ⟨x, hx⟩ : ∃ x, x = A.getD i 0 := ⟨_, rfl⟩
      obtain ⟨y, hy⟩ : ∃ x, x = B.getD i 0 := ⟨_, rfl⟩
      rw [← hx] at q0 hm
      rw [← hy] at q1 hm
      have HX := Lib.hid (show U.getD i 0 = x by rw [hx]; exact hUg)
      have HY := Lib.hid hy
      have HM := Lib.hid hm
      have HL := Lib.hid hlt
      have HU16 := Lib.hid hU16
      clear hx hy hm hUg hmx
      by_cases hle : (x : Int) < (y : Int)
      · have hle2 : decide ((x : Int) < (y : Int)) = true := decide_eq_true hle
        go_wp2_with fail
        refine wp_region_quiet_grown (by assumption) (by kernel_rfl) ?_
        repeat (first | go_big_quiet_skip | go_big_quiet_step (fail))
        refine wpQuiet_nil ?_
        rintro _ ⟨⟨nq, osq⟩, rfl⟩
        have hgq : Grw wr (Go.Sort.grow (wr.drewN nq) osq) := ⟨nq, osq, rfl⟩
        generalize Go.Sort.grow (wr.drewN nq) osq = w2 at hgq ⊢
        have C0 := hB0.below hgq.below hB0.lt
        have C1 := hB1.below hgq.below hB1.lt
        have C2 := hB2.below hgq.below hB2.lt
        have hb2 := hb.trans (hgq.below.mono hb.size)
        have hc1 : w2.cell? ⟨w.heap.size + 1, i, none⟩ = some (.int .u64 (y : Int)) := by rw [C1.cell, uqs_get B i (by have := HL.out; omega), ← HY.out]
        have hc0 : w2.cell? ⟨w.heap.size, i, none⟩ = some (.int .u64 (x : Int)) := by rw [C0.cell, uqs_get U i (by have := HL.out; have := HU16.out; omega), HX.out]
        have hfz := C0.frozen i
        have hst := C0.set_ i (.int .u64 (y : Int))
        rw [uqs_set, show y = W.getD i 0 by rw [HM.out]; omega] at hst
        rw [show ((W.getD i 0 : Nat) : Int) = (y : Int) by rw [HM.out]; omega] at hst
        have HST := Lib.hid hst
        clear hst q0 q1 hB0 hB1 hB2 hb hgq
        go_wp2
        exact ⟨⟨i + 1, by go_num, HL.out, _, hnx, HST.out, C1.far (by show ¬ _; simp) _, C2.far (by show ¬ _; simp) _, Below.only hb2 (grown_setCell _ _ _ _) (Nat.le_refl _) hb2.size⟩, by simp [intOf]; have := HL.out; omega⟩
      · have hle2 : decide ((x : Int) < (y : Int)) = false := decide_eq_false hle
        go_wp2_with fail
        refine wp_region_quiet_grown (by assumption) (by kernel_rfl) ?_
        repeat (first | go_big_quiet_skip | go_big_quiet_step (fail))
        refine wpQuiet_nil ?_
        rintro _ ⟨⟨nq, osq⟩, rfl⟩
        have hgq : Grw wr (Go.Sort.grow (wr.drewN nq) osq) := ⟨nq, osq, rfl⟩
        generalize Go.Sort.grow (wr.drewN nq) osq = w2 at hgq ⊢
        clear q0 q1
        go_wp2
        have e : U.set i (W.getD i 0) = U := by
          have h1 := HM.out
          have h2 := HX.out
          have h3 := HU16.out
          have h4 := HL.out
          rw [show W.getD i 0 = U.getD i 0 by omega, List.getD_eq_getElem?_getD, List.getElem?_eq_getElem (by omega)]
          simp
        rw [e] at hnx
        exact ⟨⟨i + 1, by go_num, HL.out, _, hnx, hB0.below hgq.below hB0.lt, hB1.below hgq.below hB1.lt, hB2.below hgq.below hB2.lt, hb.trans (hgq.below.mono hb.size)⟩, by simp [intOf]; have := HL.out; omega⟩
    · obtain rfl : i = 16 := by omega
      have hUW := hU.last hml
      subst hUW
      have hth := hB2.there
      rw [uqs_size, show (z16 0 0).length = U.length from hml.symm, ← uqs_size] at hth
      have hinf := uqs_info hml
      have hone := uqs_one U
      clear hmx
      go_wp2_with (first | (refine wpList_load_row rfl 25 _ rfl w.heap.size rfl 25 (uqs U) (0, 0) _ hB0 Tryd.underlying25 rfl hinf ?_) | (refine wpList_store_mid rfl 25 _ _ rfl (w.heap.size + 2) 0 (uqs U) rfl rfl hth hinf hone ?_))
      have hE := hB2.setRow (ds := uqs U) (by rw [uqs_size, uqs_size, hml]; rfl)
      have hgE := grown_setCells (w.heap.size + 2) (uqs U).toList 0 wr
      exact bodyPost_ret (v := .agg (uqs U)) (results_cell_row rfl _ _ (w.heap.size + 2) 25 (uqs U) (0, 0) _ rfl hE Tryd.underlying25 rfl hinf) rfl ⟨rfl, Below.only hb hgE (by omega) hb.size⟩

set_option maxHeartbeats 1600000 in
theorem r10bytes_any (sv : Value) (s : List UInt8) (d : ByteArray) (V : List Nat) (w : World) (hs : Sl w sv s) (hl : s.length ≤ 300) (hV : V.length = 16) (hN : nameB d = true) (hvl : ∀ n ∈ V, n < 18446744073709551616) :
    Calls Tryd.prog 10 #[sv, .string d, .agg (uqs V)] w fun e w' => ∃ v', e = .returned v' ∧ Own w' w.heap.size 5 v' (curB s d V) ∧ Below w.heap.size w w' := by
  obtain ⟨i0, hi, hz0, hz1, hz2⟩ := info_parts info_u8
  have hB0 := Blk.new w 25 (uqs V)
  have hb0 : Below w.heap.size w (w.alloc (.cells (uqs V) 25)) := (Below.refl _ _).alloc (Nat.le_refl _) _
  have hd32 := name_le hN
  have hvec := vec_of V hV hvl
  clear hvl
  obtain ⟨A, n, c, rfl⟩ := hs.shape
  have HS := Lib.hid hs
  clear hs
  go_enter Tryd.func10, Tryd.ntmps10
  go_upto_region 1 with fail
  change Code.wp _ _ _ _ (w.alloc (.cells (uqs V) 25))
  generalize w.alloc (.cells (uqs V) 25) = w1 at hB0 hb0 ⊢
  go_upto_region 2 with (first | (refine wpList_load_mid_g (by rfl) 25 _ rfl w.heap.size 0 rfl (uqs V) _ (uqs_range hB0) Tryd.underlying25 rfl (uqs_info hV) ?_; try simp only [Act.put, List.setIfInBounds_toArray, List.set_cons_zero, List.set_cons_succ]) | (go_at_call 24; refine (refVector_any _ _ _ hvec).mono ?_; rintro e w3 ⟨v3, rfl, ho3, hb3⟩))
  have hbw3 := hb0.trans (hb3.mono hb0.size)
  replace ho3 := ho3.mono hb0.size
  obtain ⟨A3, n3, c3, rfl⟩ := ho3.shape
  clear hb0 hb3 hB0
  have hvl : (vecB V).length = 128 := by rw [vecB_length, hV]
  have HO3 := Lib.hid ho3
  clear ho3
  obtain ⟨cB, W4, hr, hb4, hlt, hcB, _, hsl⟩ := conv_bytes d w3
  go_wp2_with fail
  refine (refBlob_any _ _ _ hsl (by rw [str_len]; omega)).mono ?_
  rintro e w5 ⟨v5, rfl, ho5, hb5⟩
  have hb45 := hb4.trans (hb5.mono hb4.size)
  have hbw5 := hbw3.trans (hb45.mono hbw3.size)
  have hsv := (HO3.out.below hb45 (Nat.le_refl _)).sl
  obtain ⟨A5, n5, c5, rfl⟩ := ho5.shape
  have hlen5 : (blobB d.data.toList).length + (vecB V).length ≤ 1000000000 := by rw [blobB_length, str_len]; omega
  have hbase : W4.heap.size ≤ w5.heap.size := hb5.size
  have HW := Lib.hid (show w.heap.size ≤ w3.heap.size ∧ w3.heap.size ≤ W4.heap.size ∧ W4.heap.size ≤ w5.heap.size from ⟨hbw3.size, hb4.size, hb5.size⟩)
  clear hr hb4 hlt hsl hb5
  go_wp2_with (at_builtin; refine wpList_append_bytes _ rfl _ _ 22 rfl W4.heap.size 5 i0 Tryd.underlying22 hi hz0 hz1 hz2 _ (blobB d.data.toList) rfl ho5 _ (vecB V) rfl hsv hlen5 hbase ?_)
  intro v6 w6 ho6 hb6
  have hs6 := HS.out.below (hbw5.trans (hb6.mono (by have := HW.out; omega)))
  have hv6 := ho6.sl
  obtain ⟨A6, n6, c6, rfl⟩ := ho6.shape
  have hcl6 : (blobB d.data.toList ++ vecB V).length ≤ 900000 := by rw [List.length_append, blobB_length, str_len]; omega
  clear ho6 ho5 hsv
  go_wp2_with fail
  refine (refCode_any _ _ s (blobB d.data.toList ++ vecB V) w6 hs6 hv6 (by omega) hcl6).mono ?_
  rintro e w7 ⟨rfl, hb7⟩
  rw [show blobB d.data.toList ++ vecB V = cuT d (vecB V) from rfl]
  have hb67 : Below W4.heap.size w5 w7 := hb6.trans (hb7.mono (by have := hb6.size; have := HW.out; omega))
  have hb37 := hb45.trans (hb67.mono (by have := HW.out; omega))
  have hbw7 := hbw5.trans (hb67.mono (by have := HW.out; omega))
  have ho7 := HO3.out.below hb37 (Nat.le_refl _)
  clear hs6 hv6 hb6 hb7 hb67 hb37 hb45 hbw5 hcl6
  have hcl : (codeN s (cuT d (vecB V))).length = 32 := codeN_length _ _
  have HC := Lib.hid (show curB s d V = vecB V ++ codeN s (cuT d (vecB V)) from rfl)
  generalize codeN s (cuT d (vecB V)) = m at hcl HC ⊢
  have hci := rowB_info hcl
  have hc1 := rowB_one m
  have hcr : (rowB m).size = 32 := by rw [rowB_size, hcl]
  obtain ⟨hth, hI, hbI⟩ := fresh_row w7 45 (rowB m) 32 hcr
  go_upto_region 3 with (refine wpList_store_mid rfl 45 _ _ rfl w7.heap.size 0 (rowB m) rfl rfl hth hci hc1 ?_)
  change Code.wp _ _ _ _ ((w7.alloc (.cells (rowB (List.replicate 32 0)) 45)).setCells w7.heap.size 0 (rowB m).toList)
  have ho8 := ho7.below hbI (Nat.le_refl _)
  have hb8 := hbw7.trans (hbI.mono hbw7.size)
  have hin := hI.bytes 32 32 hcl.symm (Nat.le_refl _)
  generalize (w7.alloc (.cells (rowB (List.replicate 32 0)) 45)).setCells w7.heap.size 0 (rowB m).toList = W8 at ho8 hb8 hin hI ⊢
  clear hth hbI hcr hc1 hci ho7 hbw7
  generalize w7.heap.size = a4 at hin hI ⊢
  have hlen8 : (vecB V).length + m.length ≤ 1000000000 := by omega
  have hb8s := hb8.size
  go_wp2_with (at_builtin; refine wpList_append_bytes _ rfl _ _ 22 rfl w.heap.size 5 i0 Tryd.underlying22 hi hz0 hz1 hz2 _ (vecB V) rfl ho8 _ m rfl hin hlen8 hb8s ?_)
  intro v9 w9 ho9 hb9
  rw [← HC.out] at ho9
  have Ho := Lib.hid ho9
  have Hb := Lib.hid (hb8.trans hb9)
  clear ho9 hb9 ho8 hin hI
  go_wp2
  go_ret
  exact ⟨_, rfl, Ho.out, Hb.out⟩

end Go.Proofs.YthlopecllhdmhaaDoor

namespace Go.Proofs.YthlopecllhdmhaaDoor
open Go.RowKit
open CtxM
set_option linter.unusedVariables false
set_option linter.unusedSimpArgs false
set_option maxRecDepth 20000

theorem ite_iff {α : Type} {p q : Prop} [Decidable p] [Decidable q] (h : p ↔ q) (a b : α) : (if p then a else b) = if q then a else b := by
  by_cases hp : p
  · rw [if_pos hp, if_pos (h.1 hp)]
  · rw [if_neg hp, if_neg (fun hq => hp (h.2 hq))]
theorem vecN_take (l : List UInt8) : vecN (l.take 128) = vecN l := by
  apply List.ext_getElem (by rw [vecN_length, vecN_length])
  intro k h1 h2
  rw [vecN_get _ _ h1, vecN_get _ _ h2]
  rw [vecN_length] at h2
  congr 1
  rw [List.drop_take, List.take_take, Nat.min_eq_left (by omega)]
theorem vecB_to (l : List UInt8) (hl : 128 ≤ l.length) : ∀ k, k ≤ 16 → vecB ((vecN l).take k) = l.take (8 * k)
  | 0, _ => by simp [vecB]
  | k + 1, h => by
    have hk : k < (vecN l).length := by rw [vecN_length]; omega
    rw [vecB_take _ k hk, vecB_to l hl k (by omega), vecN_get _ _ hk, beB_beN 8 _ (by rw [List.length_take, List.length_drop]; omega), ← List.take_add, Nat.mul_succ]
theorem vecB_vecN (l : List UInt8) (hl : 128 ≤ l.length) : vecB (vecN l) = l.take 128 := by
  have := vecB_to l hl 16 (Nat.le_refl _)
  rwa [List.take_of_length_le (by rw [vecN_length]; omega)] at this
theorem curB_iff (s : List UInt8) (d : ByteArray) (l : List UInt8) (hl : l.length = 160) : curB s d (vecN l) = l ↔ l.drop 128 = codeN s (cuT d (l.take 128)) := by
  unfold curB
  rw [vecB_vecN l (by omega)]
  constructor
  · intro h
    have h2 : l.take 128 ++ codeN s (cuT d (l.take 128)) = l.take 128 ++ l.drop 128 := by rw [List.take_append_drop]; exact h
    exact (List.append_cancel_left h2).symm
  · intro h
    rw [← h, List.take_append_drop]
theorem conv_w {w : World} {v : Value} {l : List UInt8} {t : ByteArray} (h : Sl w v l) (e : (⟨l.toArray⟩ : ByteArray) = t) : (convert 22 9 v).run Tryd.prog w = .ok (.string t) w := by
  rw [← e]; exact h.conv Tryd.underlying22 Tryd.underlying5 Tryd.underlying9
theorem str_ne {a b : List UInt8} {x y : ByteArray} (hx : (⟨a.toArray⟩ : ByteArray) = x) (hy : (⟨b.toArray⟩ : ByteArray) = y) : (x.toList == y.toList) = decide (a = b) := by
  subst hx hy
  rw [Bool.eq_iff_iff, beq_iff_eq, decide_eq_true_iff, ByteArray.toList_eq, ByteArray.toList_eq]
/-- Where Of stands ahead of its test. -/
structure Oz (w W : World) (sv : Value) (s : List UInt8) (pv : Value) (p : List UInt8) (gv : Nat) (V : List Nat) : Prop where
  rr : Blk W w.heap.size 25 (uqs (z16 0 0))
  ss : Sl W sv s
  pp : Sl W pv p
  vv : Blk W gv 25 (uqs V)
  bb : Below w.heap.size w W
  len : V.length = 16
theorem Oz.below {w W W' : World} {sv pv : Value} {s p : List UInt8} {gv : Nat} {V : List Nat} (h : Oz w W sv s pv p gv V) (hb : Below W.heap.size W W') : Oz w W' sv s pv p gv V :=
  ⟨h.rr.below hb h.rr.lt, h.ss.below hb, h.pp.below hb, h.vv.below hb h.vv.lt, h.bb.trans (hb.mono h.bb.size), h.len⟩

set_option maxHeartbeats 4000000 in
theorem rof_any (sv : Value) (s : List UInt8) (d : ByteArray) (v : Value) (l : List UInt8) (w : World) (hs : Sl w sv s) (hv : Sl w v l) (hl : s.length ≤ 300) :
    Calls Tryd.prog 13 #[sv, .string d, v] w fun e w' => e = .returned (.tuple #[.agg (uqs (curOf s d l).1), .int .i64 (curOf s d l).2]) ∧ Below w.heap.size w w' := by
  have hfo : Tryd.prog.follows .mixedOrders = true := by kernel_rfl
  have hB0 := Blk.new w 25 (uqs (z16 0 0))
  have hb0 : Below w.heap.size w (w.alloc (.cells (uqs (z16 0 0)) 25)) := (Below.refl _ _).alloc (Nat.le_refl _) _
  obtain ⟨A0, n0, c0, rfl⟩ := hs.shape
  obtain ⟨A, n, c, rfl⟩ := hv.shape
  obtain rfl := hv.len
  cases hN : nameB d
  · have E := Lib.hid (show curOf s d l = (z16 0 0, 2) by unfold curOf; rw [if_pos hN])
    go_enter Tryd.func13, Tryd.ntmps13
    go_upto_region 1 with fail
    change Code.wp _ _ _ _ (w.alloc (.cells (uqs (z16 0 0)) 25))
    generalize w.alloc (.cells (uqs (z16 0 0)) 25) = W0 at hB0 hb0 ⊢
    go_wp2_with (first | (go_at_call 8; refine (rmayName_any _ _).mono ?_; rintro e wd ⟨rfl, hwd⟩; obtain rfl := hwd.symm; rw [hN]) | (refine wpList_store_mid rfl 25 _ _ rfl w.heap.size 0 (uqs (z16 0 0)) rfl rfl hB0.there (uqs_info (U := z16 0 0) rfl) (uqs_one _) ?_; try simp only [Act.put, List.setIfInBounds_toArray, List.set_cons_zero, List.set_cons_succ]))
    have hE := hB0.setRow (ds := uqs (z16 0 0)) rfl
    have hbE := Below.only hb0 (grown_setCells w.heap.size (uqs (z16 0 0)).toList 0 W0) (Nat.le_refl _) hb0.size
    exact bodyPost_ret (v := .tuple #[.agg (uqs (z16 0 0)), .int .i64 2]) (results_row_tmp rfl _ _ w.heap.size 25 (uqs (z16 0 0)) (0, 0) _ _ rfl rfl hE Tryd.underlying25 rfl (uqs_info (U := z16 0 0) rfl)) rfl ⟨by rw [E.out], hbE⟩
  by_cases h0 : l = []
  · have E := Lib.hid (show curOf s d l = (z16 0 0, 0) by unfold curOf; rw [if_neg (by rw [hN]; simp), if_pos h0])
    have hli : (l.length : Int) = 0 := by rw [h0]; rfl
    have hli2 : ((l.length : Int) == 0) = true := by rw [hli]; rfl
    go_enter Tryd.func13, Tryd.ntmps13
    go_upto_region 1 with fail
    change Code.wp _ _ _ _ (w.alloc (.cells (uqs (z16 0 0)) 25))
    generalize w.alloc (.cells (uqs (z16 0 0)) 25) = W0 at hB0 hb0 ⊢
    go_wp2_with (first | (go_at_call 8; refine (rmayName_any _ _).mono ?_; rintro e wd ⟨rfl, hwd⟩; obtain rfl := hwd.symm; rw [hN]) | (refine wpList_store_mid rfl 25 _ _ rfl w.heap.size 0 (uqs (z16 0 0)) rfl rfl hB0.there (uqs_info (U := z16 0 0) rfl) (uqs_one _) ?_; try simp only [Act.put, List.setIfInBounds_toArray, List.set_cons_zero, List.set_cons_succ]))
    have hE := hB0.setRow (ds := uqs (z16 0 0)) rfl
    have hbE := Below.only hb0 (grown_setCells w.heap.size (uqs (z16 0 0)).toList 0 W0) (Nat.le_refl _) hb0.size
    exact bodyPost_ret (v := .tuple #[.agg (uqs (z16 0 0)), .int .i64 0]) (results_row_tmp rfl _ _ w.heap.size 25 (uqs (z16 0 0)) (0, 0) _ _ rfl rfl hE Tryd.underlying25 rfl (uqs_info (U := z16 0 0) rfl)) rfl ⟨by rw [E.out], hbE⟩
  have hne : ((l.length : Int) == 0) = false := by
    rw [beq_eq_false_iff_ne]
    intro h
    exact h0 (List.eq_nil_of_length_eq_zero (by omega))
  by_cases h160 : l.length = 160
  · have hn1 : ((l.length : Int) != 160) = false := by rw [h160]; rfl
    obtain ⟨bb, o, rfl, hcc⟩ := (show ∃ b o, A = some ⟨b, o, none⟩ ∧ 160 ≤ c by
      obtain ⟨A9, c9, e9, hc9, ha⟩ := hv
      injection e9 with e1 e2 e3
      obtain ⟨b, o, hA, _⟩ := ha (by omega)
      exact ⟨b, o, e1.trans hA, by omega⟩)
    have HS := Lib.hid (show curOf s d l = if (∀ n ∈ vecN (l.take 128), n ≤ top) ∧ l.drop 128 = codeN s (cuT d (l.take 128)) then (vecN (l.take 128), 0) else (z16 0 0, 9) by unfold curOf; rw [if_neg (by rw [hN]; simp), if_neg h0, if_neg (by simp [h160])])
    obtain ⟨ov, hov⟩ : ∃ ov, ov = curOf s d l := ⟨_, rfl⟩
    rw [← hov]
    have HOV := Lib.hid hov
    clear hov
    have hCI := Lib.hid (curB_iff s d l h160)
    go_enter Tryd.func13, Tryd.ntmps13
    go_upto_region 1 with fail
    change Code.wp _ _ _ _ (w.alloc (.cells (uqs (z16 0 0)) 25))
    generalize w.alloc (.cells (uqs (z16 0 0)) 25) = W0 at hB0 hb0 ⊢
    clear h0
    have HSS := Lib.hid hs
    have HVV := Lib.hid hv
    clear hs hv
    have H160 := Lib.hid h160
    go_upto_region 7 with (first | (go_at_call 8; refine (rmayName_any _ _).mono ?_; rintro e wd ⟨rfl, hwd⟩; obtain rfl := hwd.symm; rw [hN]))
    try rw [h160]
    clear hn1 hne
    go_upto_region 8 with fail
    have b2 := hB0.alloc (.cells (uqs (z16 0 0)) 25)
    have c2 := Blk.new W0 25 (uqs (z16 0 0))
    have d2 := hb0.alloc hb0.size (.cells (uqs (z16 0 0)) 25)
    have hlt2 := hB0.lt
    change Code.wp _ _ _ _ (W0.alloc (.cells (uqs (z16 0 0)) 25))
    generalize W0.alloc (.cells (uqs (z16 0 0)) 25) = W1 at b2 c2 d2 ⊢
    generalize W0.heap.size = gv at c2 hlt2 ⊢
    clear hB0 hb0
    have hcl160 : (160 : Int) ≤ (c : Int) := by omega
    go_wp2_with fail
    go_loopw [9] (fun z wr => ∃ (k : Nat) (C : Array Value), k ≤ 16 ∧ z = .int .i64 (k : Int) ∧ Blk wr gv 25 C ∧ VecTo l k C ∧ Blk wr w.heap.size 25 (uqs (z16 0 0)) ∧ Below w.heap.size w wr) (fun z _ => 16 - (intOf z).toNat)
    case atStart => exact ⟨0, _, Nat.zero_le _, rfl, c2, zeros_to l, b2, d2⟩
    case round =>
      clear b2 c2 d2
      obtain ⟨k, C, hk, rfl, hB, hC, hR, hbw⟩ := hrel
      by_cases hlt : k < 16
      · have hsz := hC.1
        have hfr := hB.frozen k
        have hcell : wr.cell? ⟨gv, k, none⟩ = some C[k] := by rw [hB.cell]; exact Array.getElem?_eq_getElem (by omega)
        have hs2 : Sl wr (.slice (some ⟨bb, o + 8 * k, none⟩) 8 (c - 8 * k)) ((l.drop (8 * k)).take 8) := (show Sl wr (.slice (some ⟨bb, o, none⟩) 160 c) l by rw [← H160.out]; exact HVV.out.below hbw).mid (8 * k) 8 _ (by omega) (by omega)
        have hcne : ¬ c = 8 * k := by omega
        have hstep := Lib.hid (hC.step hlt)
        have HH := Lib.hid (show k < 16 from hlt)
        go_wp2_with fail
        try rw [show 8 * (k + 1) - 8 * k = 8 from by omega]
        refine (refGet_any _ ((l.drop (8 * k)).take 8) _ hs2 (by rw [List.length_take]; omega)).mono ?_
        rintro e w' ⟨rfl, hww⟩
        subst hww
        go_wp2
        exact ⟨⟨k + 1, _, by omega, by go_num, hB.set_ k _, hstep.out, hR.far (by show ¬ _; simp; omega) _, Below.only hbw (grown_setCell _ _ _ _) (by omega) hbw.size⟩, by simp [intOf]; omega⟩
      · obtain rfl : k = 16 := by omega
        have hVC := hC.done
        obtain rfl := vec_uqs hVC
        have hvl := hVC.lt
        have hlen := hVC.len
        go_upto_region 12 with fail
        obtain ⟨ls, hls0⟩ : ∃ t : ByteArray, (⟨l.toArray⟩ : ByteArray) = t := ⟨_, rfl⟩
        obtain ⟨bs, hbs0⟩ : ∃ t : ByteArray, (⟨(curB s d (vecN l)).toArray⟩ : ByteArray) = t := ⟨_, rfl⟩
        have hcmp : (bs.toList == ls.toList) = decide (curB s d (vecN l) = l) := str_ne hbs0 hls0
        have hls := Lib.hid hls0
        have hbs := Lib.hid hbs0
        have HS2 := Lib.hid (show ov = if (∀ n ∈ vecN l, n ≤ top) ∧ curB s d (vecN l) = l then (vecN l, 0) else (z16 0 0, 9) by
          rw [HOV.out, HS.out, vecN_take]
          exact ite_iff (and_congr Iff.rfl hCI.out.symm) _ _)
        clear hls0 hbs0 hVC hC HS HOV hCI
        obtain ⟨pq, hpq⟩ : ∃ p, p = decide (curB s d (vecN l) = l) := ⟨_, rfl⟩
        rw [← hpq] at hcmp
        have HPQ := Lib.hid hpq
        clear hpq
        generalize vecN l = V at *
        have J : Oz w wr _ s _ l gv V := ⟨hR, HSS.out.below hbw, (show Sl wr (.slice (some ⟨bb, o, none⟩) 160 c) l by rw [← H160.out]; exact HVV.out.below hbw), hB, hbw, hlen⟩
        have hMc := fun W => r10may_any V W hlen
        have HVL := Lib.hid hvl
        obtain ⟨W9, hW9⟩ : ∃ X, X = wr := ⟨_, rfl⟩
        subst hW9
        clear hR hB hbw
        cases hM : decide (∀ n ∈ V, n ≤ top)
        · rw [hM] at hMc
          have E := Lib.hid (show ov = (z16 0 0, 9) by rw [HS2.out, if_neg (fun h => by have := of_decide_eq_false hM; exact this h.1)])
          clear HS2 hM
          refine wp_region_held_drew (S := fun X => Below W9.heap.size W9 X) hfo (Below.refl _ _).drew (fun hS0 => ?_)
          have KD := J.below (show Below W9.heap.size W9 W9.drew from (Below.refl _ _).drew)
          generalize W9.drew = Z0 at hS0 KD ⊢
          refine' wpAnyH_take (i := 0) (oi := ⟨some 36, _, _, _, _, _⟩) (v := .agg (uqs V)) rfl (by kernel_rfl) (by kernel_rfl) (by kernel_rfl) (fun _ _ _ h => h) (Or.inl ⟨by rfl, ?y0f⟩) hS0 ?r0f
          case y0f =>
            intro w' hSw
            have hld := run_loadAt_mid (P := Tryd.prog) w' gv 0 25 (uqs V).toList _ (uqs_range (J.vv.below hSw J.vv.lt)) Tryd.underlying25 rfl (by rw [Array.length_toList]; exact uqs_info J.len)
            rw [Array.toArray_toList] at hld
            exact run_exec_load _ _ _ _ rfl _ _ rfl _ hld
          try simp only [Act.put, List.setIfInBounds_toArray, List.set_cons_zero, List.set_cons_succ]
          refine held_one (i := 1) (by kernel_rfl) rfl (fun Kf hK => ?_)
          go_simp
          refine (hMc Z0).mono ?_
          rintro e Z1 ⟨rfl, hg1⟩
          have hS1 := hS0.trans (hg1.below.mono hS0.size)
          have K1 := KD.below hg1.below
          refine hK.out _ _ hS1 (fun _ => ?_)
          clear hK Kf
          try simp only [Act.put, List.setIfInBounds_toArray, List.set_cons_zero, List.set_cons_succ]
          refine' wpAnyH_take (i := 2) (oi := ⟨some 38, _, _, _, _, _⟩) (v := _) rfl (by kernel_rfl) (by kernel_rfl) (by kernel_rfl) (fun _ _ _ h => h) (Or.inl ⟨by rfl, ?y2f⟩) hS1 ?r2f
          case y2f => (intro w' hSw; go_simp; try rfl)
          try simp only [Act.put, List.setIfInBounds_toArray, List.set_cons_zero, List.set_cons_succ]
          refine' wpAnyH_take (i := 3) (oi := ⟨some 39, _, _, _, _, _⟩) (v := _) rfl (by kernel_rfl) (by kernel_rfl) (by kernel_rfl) (fun _ _ _ h => h) (Or.inl ⟨by rfl, ?y3f⟩) hS1 ?r3f
          case y3f => (intro w' hSw; go_simp; try rfl)
          try simp only [Act.put, List.setIfInBounds_toArray, List.set_cons_zero, List.set_cons_succ]
          refine' wpAnyH_take (i := 4) (oi := ⟨some 40, _, _, _, _, _⟩) (v := undef) rfl (by kernel_rfl) (by kernel_rfl) (by kernel_rfl) (fun _ _ _ h => h) (Or.inr ⟨by rfl, rfl⟩) hS1 ?r4f
          try simp only [Act.put, List.setIfInBounds_toArray, List.set_cons_zero, List.set_cons_succ]
          refine' wpAnyH_take (i := 5) (oi := ⟨some 41, _, _, _, _, _⟩) (v := undef) rfl (by kernel_rfl) (by kernel_rfl) (by kernel_rfl) (fun _ _ _ h => h) (Or.inr ⟨by rfl, rfl⟩) hS1 ?r5f
          try simp only [Act.put, List.setIfInBounds_toArray, List.set_cons_zero, List.set_cons_succ]
          refine' wpAnyH_take (i := 6) (oi := ⟨some 42, _, _, _, _, _⟩) (v := undef) rfl (by kernel_rfl) (by kernel_rfl) (by kernel_rfl) (fun _ _ _ h => h) (Or.inr ⟨by rfl, rfl⟩) hS1 ?r6f
          try simp only [Act.put, List.setIfInBounds_toArray, List.set_cons_zero, List.set_cons_succ]
          refine' wpAnyH_take (i := 7) (oi := ⟨some 43, _, _, _, _, _⟩) (v := undef) rfl (by kernel_rfl) (by kernel_rfl) (by kernel_rfl) (fun _ _ _ h => h) (Or.inr ⟨by rfl, rfl⟩) hS1 ?r7f
          try simp only [Act.put, List.setIfInBounds_toArray, List.set_cons_zero, List.set_cons_succ]
          refine' wpAnyH_take (i := 8) (oi := ⟨some 44, _, _, _, _, _⟩) (v := undef) rfl (by kernel_rfl) (by kernel_rfl) (by kernel_rfl) (fun _ _ _ h => h) (Or.inr ⟨by rfl, rfl⟩) hS1 ?r8f
          try simp only [Act.put, List.setIfInBounds_toArray, List.set_cons_zero, List.set_cons_succ]
          refine' wpAnyH_take (i := 9) (oi := ⟨some 45, _, _, _, _, _⟩) (v := undef) rfl (by kernel_rfl) (by kernel_rfl) (by kernel_rfl) (fun _ _ _ h => h) (Or.inr ⟨by rfl, rfl⟩) hS1 ?r9f
          try simp only [Act.put, List.setIfInBounds_toArray, List.set_cons_zero, List.set_cons_succ]
          refine' wpAnyH_take (i := 10) (oi := ⟨some 46, _, _, _, _, _⟩) (v := undef) rfl (by kernel_rfl) (by kernel_rfl) (by kernel_rfl) (fun _ _ _ h => h) (Or.inr ⟨by rfl, rfl⟩) hS1 ?r10f
          try simp only [Act.put, List.setIfInBounds_toArray, List.set_cons_zero, List.set_cons_succ]
          refine' wpAnyH_take (i := 11) (oi := ⟨some 47, _, _, _, _, _⟩) (v := undef) rfl (by kernel_rfl) (by kernel_rfl) (by kernel_rfl) (fun _ _ _ h => h) (Or.inr ⟨by rfl, rfl⟩) hS1 ?r11f
          try simp only [Act.put, List.setIfInBounds_toArray, List.set_cons_zero, List.set_cons_succ]
          refine' wpAnyH_take (i := 12) (oi := ⟨some 48, _, _, _, _, _⟩) (v := _) rfl (by kernel_rfl) (by kernel_rfl) (by kernel_rfl) (fun _ _ _ h => h) (Or.inl ⟨by rfl, ?y12f⟩) hS1 ?r12f
          case y12f => (intro w' hSw; go_simp; try rfl)
          try simp only [Act.put, List.setIfInBounds_toArray, List.set_cons_zero, List.set_cons_succ]
          refine wpAnyH_done (by kernel_rfl) ?_ _
          go_upto_region 13 with fail
          go_wp2_with (first | (refine wpList_store_mid rfl 25 _ _ rfl w.heap.size 0 (uqs (z16 0 0)) rfl rfl (by rw [uqs_size, (show (z16 0 0).length = 16 from rfl)]; have := K1.rr.there; rwa [uqs_size] at this) (uqs_info (show (z16 0 0).length = 16 from rfl)) (uqs_one _) ?_; try simp only [Act.put, List.setIfInBounds_toArray, List.set_cons_zero, List.set_cons_succ]))
          have hE := K1.rr.setRow (ds := uqs (z16 0 0)) (by first | rfl | (rw [uqs_size, uqs_size, (show (z16 0 0).length = 16 from rfl)]; rfl))
          have hbE := Below.only K1.bb (grown_setCells w.heap.size (uqs (z16 0 0)).toList 0 Z1) (Nat.le_refl _) K1.bb.size
          exact bodyPost_ret (v := .tuple #[.agg (uqs (z16 0 0)), .int .i64 9]) (results_row_tmp rfl _ _ w.heap.size 25 (uqs (z16 0 0)) (0, 0) _ _ rfl rfl hE Tryd.underlying25 rfl (uqs_info (show (z16 0 0).length = 16 from rfl))) rfl ⟨by rw [E.out], hbE⟩
        · rw [hM] at hMc
          cases pq
          · have E := Lib.hid (show ov = (z16 0 0, 9) by rw [HS2.out, if_neg (fun h => by have := of_decide_eq_false HPQ.out.symm; exact this h.2)])
            clear HS2 hM
            refine wp_region_held_drew (S := fun X => Below W9.heap.size W9 X) hfo (Below.refl _ _).drew (fun hS0 => ?_)
            have KD := J.below (show Below W9.heap.size W9 W9.drew from (Below.refl _ _).drew)
            generalize W9.drew = Z0 at hS0 KD ⊢
            refine' wpAnyH_take (i := 0) (oi := ⟨some 36, _, _, _, _, _⟩) (v := .agg (uqs V)) rfl (by kernel_rfl) (by kernel_rfl) (by kernel_rfl) (fun _ _ _ h => h) (Or.inl ⟨by rfl, ?y0t⟩) hS0 ?r0t
            case y0t =>
              intro w' hSw
              have hld := run_loadAt_mid (P := Tryd.prog) w' gv 0 25 (uqs V).toList _ (uqs_range (J.vv.below hSw J.vv.lt)) Tryd.underlying25 rfl (by rw [Array.length_toList]; exact uqs_info J.len)
              rw [Array.toArray_toList] at hld
              exact run_exec_load _ _ _ _ rfl _ _ rfl _ hld
            try simp only [Act.put, List.setIfInBounds_toArray, List.set_cons_zero, List.set_cons_succ]
            refine held_one (i := 1) (by kernel_rfl) rfl (fun Kt hK => ?_)
            go_simp
            refine (hMc Z0).mono ?_
            rintro e Z1 ⟨rfl, hg1⟩
            have hS1 := hS0.trans (hg1.below.mono hS0.size)
            have K1 := KD.below hg1.below
            refine hK.out _ _ hS1 (fun _ => ?_)
            clear hK Kt
            try simp only [Act.put, List.setIfInBounds_toArray, List.set_cons_zero, List.set_cons_succ]
            refine' wpAnyH_take (i := 2) (oi := ⟨some 38, _, _, _, _, _⟩) (v := _) rfl (by kernel_rfl) (by kernel_rfl) (by kernel_rfl) (fun _ _ _ h => h) (Or.inl ⟨by rfl, ?y2t⟩) hS1 ?r2t
            case y2t => (intro w' hSw; go_simp; try rfl)
            try simp only [Act.put, List.setIfInBounds_toArray, List.set_cons_zero, List.set_cons_succ]
            refine' wpAnyH_take (i := 3) (oi := ⟨some 39, _, _, _, _, _⟩) (v := _) rfl (by kernel_rfl) (by kernel_rfl) (by kernel_rfl) (fun _ _ _ h => h) (Or.inl ⟨by rfl, ?y3t⟩) hS1 ?r3t
            case y3t => (intro w' hSw; go_simp; try rfl)
            try simp only [Act.put, List.setIfInBounds_toArray, List.set_cons_zero, List.set_cons_succ]
            refine' wpAnyH_take (i := 4) (oi := ⟨some 40, _, _, _, _, _⟩) (v := _) rfl (by kernel_rfl) (by kernel_rfl) (by kernel_rfl) (fun _ _ _ h => h) (Or.inl ⟨by rfl, ?y4t⟩) hS1 ?r4t
            case y4t => (intro w' hSw; go_simp; try rfl)
            try simp only [Act.put, List.setIfInBounds_toArray, List.set_cons_zero, List.set_cons_succ]
            refine' wpAnyH_take (i := 5) (oi := ⟨some 41, _, _, _, _, _⟩) (v := _) rfl (by kernel_rfl) (by kernel_rfl) (by kernel_rfl) (fun _ _ _ h => h) (Or.inl ⟨by rfl, ?y5t⟩) hS1 ?r5t
            case y5t => (intro w' hSw; go_simp; try rfl)
            try simp only [Act.put, List.setIfInBounds_toArray, List.set_cons_zero, List.set_cons_succ]
            refine' wpAnyH_take (i := 9) (oi := ⟨some 45, _, _, _, _, _⟩) (v := _) rfl (by kernel_rfl) (by kernel_rfl) (by kernel_rfl) (fun _ _ _ h => h) (Or.inl ⟨by rfl, ?y9t⟩) hS1 ?r9t
            case y9t => (intro w' hSw; go_simp; try rfl)
            try simp only [Act.put, List.setIfInBounds_toArray, List.set_cons_zero, List.set_cons_succ]
            refine' wpAnyH_take (i := 6) (oi := ⟨some 42, _, _, _, _, _⟩) (v := .agg (uqs V)) rfl (by kernel_rfl) (by kernel_rfl) (by kernel_rfl) (fun _ _ _ h => h) (Or.inl ⟨by rfl, ?y6t⟩) hS1 ?r6t
            case y6t =>
              intro w' hSw
              have hld := run_loadAt_mid (P := Tryd.prog) w' gv 0 25 (uqs V).toList _ (uqs_range (J.vv.below hSw J.vv.lt)) Tryd.underlying25 rfl (by rw [Array.length_toList]; exact uqs_info J.len)
              rw [Array.toArray_toList] at hld
              exact run_exec_load _ _ _ _ rfl _ _ rfl _ hld
            try simp only [Act.put, List.setIfInBounds_toArray, List.set_cons_zero, List.set_cons_succ]
            have hcv : ∀ X, Below W9.heap.size W9 X → (convert 22 9 (.slice (some ⟨bb, o, none⟩) 160 c)).run Tryd.prog X = .ok (.string ls) X := fun X hX => conv_w (J.pp.below hX) hls.out
            refine' wpAnyH_take (i := 10) (oi := ⟨some 46, _, _, _, _, _⟩) (v := .string ls) rfl (by kernel_rfl) (by kernel_rfl) (by kernel_rfl) (fun _ _ _ h => h) (Or.inl ⟨by rfl, ?y10t⟩) hS1 ?r10t
            case y10t => (intro w' hSw; have hk := hcv w' hSw; go_simp; try rfl)
            try simp only [Act.put, List.setIfInBounds_toArray, List.set_cons_zero, List.set_cons_succ]
            refine held_one (i := 7) (by kernel_rfl) rfl (fun Kt hK => ?_)
            go_simp
            refine (r10bytes_any _ s d V Z1 K1.ss hl J.len hN hvl).mono ?_
            rintro e Z2 ⟨v2, rfl, ho2, hb2⟩
            have hS2 := hS1.trans (hb2.mono hS1.size)
            have K2 := K1.below hb2
            have hcv2 : (convert 22 9 v2).run Tryd.prog Z2 = .ok (.string bs) Z2 := conv_w ho2.sl hbs.out
            refine hK.out _ _ hS2 (fun _ => ?_)
            clear hK Kt
            try simp only [Act.put, List.setIfInBounds_toArray, List.set_cons_zero, List.set_cons_succ]
            refine held_one (i := 8) (by kernel_rfl) rfl (fun Kt hK => ?_)
            go_simp
            try simp only [hcv2]
            go_simp
            refine hK.out _ _ hS2 (fun _ => ?_)
            clear hK Kt
            try simp only [Act.put, List.setIfInBounds_toArray, List.set_cons_zero, List.set_cons_succ]
            refine' wpAnyH_take (i := 11) (oi := ⟨some 47, _, _, _, _, _⟩) (v := _) rfl (by kernel_rfl) (by kernel_rfl) (by kernel_rfl) (fun _ _ _ h => h) (Or.inl ⟨by rfl, ?y11t⟩) hS2 ?r11t
            case y11t => (intro w' hSw; go_simp; try rfl)
            try simp only [Act.put, List.setIfInBounds_toArray, List.set_cons_zero, List.set_cons_succ]
            refine' wpAnyH_take (i := 12) (oi := ⟨some 48, _, _, _, _, _⟩) (v := _) rfl (by kernel_rfl) (by kernel_rfl) (by kernel_rfl) (fun _ _ _ h => h) (Or.inl ⟨by rfl, ?y12t⟩) hS2 ?r12t
            case y12t => (intro w' hSw; go_simp; try rfl)
            try simp only [Act.put, List.setIfInBounds_toArray, List.set_cons_zero, List.set_cons_succ]
            refine wpAnyH_done (by kernel_rfl) ?_ _
            go_upto_region 13 with fail
            go_wp2_with (first | (refine wpList_store_mid rfl 25 _ _ rfl w.heap.size 0 (uqs (z16 0 0)) rfl rfl (by rw [uqs_size, (show (z16 0 0).length = 16 from rfl)]; have := K2.rr.there; rwa [uqs_size] at this) (uqs_info (show (z16 0 0).length = 16 from rfl)) (uqs_one _) ?_; try simp only [Act.put, List.setIfInBounds_toArray, List.set_cons_zero, List.set_cons_succ]))
            have hE := K2.rr.setRow (ds := uqs (z16 0 0)) (by first | rfl | (rw [uqs_size, uqs_size, (show (z16 0 0).length = 16 from rfl)]; rfl))
            have hbE := Below.only K2.bb (grown_setCells w.heap.size (uqs (z16 0 0)).toList 0 Z2) (Nat.le_refl _) K2.bb.size
            exact bodyPost_ret (v := .tuple #[.agg (uqs (z16 0 0)), .int .i64 9]) (results_row_tmp rfl _ _ w.heap.size 25 (uqs (z16 0 0)) (0, 0) _ _ rfl rfl hE Tryd.underlying25 rfl (uqs_info (show (z16 0 0).length = 16 from rfl))) rfl ⟨by rw [E.out], hbE⟩
          · have E := Lib.hid (show ov = (V, 0) by rw [HS2.out, if_pos ⟨of_decide_eq_true hM, of_decide_eq_true HPQ.out.symm⟩])
            clear HS2 hM
            refine wp_region_held_drew (S := fun X => Below W9.heap.size W9 X) hfo (Below.refl _ _).drew (fun hS0 => ?_)
            have KD := J.below (show Below W9.heap.size W9 W9.drew from (Below.refl _ _).drew)
            generalize W9.drew = Z0 at hS0 KD ⊢
            refine' wpAnyH_take (i := 0) (oi := ⟨some 36, _, _, _, _, _⟩) (v := .agg (uqs V)) rfl (by kernel_rfl) (by kernel_rfl) (by kernel_rfl) (fun _ _ _ h => h) (Or.inl ⟨by rfl, ?y0u⟩) hS0 ?r0u
            case y0u =>
              intro w' hSw
              have hld := run_loadAt_mid (P := Tryd.prog) w' gv 0 25 (uqs V).toList _ (uqs_range (J.vv.below hSw J.vv.lt)) Tryd.underlying25 rfl (by rw [Array.length_toList]; exact uqs_info J.len)
              rw [Array.toArray_toList] at hld
              exact run_exec_load _ _ _ _ rfl _ _ rfl _ hld
            try simp only [Act.put, List.setIfInBounds_toArray, List.set_cons_zero, List.set_cons_succ]
            refine held_one (i := 1) (by kernel_rfl) rfl (fun Ku hK => ?_)
            go_simp
            refine (hMc Z0).mono ?_
            rintro e Z1 ⟨rfl, hg1⟩
            have hS1 := hS0.trans (hg1.below.mono hS0.size)
            have K1 := KD.below hg1.below
            refine hK.out _ _ hS1 (fun _ => ?_)
            clear hK Ku
            try simp only [Act.put, List.setIfInBounds_toArray, List.set_cons_zero, List.set_cons_succ]
            refine' wpAnyH_take (i := 2) (oi := ⟨some 38, _, _, _, _, _⟩) (v := _) rfl (by kernel_rfl) (by kernel_rfl) (by kernel_rfl) (fun _ _ _ h => h) (Or.inl ⟨by rfl, ?y2u⟩) hS1 ?r2u
            case y2u => (intro w' hSw; go_simp; try rfl)
            try simp only [Act.put, List.setIfInBounds_toArray, List.set_cons_zero, List.set_cons_succ]
            refine' wpAnyH_take (i := 3) (oi := ⟨some 39, _, _, _, _, _⟩) (v := _) rfl (by kernel_rfl) (by kernel_rfl) (by kernel_rfl) (fun _ _ _ h => h) (Or.inl ⟨by rfl, ?y3u⟩) hS1 ?r3u
            case y3u => (intro w' hSw; go_simp; try rfl)
            try simp only [Act.put, List.setIfInBounds_toArray, List.set_cons_zero, List.set_cons_succ]
            refine' wpAnyH_take (i := 4) (oi := ⟨some 40, _, _, _, _, _⟩) (v := _) rfl (by kernel_rfl) (by kernel_rfl) (by kernel_rfl) (fun _ _ _ h => h) (Or.inl ⟨by rfl, ?y4u⟩) hS1 ?r4u
            case y4u => (intro w' hSw; go_simp; try rfl)
            try simp only [Act.put, List.setIfInBounds_toArray, List.set_cons_zero, List.set_cons_succ]
            refine' wpAnyH_take (i := 5) (oi := ⟨some 41, _, _, _, _, _⟩) (v := _) rfl (by kernel_rfl) (by kernel_rfl) (by kernel_rfl) (fun _ _ _ h => h) (Or.inl ⟨by rfl, ?y5u⟩) hS1 ?r5u
            case y5u => (intro w' hSw; go_simp; try rfl)
            try simp only [Act.put, List.setIfInBounds_toArray, List.set_cons_zero, List.set_cons_succ]
            refine' wpAnyH_take (i := 9) (oi := ⟨some 45, _, _, _, _, _⟩) (v := _) rfl (by kernel_rfl) (by kernel_rfl) (by kernel_rfl) (fun _ _ _ h => h) (Or.inl ⟨by rfl, ?y9u⟩) hS1 ?r9u
            case y9u => (intro w' hSw; go_simp; try rfl)
            try simp only [Act.put, List.setIfInBounds_toArray, List.set_cons_zero, List.set_cons_succ]
            refine' wpAnyH_take (i := 6) (oi := ⟨some 42, _, _, _, _, _⟩) (v := .agg (uqs V)) rfl (by kernel_rfl) (by kernel_rfl) (by kernel_rfl) (fun _ _ _ h => h) (Or.inl ⟨by rfl, ?y6u⟩) hS1 ?r6u
            case y6u =>
              intro w' hSw
              have hld := run_loadAt_mid (P := Tryd.prog) w' gv 0 25 (uqs V).toList _ (uqs_range (J.vv.below hSw J.vv.lt)) Tryd.underlying25 rfl (by rw [Array.length_toList]; exact uqs_info J.len)
              rw [Array.toArray_toList] at hld
              exact run_exec_load _ _ _ _ rfl _ _ rfl _ hld
            try simp only [Act.put, List.setIfInBounds_toArray, List.set_cons_zero, List.set_cons_succ]
            have hcv : ∀ X, Below W9.heap.size W9 X → (convert 22 9 (.slice (some ⟨bb, o, none⟩) 160 c)).run Tryd.prog X = .ok (.string ls) X := fun X hX => conv_w (J.pp.below hX) hls.out
            refine' wpAnyH_take (i := 10) (oi := ⟨some 46, _, _, _, _, _⟩) (v := .string ls) rfl (by kernel_rfl) (by kernel_rfl) (by kernel_rfl) (fun _ _ _ h => h) (Or.inl ⟨by rfl, ?y10u⟩) hS1 ?r10u
            case y10u => (intro w' hSw; have hk := hcv w' hSw; go_simp; try rfl)
            try simp only [Act.put, List.setIfInBounds_toArray, List.set_cons_zero, List.set_cons_succ]
            refine held_one (i := 7) (by kernel_rfl) rfl (fun Ku hK => ?_)
            go_simp
            refine (r10bytes_any _ s d V Z1 K1.ss hl J.len hN hvl).mono ?_
            rintro e Z2 ⟨v2, rfl, ho2, hb2⟩
            have hS2 := hS1.trans (hb2.mono hS1.size)
            have K2 := K1.below hb2
            have hcv2 : (convert 22 9 v2).run Tryd.prog Z2 = .ok (.string bs) Z2 := conv_w ho2.sl hbs.out
            refine hK.out _ _ hS2 (fun _ => ?_)
            clear hK Ku
            try simp only [Act.put, List.setIfInBounds_toArray, List.set_cons_zero, List.set_cons_succ]
            refine held_one (i := 8) (by kernel_rfl) rfl (fun Ku hK => ?_)
            go_simp
            try simp only [hcv2]
            go_simp
            refine hK.out _ _ hS2 (fun _ => ?_)
            clear hK Ku
            try simp only [Act.put, List.setIfInBounds_toArray, List.set_cons_zero, List.set_cons_succ]
            refine' wpAnyH_take (i := 11) (oi := ⟨some 47, _, _, _, _, _⟩) (v := _) rfl (by kernel_rfl) (by kernel_rfl) (by kernel_rfl) (fun _ _ _ h => h) (Or.inl ⟨by rfl, ?y11u⟩) hS2 ?r11u
            case y11u => (intro w' hSw; go_simp; try rfl)
            try simp only [Act.put, List.setIfInBounds_toArray, List.set_cons_zero, List.set_cons_succ]
            refine' wpAnyH_take (i := 12) (oi := ⟨some 48, _, _, _, _, _⟩) (v := _) rfl (by kernel_rfl) (by kernel_rfl) (by kernel_rfl) (fun _ _ _ h => h) (Or.inl ⟨by rfl, ?y12u⟩) hS2 ?r12u
            case y12u => (intro w' hSw; go_simp; try rfl)
            try simp only [Act.put, List.setIfInBounds_toArray, List.set_cons_zero, List.set_cons_succ]
            refine wpAnyH_done (by kernel_rfl) ?_ _
            go_upto_region 14 with fail
            go_wp2_with (first | (refine wpList_load_mid_g (by rfl) 25 _ rfl gv 0 rfl (uqs V) _ (uqs_range K2.vv) Tryd.underlying25 rfl (uqs_info J.len) ?_; try simp only [Act.put, List.setIfInBounds_toArray, List.set_cons_zero, List.set_cons_succ]) | (refine wpList_store_mid rfl 25 _ _ rfl w.heap.size 0 (uqs V) rfl rfl (by rw [uqs_size, J.len]; have := K2.rr.there; rwa [uqs_size] at this) (uqs_info J.len) (uqs_one _) ?_; try simp only [Act.put, List.setIfInBounds_toArray, List.set_cons_zero, List.set_cons_succ]))
            have hE := K2.rr.setRow (ds := uqs V) (by first | rfl | (rw [uqs_size, uqs_size, J.len]; rfl))
            have hbE := Below.only K2.bb (grown_setCells w.heap.size (uqs V).toList 0 Z2) (Nat.le_refl _) K2.bb.size
            exact bodyPost_ret (v := .tuple #[.agg (uqs V), .int .i64 0]) (results_row_tmp rfl _ _ w.heap.size 25 (uqs V) (0, 0) _ _ rfl rfl hE Tryd.underlying25 rfl (uqs_info J.len)) rfl ⟨by rw [E.out], hbE⟩
  · have E := Lib.hid (show curOf s d l = (z16 0 0, 9) by unfold curOf; rw [if_neg (by rw [hN]; simp), if_neg h0, if_pos h160])
    have hn1 : ((l.length : Int) != 160) = true := by rw [bne_iff_ne]; omega
    go_enter Tryd.func13, Tryd.ntmps13
    go_upto_region 1 with fail
    change Code.wp _ _ _ _ (w.alloc (.cells (uqs (z16 0 0)) 25))
    generalize w.alloc (.cells (uqs (z16 0 0)) 25) = W0 at hB0 hb0 ⊢
    go_wp2_with (first | (go_at_call 8; refine (rmayName_any _ _).mono ?_; rintro e wd ⟨rfl, hwd⟩; obtain rfl := hwd.symm; rw [hN]) | (refine wpList_store_mid rfl 25 _ _ rfl w.heap.size 0 (uqs (z16 0 0)) rfl rfl hB0.there (uqs_info (U := z16 0 0) rfl) (uqs_one _) ?_; try simp only [Act.put, List.setIfInBounds_toArray, List.set_cons_zero, List.set_cons_succ]))
    have hE := hB0.setRow (ds := uqs (z16 0 0)) rfl
    have hbE := Below.only hb0 (grown_setCells w.heap.size (uqs (z16 0 0)).toList 0 W0) (Nat.le_refl _) hb0.size
    exact bodyPost_ret (v := .tuple #[.agg (uqs (z16 0 0)), .int .i64 9]) (results_row_tmp rfl _ _ w.heap.size 25 (uqs (z16 0 0)) (0, 0) _ _ rfl rfl hE Tryd.underlying25 rfl (uqs_info (U := z16 0 0) rfl)) rfl ⟨by rw [E.out], hbE⟩
end Go.Proofs.YthlopecllhdmhaaDoor

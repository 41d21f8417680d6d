/-
  The walk of the document's Sum.
-/
import Derived.Test.YthlopecllhdmhaaDoorShaRefPressW
import Derived.Test.YthlopecllhdmhaaDoorShaBegun
import Derived.StillTailTactics
namespace Go.Proofs.YthlopecllhdmhaaDoor
open Go.RowKit
set_option linter.unusedVariables false
set_option linter.unusedSimpArgs false

theorem slu_of {w : World} {gk o cK : Nat} (h : ∀ j, j < 64 → w.cell? ⟨gk, o + j, none⟩ = some (.int .u32 (kAt j : Int))) (hc : 64 ≤ cK) : Slu w (.slice (some ⟨gk, o, none⟩) 64 cK) shaK := by
  refine ⟨_, _, rfl, hc, fun _ => ⟨gk, o, rfl, fun j hj => ?_⟩⟩
  have h64 : j < 64 := hj
  rw [h j h64, kAt, List.getD_eq_getElem?_getD, List.getElem?_eq_getElem hj]; rfl
theorem slu_to {w : World} {v : Value} (h : Slu w v shaK) : ∃ gk o cK, v = .slice (some ⟨gk, o, none⟩) 64 cK ∧ 64 ≤ cK ∧ ∀ j, j < 64 → w.cell? ⟨gk, o + j, none⟩ = some (.int .u32 (kAt j : Int)) := by
  obtain ⟨A, c, rfl, hc, ha⟩ := h
  obtain ⟨b, o, rfl, hx⟩ := ha (by decide)
  refine ⟨b, o, c, rfl, hc, fun j hj => ?_⟩
  have hj2 : j < shaK.length := hj
  rw [hx j hj2, kAt, List.getD_eq_getElem?_getD, List.getElem?_eq_getElem hj2]; rfl

set_option maxHeartbeats 4000000 in
theorem refSum_any (v : Value) (m : List UInt8) (w : World) (hs : Sl w v m) (hl : m.length ≤ 1000000) :
    Calls Tryd.prog 36 #[v] w fun e w' => e = .returned (.agg (rowB (shaN m))) ∧ Below w.heap.size w w' := by
  have hB := Blk.new w 45 (rowB (List.replicate 32 0))
  have hbw : Below w.heap.size w (w.alloc (.cells (rowB (List.replicate 32 0)) 45)) := (Below.refl _ _).alloc (Nat.le_refl _) _
  have hZ : (rowB (List.replicate 32 0)).size = 32 := by rw [rowB_size, List.length_replicate]
  have hri := shaS.row_info
  have hr1 := shaS.row_one
  have hrz := shaS.row_size
  go_enter Tryd.func36, Tryd.ntmps36
  go_upto_region 1 with (fail)
  change Code.wp _ _ _ _ (w.alloc (.cells (rowB (List.replicate 32 0)) 45))
  replace hs := hs.below hbw
  generalize w.alloc (.cells (rowB (List.replicate 32 0)) 45) = W0 at hB hbw hs ⊢
  generalize rowB (List.replicate 32 0) = Z at hB hZ
  have begun' := begun_any W0
  generalize hR : shaS.row = R at hri hr1 hrz begun'
  have ER := Lib.hid hR
  clear hR
  go_wp2_with fail
  refine begun'.mono ?_
  rintro e w1 ⟨vk, rfl, hok, hb1⟩
  clear begun'
  obtain ⟨gk, ok_, cK, rfl, hcK, hkc⟩ := slu_to hok.slu
  have hgk : gk < w1.heap.size := World.block_lt_of_cell? w1 _ (hkc 0 (by decide))
  replace hs := hs.below hb1
  replace hB := hB.below hb1 hB.lt
  replace hbw := hbw.trans (hb1.mono hbw.size)
  clear hok hb1
  have hN := Blk.new w1 73 (rowU (List.replicate 8 0))
  have hth : (w1.alloc (.cells (rowU (List.replicate 8 0)) 73)).there w1.heap.size 0 R.size := by rw [hrz]; exact hN.there
  go_upto_region 2 with (refine wpList_store_mid rfl 73 _ _ rfl w1.heap.size 0 R rfl rfl hth hri hr1 ?_)
  change Code.wp _ _ _ _ ((w1.alloc (.cells (rowU (List.replicate 8 0)) 73)).setCells w1.heap.size 0 R.toList)
  have hE := hN.setRow (ds := R) (by rw [hrz]; rfl)
  have hbN : Below w1.heap.size w1 ((w1.alloc (.cells (rowU (List.replicate 8 0)) 73)).setCells w1.heap.size 0 R.toList) := Below.only ((Below.refl _ _).alloc (Nat.le_refl _) _) (grown_setCells _ _ _ _) (Nat.le_refl _) (by simp)
  replace hs := hs.below hbN
  have hlt : w.heap.size < w1.heap.size := hB.lt
  replace hB := hB.below hbN hB.lt
  replace hbw := hbw.trans (hbN.mono hbw.size)
  replace hkc : ∀ j, j < 64 → ((w1.alloc (.cells (rowU (List.replicate 8 0)) 73)).setCells w1.heap.size 0 R.toList).cell? ⟨gk, ok_ + j, none⟩ = some (.int .u32 (kAt j : Int)) := fun j hj => (hbN.cell hgk).trans (hkc j hj)
  generalize (w1.alloc (.cells (rowU (List.replicate 8 0)) 73)).setCells w1.heap.size 0 R.toList = W2 at hE hs hB hbw hkc ⊢
  clear hth hbN hN
  generalize w1.heap.size = g at hE hlt hgk ⊢
  rw [← ER.out] at hE
  have hgW := hE.lt
  go_wp2_with fail
  refine (refPad_any _ m W2 hs hl).mono ?_
  rintro e w3 ⟨v3, rfl, ho, hb3⟩
  have hsg := ho.sg (g := g) (.inr hgW)
  replace hE := hE.below hb3 hE.lt
  replace hB := hB.below hb3 hB.lt
  replace hbw := hbw.trans (hb3.mono hbw.size)
  replace hkc : ∀ j, j < 64 → w3.cell? ⟨gk, ok_ + j, none⟩ = some (.int .u32 (kAt j : Int)) := fun j hj => (hb3.cell (World.block_lt_of_cell? W2 _ (hkc j hj))).trans (hkc j hj)
  obtain ⟨A3, n3, c3, rfl⟩ := ho.shape
  clear ho hb3 hs
  have hn3 := hsg.sl.len
  have hpl := padN_length m
  have EP := Lib.hid (show shaN m = (pressAll shaS (padN m) ((padN m).length / 64)).bytes from rfl)
  have hc3 : n3 ≤ c3 := by
    obtain ⟨A2, c2, e, hcc, _⟩ := hsg
    injection e with e1 e2 e3
    rw [e2, e3]; exact hcc
  have hlen : (padN m).length ≤ 2000000 := by unfold padN; simp only [List.length_append, List.length_replicate, List.length_singleton, beB_length]; have := zerosN_lt m.length; omega
  generalize padN m = b at hsg hpl EP hn3 hlen
  have HN3 := Lib.hid hn3
  have hn64 : n3 % 64 = 0 := by omega
  have hn3l : n3 ≤ 2000000 := by omega
  clear hn3
  go_wp2
  go_loopw [6] (fun z wr => ∃ k : Nat, 64 * k ≤ n3 ∧ z = .int .i64 ((64 * k : Nat) : Int) ∧ Sg wr g (.slice A3 n3 c3) b ∧ (∀ j, j < 64 → wr.cell? ⟨gk, ok_ + j, none⟩ = some (.int .u32 (kAt j : Int))) ∧ Blk wr g 73 (pressAll shaS b k).row ∧ Blk wr w.heap.size 45 Z ∧ Below w.heap.size w wr) (fun z _ => n3 - (intOf z).toNat)
  case atStart => exact ⟨0, by omega, rfl, hsg, hkc, hE, hB, hbw⟩
  case round =>
    clear hsg hkc hE hB hbw
    obtain ⟨k, hk, rfl, hsg, hkc, hE, hZB, hb⟩ := hrel
    have hq := pressAll_ok shaS_ok b k
    by_cases hm : 64 * k < n3
    · have hm64 : 64 * k + 64 ≤ n3 := by omega
      have hD : Sl wr (.slice (if c3 = 64 * k then A3 else Option.map (fun x => x.add (64 * k)) A3) (n3 - 64 * k) (c3 - 64 * k)) (b.drop (64 * k)) := hsg.sl.behind (64 * k) (by omega) (fun b' o' e hne => by rw [if_neg hne, e, Option.map_some, add_plain]) _ _ rfl rfl
      rw [if_neg (by omega)] at hD
      have hblk := hD.begin 64 (by omega) (c3 - 64 * k) (by omega)
      have hbl : ((b.drop (64 * k)).take 64).length = 64 := by have := HN3.out; rw [List.length_take, List.length_drop]; omega
      have HP := Lib.hid (show pressAll shaS b (k + 1) = pressN (pressAll shaS b k) ((b.drop (64 * k)).take 64) from rfl)
      generalize pressAll shaS b k = q at hE hq HP
      generalize (b.drop (64 * k)).take 64 = blk at hblk hbl HP
      have hqi := q.row_info
      have hqz := q.row_size
      have hR : wr.drew.rangeAt g 0 q.row.toList := fun i v hv => by rw [Nat.zero_add, hE.drew.cell i]; simpa using hv
      have hqi' : (Tryd.prog.info? 73).map (·.size) = some q.row.toList.length := by rw [Array.length_toList]; exact hqi
      have hld := run_loadAt_mid (P := Tryd.prog) wr.drew g 0 73 q.row.toList _ hR Tryd.underlying73 rfl hqi'
      rw [Array.toArray_toList] at hld
      have hE1 := hE.drew
      have hZB1 := hZB.drew
      have hb1 := hb.drew
      have hsg1 : Sg wr.drew g (.slice A3 n3 c3) b := hsg
      have hblk1 : Sl wr.drew (.slice (Option.map (fun x => x.add (64 * k)) A3) 64 (c3 - 64 * k)) blk := hblk
      have hk1 : ∀ j, j < 64 → wr.drew.cell? ⟨gk, ok_ + j, none⟩ = some (.int .u32 (kAt j : Int)) := hkc
      have HK1 := Lib.hid hk1
      clear hE hZB hb hsg hblk hR hqi' hkc hk1 hD
      have HA := Lib.hid (show 64 * (k + 1) = 64 * k + 64 by omega)
      generalize 64 * k = a at hm hm64 hk hblk1 HA ⊢
      have wa : IntKind.i64.wrap ((a : Int) + 64) = ((a + 64 : Nat) : Int) := by rw [IntKind.wrap_i64]; omega
      have hac : a + 64 ≤ c3 := by omega
      have hca : ¬ c3 = a := by omega
      have hsub : a + 64 - a = 64 := by omega
      have i1 : (0 : Int) ≤ (a : Int) := by omega
      have i2 : (a : Int) ≤ (a : Int) + 64 := by omega
      have i3 : (a : Int) + 64 ≤ (c3 : Int) := by omega
      have i4 : ((a : Int) + 64).toNat = a + 64 := by omega
      have i5 : (0 : Int) ≤ (a : Int) + 64 := by omega
      go_wp2
      refine wp_region_still_tail 7 (by kernel_rfl) (by kernel_rfl) ?_
      simp only [List.take_succ_cons, List.take_zero, List.drop_succ_cons, List.drop_zero]
      change wpStill _ _ wr.drew (fun a' => wpList _ _ _ _ a' wr.drew) _ _
      generalize wr.drew = W at hE1 hZB1 hb1 hsg1 hblk1 hld HK1 ⊢
      refine wpStill_load rfl _ _ rfl _ _ rfl hld ?_
      simp only [Act.put, List.setIfInBounds_toArray, List.set_cons_zero, List.set_cons_succ]
      clear hld
      repeat still_step
      refine wpStill_nil ?_
      go_wp2_with fail
      refine (refPress_any q _ _ blk W hblk1 hbl hq (slu_of HK1.out hcK)).mono ?_
      rintro e w2 ⟨rfl, hb2⟩
      rw [← HP.out]
      have hi2 := (pressAll shaS b (k + 1)).row_info
      have h12 := (pressAll shaS b (k + 1)).row_one
      have hz2 := (pressAll shaS b (k + 1)).row_size
      generalize hRR : (pressAll shaS b (k + 1)).row = RR at hi2 h12 hz2 ⊢
      have ERR := Lib.hid hRR
      clear hRR HP
      have hE2 := hE1.below hb2 hE1.lt
      have hth : w2.there g 0 RR.size := by rw [hz2, ← hqz]; exact hE2.there
      have hgr := grown_setCells g RR.toList 0 w2
      have hE3 := Lib.hid (hE2.setRow (ds := RR) (by rw [hz2, hqz]))
      have hsg3 := Lib.hid ((hsg1.below hb2).grown hgr)
      have hZ3 := Lib.hid ((hZB1.below hb2 hZB1.lt).grown hgr (by intro e; injection e with e; omega))
      have hb3 := Lib.hid (Below.only (hb1.trans (hb2.mono hb1.size)) hgr (by omega) (by have := hb1.size; have := hb2.size; omega))
      have hk3 := Lib.hid (show ∀ j, j < 64 → (w2.setCells g 0 RR.toList).cell? ⟨gk, ok_ + j, none⟩ = some (.int .u32 (kAt j : Int)) from fun j hj => hgr.cell ((hb2.cell (World.block_lt_of_cell? W _ (HK1.out j hj))).trans (HK1.out j hj)) (by simp; omega))
      clear hE1 hE2 hsg1 hZB1 hgr hb1 hb2 hblk1
      go_wp2_with (refine wpList_store_mid rfl 73 _ _ rfl g 0 RR rfl rfl hth hi2 h12 ?_)
      go_roundw
      case rel => exact ⟨k + 1, by have := HA.out; omega, by rw [HA.out]; go_num, hsg3.out, hk3.out, by rw [ERR.out]; exact hE3.out, hZ3.out, hb3.out⟩
      case measure => simp [intOf]; omega
    · have hk2 : k = b.length / 64 := by have := HN3.out; omega
      subst hk2
      have EQ := Lib.hid EP.out
      generalize pressAll shaS b (b.length / 64) = q at hE hq EQ
      clear EP hsg hkc
      have hnl : ¬ ((64 * (b.length / 64) : Nat) : Int) < (n3 : Int) := by omega
      have H64 := Lib.hid hm
      generalize 64 * (b.length / 64) = a at hnl H64 hk ⊢
      have hN2 := Blk.new wr 45 (rowB (List.replicate 32 0))
      have hE' := hE.alloc (.cells (rowB (List.replicate 32 0)) 45)
      have hZB' := hZB.alloc (.cells (rowB (List.replicate 32 0)) 45)
      have hb' := hb.alloc hb.size (.cells (rowB (List.replicate 32 0)) 45)
      have hzlt := hZB.lt
      have hglt := hE.lt
      go_upto_region 8 with (fail)
      change Code.wp _ _ _ _ (wr.alloc (.cells (rowB (List.replicate 32 0)) 45))
      generalize wr.alloc (.cells (rowB (List.replicate 32 0)) 45) = W5 at hN2 hE' hZB' hb' ⊢
      clear hE hZB hb hnl hk
      generalize wr.heap.size = gd at hN2 hzlt hglt ⊢
      rw [← fillB_zero q.bytes 32] at hN2
      have hbl := q.bytes_length
      have HC := Lib.hid (fun i (h : i < 8) => rowU_getD (l := q.list) (i := i) h)
      have HY := Lib.hid (bytes_at q)
      go_wp2
      go_loopw [8] (fun z wr => ∃ k : Nat, k ≤ 32 ∧ z = .int .i64 (k : Int) ∧ Blk wr g 73 q.row ∧ Blk wr w.heap.size 45 Z ∧ Blk wr gd 45 (rowB (fillB q.bytes 32 k)) ∧ Below w.heap.size w wr) (fun z _ => 32 - (intOf z).toNat)
      case atStart => exact ⟨0, Nat.zero_le _, rfl, hE', hZB', hN2, hb'⟩
      case round =>
        clear hE' hZB' hN2 hb'
        obtain ⟨k, hk, rfl, hB0, hB1, hB2, hbw⟩ := hrel
        by_cases hlt2 : k < 32
        · have hck : wr.cell? ⟨g, k / 4, none⟩ = some (.int .u32 (q.list.getD (k / 4) 0 : Int)) := by
            rw [hB0.cell]; exact HC.out (k / 4) (by omega)
          have hfr := hB2.frozen k
          have hcz : wr.cell? ⟨gd, k, none⟩ = some (.int .u8 (((fillB q.bytes 32 k)[k]'(by rw [fillB_length _ _ _ hbl (by omega)]; exact hlt2)).toNat : Int)) := by
            rw [hB2.cell, rowB_get _ _ (by rw [fillB_length _ _ _ hbl (by omega)]; exact hlt2)]
          have HB := Lib.hid (HY.out k hlt2)
          have HS := Lib.hid (fillB_set q.bytes 32 k hbl hlt2)
          have k4 : k / 4 ≤ 7 := by omega
          generalize (fillB q.bytes 32 k)[k]'(by rw [fillB_length _ _ _ hbl (by omega)]; exact hlt2) = old at hcz
          generalize q.list.getD (k / 4) 0 = x at hck HB
          go_wp2
          go_roundw
          case rel => exact ⟨k + 1, by omega, by go_num, hB0.far (by simp; omega) _, hB1.far (by simp; omega) _, by rw [← HS.out, HB.out, ← rowB_set _ _ _ _ (shr_hash x (24 - 8 * (k % 4)))]; exact hB2.set_ _ _, hbw.setCell (by simp; omega) _⟩
          case measure => simp [intOf]; omega
        · obtain rfl : k = 32 := by omega
          rw [fillB_done _ _ hbl] at hB2
          have hi2 := rowB_info hbl
          have h12 := rowB_one q.bytes
          have hs2 := rowB_size q.bytes
          rw [hbl] at hs2
          generalize hT : rowB q.bytes = T at hB2 hi2 h12 hs2
          have ET := Lib.hid hT
          clear hT
          have hth : wr.there w.heap.size 0 T.size := by rw [hs2, ← hZ]; exact hB1.there
          go_wp2_with (first | (refine wpList_load_row rfl 45 _ rfl gd rfl 45 T (0, 0) _ hB2 Tryd.underlying45 rfl hi2 ?_) | (refine wpList_store_mid rfl 45 _ _ rfl w.heap.size 0 T rfl rfl hth hi2 h12 ?_))
          have hE : Blk (wr.setCells w.heap.size 0 T.toList) w.heap.size 45 T := hB1.setRow (by rw [hs2, hZ])
          have hgE := grown_setCells w.heap.size T.toList 0 wr
          exact bodyPost_ret (v := .agg T) (results_cell_row rfl _ _ w.heap.size 45 T (0, 0) _ rfl hE Tryd.underlying45 rfl hi2) rfl ⟨by rw [EQ.out, ET.out], Below.only hbw hgE (Nat.le_refl _) hbw.size⟩
end Go.Proofs.YthlopecllhdmhaaDoor

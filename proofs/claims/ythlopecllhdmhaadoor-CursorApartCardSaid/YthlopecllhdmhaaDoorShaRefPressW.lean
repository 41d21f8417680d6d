/-
  The walk of the document's press.
-/
import Derived.Test.YthlopecllhdmhaaDoorShaPressTail
namespace Go.Proofs.YthlopecllhdmhaaDoor
open Go.RowKit
set_option linter.unusedVariables false
set_option linter.unusedSimpArgs false

theorem mixL_zero (s t : St) : mixL s t 0 = s.list := by
  unfold mixL
  simp only [Nat.not_lt_zero, if_false]
  rfl
theorem addN_comm (x y : Nat) : addN x y = addN y x := by unfold addN; rw [Nat.add_comm]
theorem St.add_comm (s t : St) : s.add t = t.add s := by
  unfold St.add
  rw [addN_comm s.a, addN_comm s.b, addN_comm s.c, addN_comm s.d, addN_comm s.e, addN_comm s.f, addN_comm s.g, addN_comm s.h]

set_option maxRecDepth 100000 in
set_option maxHeartbeats 4000000 in
theorem refPress_any (s : St) (v kv : Value) (b : List UInt8) (w : World) (hs : Sl w v b) (hb : b.length = 64) (hok : s.ok) (hk : Slu w kv shaK) :
    Calls Tryd.prog 46 #[.agg s.row, v, kv] w fun e w' => e = .returned (.agg (pressN s b).row) ∧ Below w.heap.size w w' := by
  obtain ⟨i0, hi, hz0, hz1, hz2⟩ := info_parts info_u32'
  obtain ⟨A, n, c, rfl⟩ := hs.shape
  have hn := hs.len
  rw [hb] at hn
  subst hn
  obtain ⟨AK, cK, rfl, hcK, hky⟩ := hk
  obtain ⟨gk, ok_, rfl, hkx⟩ := hky (by decide)
  have HKC := Lib.hid (show ∀ w', Below w.heap.size w w' → ∀ j, j < 64 → w'.cell? ⟨gk, ok_ + j, none⟩ = some (.int .u32 (kAt j : Int)) from fun w' hb j hj => by
    have hj2 : j < shaK.length := hj
    have h1 := hkx j hj2
    rw [hb.cell (World.block_lt_of_cell? w _ h1), h1, kAt, List.getD_eq_getElem?_getD, List.getElem?_eq_getElem hj2]; rfl)
  clear hkx hky
  rw [show shaK.length = 64 from rfl] at hcK ⊢
  have hc64 : 64 ≤ c := by obtain ⟨A9, c9, e9, hc9, _⟩ := hs; injection e9 with e1 e2 e3; omega
  have hri := s.row_info
  have hr1 := s.row_one
  have hrz := s.row_size
  generalize hR : s.row = R at hri hr1 hrz
  have ER := Lib.hid hR
  clear hR
  have hB0 := (Blk.new w 73 R).alloc (.cells (rowU (List.replicate 8 0)) 73)
  have hB1 := Blk.new (w.alloc (.cells R 73)) 73 (rowU (List.replicate 8 0))
  rw [show (w.alloc (.cells R 73)).heap.size = w.heap.size + 1 by simp] at hB1
  have hbw : Below w.heap.size w ((w.alloc (.cells R 73)).alloc (.cells (rowU (List.replicate 8 0)) 73)) := ((Below.refl _ _).alloc (Nat.le_refl _) _).alloc (by simp) _
  have hsz : w.heap.size + 2 ≤ ((w.alloc (.cells R 73)).alloc (.cells (rowU (List.replicate 8 0)) 73)).heap.size := by simp
  have hZ : (rowU (List.replicate 8 0)).size = 8 := rfl
  have HB := Lib.hid hb
  clear hb
  go_enter Tryd.func46, Tryd.ntmps46
  go_upto_region 1 with (fail)
  change Code.wp _ _ _ _ ((w.alloc (.cells R 73)).alloc (.cells (rowU (List.replicate 8 0)) 73))
  generalize (w.alloc (.cells R 73)).alloc (.cells (rowU (List.replicate 8 0)) 73) = W0 at hB0 hB1 hbw hsz ⊢
  generalize rowU (List.replicate 8 0) = Z at hB1 hZ
  go_wp2
  go_loopw [7, 8] (fun x z wr => ∃ k : Nat, k ≤ 16 ∧ z = .int .i64 (k : Int) ∧ OwnU wr (w.heap.size + 2) x ((wordsN b).take k) ∧ Blk wr w.heap.size 73 R ∧ Blk wr (w.heap.size + 1) 73 Z ∧ Below w.heap.size w wr ∧ w.heap.size + 2 ≤ wr.heap.size) (fun _ z _ => 16 - (intOf z).toNat)
  case atStart => exact ⟨0, Nat.zero_le _, rfl, OwnU.nil, hB0, hB1, hbw, hsz⟩
  case round =>
    clear hB0 hB1 hbw hsz
    obtain ⟨k, hk16, rfl, ho, hB0, hB1, hbw, hsz⟩ := hrel
    obtain ⟨A7, n7, c7, rfl⟩ := ho.shape
    have hn7 := ho.slu.len
    rw [List.length_take, wordsN_length] at hn7
    by_cases hlt : k < 16
    · have hsw := hs.below hbw
      have hD : Sl wr (.slice (if c = 4 * k then A else Option.map (fun x => x.add (4 * k)) A) (64 - 4 * k) (c - 4 * k)) (b.drop (4 * k)) := hsw.behind (4 * k) (by omega) (fun b' o' e hne => by rw [if_neg hne, e, Option.map_some, add_plain]) _ _ rfl rfl
      rw [if_neg (by omega)] at hD
      have hT := hD.begin 4 (by omega) (c - 4 * k) (by omega)
      have hl4 : ((b.drop (4 * k)).take 4).length = 4 := by have := HB.out; rw [List.length_take, List.length_drop]; omega
      have HW := Lib.hid (wordsN_take b k hlt)
      have hx32 : beN ((b.drop (4 * k)).take 4) < 4294967296 := by have := beN_lt ((b.drop (4 * k)).take 4); rw [hl4] at this; simpa using this
      have hG := Lib.hid (refGet_any _ _ wr hT (by omega))
      generalize beN ((b.drop (4 * k)).take 4) = x at HW hx32 hG
      have HL := Lib.hid (show ((wordsN b).take k).length ≤ 1000000 by rw [List.length_take]; omega)
      clear hsw hD hT hl4 hn7
      have hxm : IntKind.u32.wrap (x : Int) = (x : Int) := by rw [IntKind.wrap_u32]; omega
      have oA := ho.alloc (.cells #[.int .u32 (x : Int)] 72)
      have cA : (wr.alloc (.cells #[.int .u32 (x : Int)] 72)).cell? ⟨wr.heap.size, 0, none⟩ = some (.int .u32 (x : Int)) := (Blk.new wr 72 #[.int .u32 (x : Int)]).cell 0
      have b0A := hB0.alloc (.cells #[.int .u32 (x : Int)] 72)
      have b1A := hB1.alloc (.cells #[.int .u32 (x : Int)] 72)
      have bbA := hbw.alloc hbw.size (.cells #[.int .u32 (x : Int)] 72)
      have szA : w.heap.size + 2 ≤ (wr.alloc (.cells #[.int .u32 (x : Int)] 72)).heap.size := by simp; omega
      go_wp2_with fail
      refine hG.out.mono ?_
      rintro e w' ⟨rfl, rfl⟩
      go_wp2_with (refine wpList_append_u32 _ rfl _ _ 74 rfl (w.heap.size + 2) i0 Tryd.underlying74 hi hz0 hz1 hz2 _ ((wordsN b).take k) rfl oA wr.heap.size x rfl cA HL.out szA ?_)
      intro v' wz ho2 hgr
      have hB0' := b0A.appended oA hgr (by omega)
      have hB1' := b1A.appended oA hgr (by omega)
      have hb' := below_append bbA oA hgr (by omega) (by omega)
      have hsz' : w.heap.size + 2 ≤ wz.heap.size := Nat.le_trans szA hgr.size
      have HO2 := Lib.hid ho2
      clear ho2 hgr oA cA b0A b1A bbA szA
      go_wp2
      go_roundw
      case rel => exact ⟨k + 1, by omega, by go_num, by rw [HW.out]; exact HO2.out, hB0', hB1', hb', hsz'⟩
      case measure => simp [intOf]; omega
    · obtain rfl : k = 16 := by omega
      rw [List.take_of_length_le (by rw [wordsN_length]; exact Nat.le_refl _)] at ho
      have hwok := wordsN_ok b
      have hwl := wordsN_length b
      generalize hWS : wordsN b = ws at ho hwok hwl
      have EW := Lib.hid hWS
      clear hWS hn7 HB
      rw [show ((16 : Nat) : Int) = 16 from rfl]
      go_upto_block 2 with (fail)
      refine press_words w wr R Z ws i0 _ _ hi hz0 hz1 hz2 hwok hwl ho hB0 hB1 hbw hsz (fun _ _ d _ _ h => by cases d <;> exact h) ?_
      clear ho hB0 hB1 hbw hsz
      intro y9 y10 y11 y12 y13 y41 y42 y43 y44 y45 y46 y47 y48 y49 y50 y51 y52 y53 y54 y55 y56 y57 y58 y59 y60 y61 y62 y63 y64 y65 y66 y67 y68 y69 y70 y71 y72 y73 y74 y75 y76 y77 y78 y79 y80 y81 y82 y83 y84 y85 y86 y87 y88 v7 wr1 ho hB0 hB1 hbw hsz
      have hsl := sched_length ws hwl 48
      obtain ⟨A7, n7, c7, rfl⟩ := ho.shape
      have hn7 := ho.slu.len
      rw [hsl] at hn7
      subst hn7
      obtain ⟨A8, c8, e8, hcc, hcx⟩ := ho.slu
      injection e8 with e81 e82 e83
      subst e81 e83
      obtain ⟨g, o, rfl, hcell⟩ := hcx (by omega)
      have hcl : ∀ j, j < 64 → wr1.cell? ⟨g, o + j, none⟩ = some (.int .u32 ((sched ws 48).getD j 0 : Int)) := by
        intro j hj
        have hj2 : j < (sched ws 48).length := by omega
        rw [hcell j hj2, List.getD_eq_getElem?_getD, List.getElem?_eq_getElem hj2]; rfl
      clear hcell hcx e82 hcc
      have hok3 := sched_ok ws hwok 48
      have EP := Lib.hid (show pressN s b = s.add (rounds (sched ws 48) s 64) by rw [← EW.out]; rfl)
      have hgl : g < wr1.heap.size := World.block_lt_of_cell? wr1 _ (hcl 0 (by decide))
      clear ho hsl
      generalize sched ws 48 = wl at hcl hok3 EP
      have HW3 := Lib.hid hok3
      have HCL := Lib.hid hcl
      clear hcl hok3 hwok hwl EW
      have hN := Blk.new wr1 73 (rowU (List.replicate 8 0))
      have hth : (wr1.alloc (.cells (rowU (List.replicate 8 0)) 73)).there wr1.heap.size 0 R.size := by rw [hrz]; exact hN.there
      go_upto_region 14 with (first | (refine wpList_load_row rfl 73 _ rfl w.heap.size rfl 73 R (0, 0) _ hB0 Tryd.underlying73 rfl hri ?_) | (refine wpList_store_mid rfl 73 _ _ rfl wr1.heap.size 0 R rfl rfl hth hri hr1 ?_))
      change Code.wp _ _ _ _ ((wr1.alloc (.cells (rowU (List.replicate 8 0)) 73)).setCells wr1.heap.size 0 R.toList)
      have hV := hN.setRow (ds := R) (by rw [hrz]; rfl)
      have hbN : Below wr1.heap.size wr1 ((wr1.alloc (.cells (rowU (List.replicate 8 0)) 73)).setCells wr1.heap.size 0 R.toList) := Below.only ((Below.refl _ _).alloc (Nat.le_refl _) _) (grown_setCells _ _ _ _) (Nat.le_refl _) (by simp)
      replace hB0 := hB0.below hbN hB0.lt
      replace hB1 := hB1.below hbN hB1.lt
      replace hbw := hbw.trans (hbN.mono hbw.size)
      have hcl : ∀ j, j < 64 → ((wr1.alloc (.cells (rowU (List.replicate 8 0)) 73)).setCells wr1.heap.size 0 R.toList).cell? ⟨g, o + j, none⟩ = some (.int .u32 (wl.getD j 0 : Int)) := fun j hj => (hbN.cell hgl).trans (HCL.out j hj)
      generalize (wr1.alloc (.cells (rowU (List.replicate 8 0)) 73)).setCells wr1.heap.size 0 R.toList = W4 at hV hB0 hB1 hbw hcl ⊢
      clear hth hbN HCL hN
      generalize wr1.heap.size = gv at hV hgl hsz ⊢
      have HRT := Lib.hid (show rounds wl s 0 = s from rfl)
      rw [← ER.out] at hV
      go_upto_block 4 with (fail)
      refine press_rounds s w W4 R Z wl gk ok_ cK g o c7 gv _ hok HKC HW3 hgl hsz hcl hB0 hB1 hV hbw ?_
      intro y15 y16 y17 y18 y19 y20 y21 y22 y23 y90 y91 y92 y93 y94 y95 y96 y97 y98 y99 y100 y101 y102 y103 y104 y105 y106 y107 y108 y109 y110 y111 y112 y113 y114 y115 y116 y117 y118 y119 y120 y121 y122 y123 y124 y125 y126 y127 y128 y129 y130 y131 y132 y133 y134 y135 y136 y137 y138 y139 y140 y141 y142 y143 y144 y145 y146 y147 y148 y149 y150 y151 y152 y153 y154 y155 y156 y157 y158 y159 y160 y161 y162 y163 y164 y165 y166 y167 y168 y169 wr hF0 hF1 hF hbF
      clear hcl hB0 hB1 hV hbw
      have hok2 := rounds_ok (w := wl) hok 64
      generalize hq : rounds wl s 64 = q at hF hok2
      have EQ := Lib.hid (show pressN s b = s.add q by rw [EP.out, hq])
      clear hq EP
      have hF' : Blk wr gv 73 (rowU (mixL q s 0)) := by rw [mixL_zero]; exact hF
      rw [← ER.out] at hF0
      go_wp2
      go_loopw [24] (fun z wr => ∃ k : Nat, k ≤ 8 ∧ z = .int .i64 (k : Int) ∧ Blk wr w.heap.size 73 s.row ∧ Blk wr (w.heap.size + 1) 73 Z ∧ Blk wr gv 73 (rowU (mixL q s k)) ∧ Below w.heap.size w wr) (fun z _ => 8 - (intOf z).toNat)
      case atStart => exact ⟨0, Nat.zero_le _, rfl, hF0, hF1, hF', hbF⟩
      case round =>
        clear hF0 hF' hF1 hbF hF
        obtain ⟨k, hk, rfl, hF0, hF1, hF, hbF⟩ := hrel
        by_cases hlt : k < 8
        · have cv : wr.cell? ⟨gv, k, none⟩ = some (.int .u32 (q.list.getD k 0 : Int)) := by
            rw [hF.cell, rowU_getD (by rw [mixL_length]; exact hlt), mixL_get q s k hlt]
          have ch : wr.cell? ⟨w.heap.size, k, none⟩ = some (.int .u32 (s.list.getD k 0 : Int)) := by
            rw [hF0.cell]; exact rowU_getD (l := s.list) hlt
          have hfr := hF.frozen k
          have HM := Lib.hid (mixL_set q s k hlt)
          have HA := Lib.hid (addN_any (q.list.getD k 0) (s.list.getD k 0))
          generalize q.list.getD k 0 = y at cv HM HA
          generalize s.list.getD k 0 = x at ch HM HA
          generalize addN y x = ss at HM HA
          go_wp2
          go_region
          rw [HA.out]
          go_wp2
          go_roundw
          case rel => exact ⟨k + 1, by omega, by go_num, (hF0.far (by simp; omega) _).drew, (hF1.far (by simp; omega) _).drew, by rw [← HM.out, ← rowU_set]; exact (hF.set_ _ _).drew, (hbF.setCell (by simp; omega) _).drew⟩
          case measure => simp [intOf]; omega
        · obtain rfl : k = 8 := by omega
          have hsa : rowU (mixL q s 8) = (s.add q).row := by rw [mixL_done, St.add_comm q s]; rfl
          rw [hsa] at hF
          have hi2 := (s.add q).row_info
          have h12 := (s.add q).row_one
          have hz2 := (s.add q).row_size
          generalize hRR : (s.add q).row = RR at hF hi2 h12 hz2
          have ERR := Lib.hid hRR
          clear hRR hsa
          have hth : wr.there (w.heap.size + 1) 0 RR.size := by rw [hz2, ← hZ]; exact hF1.there
          go_wp2_with (first | (refine wpList_load_row rfl 73 _ rfl gv rfl 73 RR (0, 0) _ hF Tryd.underlying73 rfl hi2 ?_) | (refine wpList_store_mid rfl 73 _ _ rfl (w.heap.size + 1) 0 RR rfl rfl hth hi2 h12 ?_))
          have hE : Blk (wr.setCells (w.heap.size + 1) 0 RR.toList) (w.heap.size + 1) 73 RR := hF1.setRow (by rw [hz2, hZ])
          have hgE := grown_setCells (w.heap.size + 1) RR.toList 0 wr
          exact bodyPost_ret (v := .agg RR) (results_cell_row rfl _ _ (w.heap.size + 1) 73 RR (0, 0) _ rfl hE Tryd.underlying73 rfl hi2) rfl ⟨by rw [EQ.out, ERR.out], Below.only hbF hgE (by omega) hbF.size⟩
end Go.Proofs.YthlopecllhdmhaaDoor

/-
  The walk of sha.Of.
-/
import Derived.Test.YtggijgclnnlfmaaDoorShaText
namespace Go.Proofs.YtggijgclnnlfmaaDoor
open Go.RowKit
set_option linter.unusedVariables false
set_option linter.unusedSimpArgs false

/-- Two results: an array that lies in memory, and a slot. -/
theorem results_row_and {P : Program} {fn : Func} {p q : Tmp} {ty : TypeId} (h : fn.results = #[.cell p ty, .tmp q]) (tmps : Array Value) (w : World) (g : Nat) (t : TypeId) (cs : Array Value) (fr : Nat × Nat) (d : TypeDesc) (v : Value)
    (hp : tmps.getD p undef = .pointer (some ⟨g, 0, none⟩)) (hq : tmps.getD q undef = v) (hg : w.heap[g]? = some (.cells cs t fr))
    (hu : P.underlying ty = some d) (hd : (match d with | .struct _ | .array _ _ => true | _ => false) = true) (hi : (P.info? ty).map (·.size) = some cs.size) :
    (results fn tmps).run P w = .ok (.tuple #[.agg cs, v]) w := by
  have hp' : tmps[p]?.getD undef = .pointer (some ⟨g, 0, none⟩) := by simpa using hp
  have hq' : tmps[q]?.getD undef = v := by simpa using hq
  simp [results, h, hp', hq', asAddr, run_loadVar_row w g t ty cs fr d hg hu hd hi]

/-- The hash whose text it is. -/
def ofB (l : List UInt8) : Option (List UInt8) := if l.length = 64 then unhexTo l 32 else none
theorem ofB_unhex (l : List UInt8) : ofB l = match unhexB l with | some m => if m.length = 32 then some m else none | none => none := by
  unfold ofB unhexB
  by_cases h : l.length = 64
  · rw [if_pos h, if_pos (by omega), h]
    cases e : unhexTo l 32 with
    | none => simp [e]
    | some m => simp [e, unhexTo_length _ _ _ e]
  · rw [if_neg h]
    by_cases h2 : l.length % 2 = 0
    · rw [if_pos h2]
      cases e : unhexTo l (l.length / 2) with
      | none => rfl
      | some m =>
        have := unhexTo_length _ _ _ e
        simp only []
        rw [if_neg (by omega)]
    · rw [if_neg h2]
/-- What Of answers. -/
def OfPost (l : List UInt8) (w : World) (e : Ending) (w' : World) : Prop :=
  ∃ T n, e = .returned (.tuple #[.agg T, .int .i64 n]) ∧ Below w.heap.size w w' ∧ ((∃ m, ofB l = some m ∧ m.length = 32 ∧ n = 0 ∧ T = rowB m) ∨ (ofB l = none ∧ n = 4 ∧ T = rowB (List.replicate 32 0)))
theorem rowK_none (n : Nat) : rowK [] n = rowB (List.replicate n 0) := by simp [rowK, rowB]
theorem rowK_full (m : List UInt8) : rowK m 0 = rowB m := by simp [rowK, rowB]
theorem rowA_one (m : List UInt8) (x r : Nat) : (rowA m x r).size = m.length + 1 + r := by simp [rowA]; omega

set_option maxHeartbeats 1600000 in
theorem of_any (s : ByteArray) (w : World) :
    Calls Tryd.prog 15 #[.string s] w (OfPost s.data.toList w) := by
  have hB0 := (Blk.new w 28 (rowB (List.replicate 32 0))).alloc (.cells (rowB (List.replicate 32 0)) 28)
  have hB1 := Blk.new (w.alloc (.cells (rowB (List.replicate 32 0)) 28)) 28 (rowB (List.replicate 32 0))
  rw [show (w.alloc (.cells (rowB (List.replicate 32 0)) 28)).heap.size = w.heap.size + 1 by simp] at hB1
  have hbw : Below w.heap.size w ((w.alloc (.cells (rowB (List.replicate 32 0)) 28)).alloc (.cells (rowB (List.replicate 32 0)) 28)) := ((Below.refl _ _).alloc (Nat.le_refl _) _).alloc (by simp) _
  have hZ := zeros_row 32
  have hiZ : (Tryd.prog.info? 28).map (·.size) = some (rowB (List.replicate 32 0)).size := by rw [info_h32, hZ]
  have h1Z := rowB_one (List.replicate 32 0)
  go_enter Tryd.func15, Tryd.ntmps15
  go_wp2
  go_step3
  go_upto_region 2 with (fail)
  change Code.wp _ _ _ _ ((w.alloc (.cells (rowB (List.replicate 32 0)) 28)).alloc (.cells (rowB (List.replicate 32 0)) 28))
  generalize (w.alloc (.cells (rowB (List.replicate 32 0)) 28)).alloc (.cells (rowB (List.replicate 32 0)) 28) = W0 at hB0 hB1 hbw ⊢
  by_cases h64 : s.size = 64
  · have E := Lib.hid (show ofB s.data.toList = unhexTo s.data.toList 32 by unfold ofB; rw [if_pos (by simpa using h64)])
    have hne : (s.size : Int) = 64 := by omega
    have HN := Lib.hid h64
    clear h64
    rw [← rowK_none] at hB1
    generalize hZZ : rowB (List.replicate 32 0) = Z at hB0 hZ hiZ h1Z
    have EZ := Lib.hid hZZ
    clear hZZ
    go_wp2
    clear hne
    go_step3
    go_wp2
    go_loopw [5, 14] (fun y z wr => ∃ (k : Nat) (m : List UInt8), k ≤ 32 ∧ y = .int .i64 0 ∧ z = .int .i64 (k : Int) ∧ unhexTo s.data.toList k = some m ∧ Blk wr (w.heap.size + 1) 28 (rowK m (32 - k)) ∧ Blk wr w.heap.size 28 Z ∧ Below w.heap.size w wr) (fun _ z _ => 32 - (intOf z).toNat)
    case atStart => exact ⟨0, [], Nat.zero_le _, rfl, rfl, rfl, hB1, hB0, hbw⟩
    case round =>
      clear hB1 hB0 hbw
      obtain ⟨k, m, hk, rfl, rfl, hm, hB, hB0, hb⟩ := hrel
      have hml := unhexTo_length _ _ _ hm
      have HM := Lib.hid hm
      have HML := Lib.hid hml
      clear hm hml
      by_cases hlt : k < 32
      · obtain ⟨r, hr⟩ : ∃ r, 32 - k = r + 1 := ⟨32 - k - 1, by omega⟩
        have HR := Lib.hid (show 32 - (k + 1) = r by omega)
        have HRR := Lib.hid (show k + 1 + r = 32 by omega)
        rw [hr, rowK_succ] at hB
        clear hr
        have hs2 : 2 * k + 2 ≤ s.size := by have := HN.out; omega
        obtain ⟨C, W1, hcv, hC, hpair, hb1, hz1⟩ := conv_pair s k wr hs2
        have hB1 := hB.below hb1 hB.lt
        have hB01 := hB0.below hb1 hB0.lt
        have hb2 := hb.trans (hb1.mono hb.size)
        have hgl := hB.lt
        clear hB hB0 hb hb1
        generalize wr.heap.size = g at hcv hpair hz1 hgl
        have HP := Lib.hid hpair
        clear hpair
        go_wp2
        clear hcv
        generalize Value.bool (decide ((k : Int) < 32)) = s15
        go_loopw [5, 26] (fun y z wi => ∃ (j v : Nat), j ≤ 2 ∧ y = .int .i64 0 ∧ z = .int .i64 (j : Int) ∧ cj s.data.toList k j = some v ∧ Blk wi (w.heap.size + 1) 28 (rowA m v r) ∧ Blk wi w.heap.size 28 Z ∧ (∀ j, j < 2 → wi.cell? ⟨g, j, none⟩ = some (.int .u8 ((s.data.toList.getD (2 * k + j) 0).toNat : Int))) ∧ Below w.heap.size w wi) (fun _ z _ => 2 - (intOf z).toNat)
        case atStart => exact ⟨0, 0, by omega, rfl, rfl, rfl, hB1, hB01, HP.out, hb2⟩
        case round =>
          clear hB1 hB01 hb2 HP
          obtain ⟨j, v, hj, rfl, rfl, hv', hB, hB0, hpair, hb⟩ := hrel
          have HV := Lib.hid hv'
          have hv256 := cj_lt _ _ _ _ hj hv'
          clear hv'
          by_cases hlj : j < 2
          · have hcell := hpair j hlj
            have HP := Lib.hid hpair
            clear hpair
            obtain ⟨ch, hch⟩ : ∃ ch, s.data.toList.getD (2 * k + j) 0 = ch := ⟨_, rfl⟩
            rw [hch] at hcell
            have HCH := Lib.hid hch
            clear hch
            cases hhv : hv ch with
            | none =>
              have HN2 := Lib.hid (unhexTo_pr_none _ k (cj_none _ k j hlj (by rw [HCH.out]; exact hhv)) 32 hlt)
              have hix : Lib.indexByte digits ch = -1 := by rw [index_digits, hhv]
              clear hhv
              have hRs : (rowA m v r).size = 32 := by rw [rowA_one, HML.out]; exact HRR.out
              have hth1 : wr.there (w.heap.size + 1) 0 Z.size := by rw [hZ, ← hRs]; exact hB.there
              have hBT := hB.setRow (ds := Z) (by rw [hRs, hZ])
              have hgr1 := grown_setCells (w.heap.size + 1) Z.toList 0 wr
              have hB0' := hB0.grown hgr1 (by intro e; injection e with e; omega)
              have hb' := Below.only hb hgr1 (by omega) hb.size
              go_wp2_with fail
              refine (digit_at ch _).mono ?_
              rintro e w' ⟨rfl, rfl⟩
              rw [hix]
              clear hix
              have hth : (wr.setCells (w.heap.size + 1) 0 Z.toList).there w.heap.size 0 Z.size := hB0'.there
              have hEE := hB0'.setRow (ds := Z) rfl
              have hbE := Below.only hb' (grown_setCells w.heap.size Z.toList 0 (wr.setCells (w.heap.size + 1) 0 Z.toList)) (Nat.le_refl _) hb'.size
              go_wp2_with (first | (refine wpList_store_mid rfl 28 _ _ rfl (w.heap.size + 1) 0 Z rfl (by rw [← EZ.out]; rfl) hth1 hiZ h1Z ?_) | (refine wpList_load_row rfl 28 _ rfl (w.heap.size + 1) rfl 28 Z (0, 0) _ hBT Tryd.underlying28 rfl hiZ ?_) | (refine wpList_store_mid rfl 28 _ _ rfl w.heap.size 0 Z rfl rfl hth hiZ h1Z ?_))
              exact bodyPost_ret (v := .tuple #[.agg Z, .int .i64 4]) (results_row_and rfl _ _ w.heap.size 28 Z (0, 0) _ _ rfl rfl hEE Tryd.underlying28 rfl hiZ) rfl ⟨_, _, rfl, hbE, .inr ⟨E.out.trans HN2.out, rfl, EZ.out.symm⟩⟩
            | some y =>
              obtain ⟨hstep, hv16, hy16⟩ := cj_step _ k j v y hlj HV.out (by rw [HCH.out]; exact hhv)
              have HS := Lib.hid hstep
              have hix : Lib.indexByte digits ch = (y : Int) := by rw [index_digits, hhv]
              have HO := Lib.hid (or_half v y hv16 hy16)
              clear hhv hstep
              have hcm : wr.cell? ⟨w.heap.size + 1, k, none⟩ = some (.int .u8 (v : Int)) := by rw [hB.cell, ← HML.out, rowA_get _ _ _ hv256]
              have hfm := hB.frozen k
              go_wp2_with fail
              refine (digit_at ch _).mono ?_
              rintro e w' ⟨rfl, rfl⟩
              rw [hix]
              clear hix
              go_wp2
              go_roundw
              case rel =>
                rw [HO.out]
                refine ⟨j + 1, 16 * v + y, by omega, rfl, by go_num, HS.out, ?_, hB0.far (by simp) _, ?_, hb.setCell (by simp) _⟩
                · have hset := hB.set_ k (.int .u8 ((16 * v + y : Nat) : Int))
                  rw [← HML.out, rowA_set m v (16 * v + y) r (by omega)] at hset
                  rw [← HML.out]
                  exact hset
                · intro j' hj'
                  rw [← HP.out j' hj']
                  exact World.cell?_setCell_far _ _ _ _ (show w.heap.size + 1 ≠ g by omega)
              case measure => simp [intOf]; omega
          · obtain rfl : j = 2 := by omega
            have E3 := Lib.hid (cj_pr _ _ _ HV.out)
            clear hpair
            go_wp2
            go_roundw
            case rel =>
              refine ⟨k + 1, m ++ [UInt8.ofNat v], by omega, rfl, by go_num, ?_, ?_, hB0, hb⟩
              · unfold unhexTo
                rw [HM.out, E3.out]
              · rw [HR.out, ← rowA_next]
                exact hB
            case measure => simp [intOf]; omega
      · obtain rfl : k = 32 := by omega
        rw [Nat.sub_self, rowK_full] at hB
        have hml := HML.out
        have hiT := rowB_info hml
        have h1T := rowB_one m
        have hsT : (rowB m).size = 32 := by rw [rowB_size, hml]
        clear hml
        generalize hT : rowB m = T at hB hiT h1T hsT
        have ET := Lib.hid hT
        clear hT
        have hBT := hB
        have hth : wr.there w.heap.size 0 T.size := by rw [hsT, ← hZ]; exact hB0.there
        have hEE := hB0.setRow (ds := T) (by rw [hsT, hZ])
        have hbE := Below.only hb (grown_setCells w.heap.size T.toList 0 wr) (Nat.le_refl _) hb.size
        go_wp2_with (first | (refine wpList_load_row rfl 28 _ rfl (w.heap.size + 1) rfl 28 T (0, 0) _ hBT Tryd.underlying28 rfl hiT ?_) | (refine wpList_store_mid rfl 28 _ _ rfl w.heap.size 0 T rfl rfl hth hiT h1T ?_))
        exact bodyPost_ret (v := .tuple #[.agg T, .int .i64 0]) (results_row_and rfl _ _ w.heap.size 28 T (0, 0) _ _ rfl rfl hEE Tryd.underlying28 rfl hiT) rfl ⟨_, _, rfl, hbE, .inl ⟨m, E.out.trans HM.out, HML.out, rfl, ET.out.symm⟩⟩
  · have E := Lib.hid (show ofB s.data.toList = none by unfold ofB; rw [if_neg (by simpa using h64)])
    have hne : ¬ (s.size : Int) = 64 := by omega
    generalize hZZ : rowB (List.replicate 32 0) = Z at hB0 hB1 hZ hiZ h1Z
    have EZ := Lib.hid hZZ
    clear hZZ
    have hth : W0.there w.heap.size 0 Z.size := hB0.there
    go_wp2_with (first | (refine wpList_load_row rfl 28 _ rfl (w.heap.size + 1) rfl 28 Z (0, 0) _ hB1 Tryd.underlying28 rfl hiZ ?_) | (refine wpList_store_mid rfl 28 _ _ rfl w.heap.size 0 Z rfl rfl hth hiZ h1Z ?_))
    have hEE : Blk (W0.setCells w.heap.size 0 Z.toList) w.heap.size 28 Z := hB0.setRow rfl
    have hbE := Below.only hbw (grown_setCells w.heap.size Z.toList 0 W0) (Nat.le_refl _) hbw.size
    generalize W0.setCells w.heap.size 0 Z.toList = W9 at hEE hbE ⊢
    try go_step3
    go_wp2_with fail
    exact bodyPost_ret (v := .tuple #[.agg Z, .int .i64 4]) (results_row_and rfl _ _ w.heap.size 28 Z (0, 0) _ _ rfl rfl hEE Tryd.underlying28 rfl hiZ) rfl ⟨_, _, rfl, hbE, .inr ⟨E.out, rfl, EZ.out.symm⟩⟩
end Go.Proofs.YtggijgclnnlfmaaDoor

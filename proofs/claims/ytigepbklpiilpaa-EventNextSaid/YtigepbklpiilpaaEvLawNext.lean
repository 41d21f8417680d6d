/-
  EventNext's law.
-/
import Derived.Test.YtigepbklpiilpaaEvNext
import Derived.Deep.Cut
namespace Go.Proofs.Ytigepbklpiilpaa
open Go.RowKit
open CtxM
set_option linter.unusedVariables false
set_option linter.unusedSimpArgs false
set_option maxRecDepth 20000

set_option maxHeartbeats 8000000 in
theorem enext_any (rg : Int) (v : Value) (L : List ByteArray) (V : List Nat) (w : World) (hs : Ss w v L) (hV : V.length = 16) (hVlt : ∀ n ∈ V, n < 18446744073709551616) :
    Calls Try.prog 6 #[.int .i64 rg, v, .agg (uqs V)] w fun e w' => e = .returned (.bool true) ∧ Below w.heap.size w w' := by
  have hfo : Try.prog.follows .mixedOrders = true := by kernel_rfl
  obtain ⟨A, c, rfl⟩ := hs.shape
  have HS := Lib.hid hs
  clear hs
  go_enter Try.func6, Try.ntmps6
  go_upto_region 1 with fail
  have hB := Blk.new w 27 (uqs V)
  have hb : Below w.heap.size w (w.alloc (.cells (uqs V) 27)) := (Below.refl _ _).alloc (Nat.le_refl _) _
  generalize w.alloc (.cells (uqs V) 27) = w1 at hB hb ⊢
  by_cases h1 : rg < 1
  · go_wp2_with (go_at_call 8; refine (known_any _).mono ?_; rintro e wk ⟨rfl, hgk⟩)
    go_ret
    exact ⟨rfl, hb.trans (hgk.below.mono hb.size)⟩
  by_cases h2 : 16 < rg
  · go_wp2_with (go_at_call 8; refine (known_any _).mono ?_; rintro e wk ⟨rfl, hgk⟩)
    go_ret
    exact ⟨rfl, hb.trans (hgk.below.mono hb.size)⟩
  by_cases h3 : 60 < L.length
  · have k3 : (60 : Int) < (L.length : Int) := by omega
    go_wp2_with (go_at_call 8; refine (known_any _).mono ?_; rintro e wk ⟨rfl, hgk⟩)
    go_ret
    exact ⟨rfl, hb.trans (hgk.below.mono hb.size)⟩
  have k3 : ¬ (60 : Int) < (L.length : Int) := by omega
  obtain ⟨r, hr⟩ : ∃ r : Nat, rg = (r : Int) + 1 := ⟨(rg - 1).toNat, by omega⟩
  have hr16 : r < 16 := by omega
  have hri : (r : Int) < 16 := by omega
  have hwr : IntKind.i64.wrap (r : Int) = (r : Int) := by rw [IntKind.wrap_i64]; omega
  have hc : w1.cell? ⟨w.heap.size, r, none⟩ = some (.int .u64 (V.getD r 0 : Int)) := by rw [hB.cell]; exact uqs_get V r (by omega)
  have hf := hB.frozen r
  have hst := hB.set_ r (.int .u64 ((0 : Nat) : Int))
  rw [uqs_set] at hst
  have hl60 : L.length ≤ 60 := by omega
  subst hr
  have HH := Lib.hid (And.intro h1 h2)
  clear h1 h2 h3
  go_upto_region 4 with fail
  have hB2 := hst
  have hb2 : Below w.heap.size w (w1.setCell ⟨w.heap.size, r, none⟩ (.int .u64 ((0 : Nat) : Int))) := Below.only hb (grown_setCell _ _ _ _) (Nat.le_refl _) hb.size
  change Code.wp _ _ _ _ (w1.setCell ⟨w.heap.size, r, none⟩ (.int .u64 ((0 : Nat) : Int)))
  generalize w1.setCell ⟨w.heap.size, r, none⟩ (.int .u64 ((0 : Nat) : Int)) = w2 at hB2 hb2 ⊢
  obtain ⟨V0, hV0e⟩ : ∃ X, X = V.set r 0 := ⟨_, rfl⟩
  rw [← hV0e] at hB2
  have hV0 : V0.length = 16 := by rw [hV0e]; simpa using hV
  have hset0 : V0.set r 0 = V0 := by rw [hV0e, List.set_set]
  have HV0e := Lib.hid hset0
  clear hst hB hb hc hf hV0e hset0
  go_wp2
  go_loopw [7] (fun y wr => ∃ i : Nat, y = .int .i64 (i : Int) ∧ i ≤ L.length ∧ (∀ j (h : j < L.length), j < i → nameB L[j] = true) ∧ wr = w2) (fun y _ => L.length - (intOf y).toNat)
  case atStart => exact ⟨0, rfl, Nat.zero_le _, fun j _ h => absurd h (by omega), rfl⟩
  case round =>
    obtain ⟨i, rfl, hi, hok, rfl⟩ := hrel
    have HO := Lib.hid hok
    clear hok
    by_cases hlt : i < L.length
    · obtain ⟨b, o, rfl, k0⟩ := (HS.out.below hb2).at_ i hlt
      obtain ⟨s, hs⟩ : ∃ s, L[i] = s := ⟨_, rfl⟩
      rw [hs] at k0
      have hn := fun W => rmayName_any s W
      obtain ⟨q, hq⟩ : ∃ q, q = nameB s := ⟨_, rfl⟩
      rw [← hq] at hn
      have HQ := Lib.hid hq
      have HSS := Lib.hid hs
      have HLT := Lib.hid hlt
      clear hq hs
      cases q
      · go_wp2_with (first | (go_at_call 21; refine (hn _).mono ?_; rintro e wq ⟨rfl, rfl⟩) | (go_at_call 8; refine (known_any _).mono ?_; rintro e wk ⟨rfl, hgk⟩))
        go_ret
        exact ⟨rfl, hb2.trans (hgk.below.mono hb2.size)⟩
      · go_wp2_with (go_at_call 21; refine (hn _).mono ?_; rintro e wq ⟨rfl, rfl⟩)
        refine ⟨⟨i + 1, by go_num, HLT.out, fun j hj hji => ?_, trivial⟩, by simp [intOf]; have := HLT.out; omega⟩
        rcases Nat.lt_or_ge j i with h | h
        · exact HO.out j hj h
        · obtain rfl : j = i := by omega
          rw [HSS.out]; exact HQ.out.symm
    · obtain rfl : i = L.length := by omega
      have HN := Lib.hid (show ∀ j (h : j < L.length), nameB L[j] = true from fun j h => HO.out j h h)
      clear HO
      have hmv := fun W => rmayVector_any V0 W hV0
      obtain ⟨q, hq⟩ : ∃ q, q = decide (∀ n ∈ V0, n ≤ top) := ⟨_, rfl⟩
      rw [← hq] at hmv
      have HQ := Lib.hid hq
      clear hq
      cases q
      · go_wp2_with (first | (refine wpList_load_mid_g (by rfl) 27 _ rfl (w.heap.size) 0 rfl (uqs V0) _ (uqs_range hB2) Try.underlying27 rfl (uqs_info hV0) ?_; try simp only [Act.put, List.setIfInBounds_toArray, List.set_cons_zero, List.set_cons_succ]) | (go_at_call 22; refine (hmv _).mono ?_; rintro e w3 ⟨rfl, hg3⟩) | (go_at_call 8; refine (known_any _).mono ?_; rintro e wk ⟨rfl, hgk⟩))
        go_ret
        exact ⟨rfl, hb2.trans ((hg3.trans hgk).below.mono hb2.size)⟩
      · have Hle := Lib.hid (of_decide_eq_true HQ.out.symm)
        go_upto_region 11 with (first | (refine wpList_load_mid_g (by rfl) 27 _ rfl (w.heap.size) 0 rfl (uqs V0) _ (uqs_range hB2) Try.underlying27 rfl (uqs_info hV0) ?_; try simp only [Act.put, List.setIfInBounds_toArray, List.set_cons_zero, List.set_cons_succ]) | (go_at_call 22; refine (hmv _).mono ?_; rintro e w3 ⟨rfl, hg3⟩))
        have hB3 := hB2.below hg3.below hB2.lt
        have hb3 := hb2.trans (hg3.below.mono hb2.size)
        clear hmv HQ
        go_upto_region 12 with (first | (refine wpList_load_mid_g (by rfl) 27 _ rfl (w.heap.size) 0 rfl (uqs V0) _ (uqs_range hB3) Try.underlying27 rfl (uqs_info hV0) ?_; try simp only [Act.put, List.setIfInBounds_toArray, List.set_cons_zero, List.set_cons_succ]) | (refine wpList_store_mid rfl 27 _ _ rfl w3.heap.size 0 (uqs V0) rfl rfl (by rw [uqs_size, hV0]; exact (Blk.new w3 27 (uqs (z16 0 0))).there) (uqs_info hV0) (uqs_one _) ?_))
        change Code.wp _ _ _ _ ((w3.alloc (.cells (uqs (z16 0 0)) 27)).setCells w3.heap.size 0 (uqs V0).toList)
        have hF : Blk ((w3.alloc (.cells (uqs (z16 0 0)) 27)).setCells w3.heap.size 0 (uqs V0).toList) w3.heap.size 27 (uqs V0) := (Blk.new w3 27 (uqs (z16 0 0))).setRow (by rw [uqs_size, uqs_size, hV0]; rfl)
        have hg4 : Below w3.heap.size w3 ((w3.alloc (.cells (uqs (z16 0 0)) 27)).setCells w3.heap.size 0 (uqs V0).toList) := Below.only ((Below.refl _ _).alloc (Nat.le_refl _) _) (grown_setCells _ _ _ _) (Nat.le_refl _) (by simp)
        generalize (w3.alloc (.cells (uqs (z16 0 0)) 27)).setCells w3.heap.size 0 (uqs V0).toList = w4 at hF hg4 ⊢
        have hB4 := hB3.below hg4 hB3.lt
        have hb4 := hb3.trans (hg4.mono hb3.size)
        obtain ⟨gF, hgF⟩ : ∃ g, g = w3.heap.size := ⟨_, rfl⟩
        rw [← hgF] at hF ⊢
        have hgf : w.heap.size < gF := by have := hB3.lt; omega
        clear hgF hB2 hB3 hg3 hg4 hb2 hb3
        go_wp2
        clear hlt hi
        go_loopw [9] (fun y wr => ∃ i : Nat, y = .int .i64 (i : Int) ∧ i ≤ L.length ∧ Blk wr w.heap.size 27 (uqs (V0.set r i)) ∧ Blk wr gF 27 (uqs V0) ∧ Below w.heap.size w wr) (fun y _ => L.length - (intOf y).toNat)
        case atStart => exact ⟨0, rfl, Nat.zero_le _, by rw [HV0e.out]; exact hB4, hF, hb4⟩
        case round =>
          clear hB4 hF hb4
          obtain ⟨i, rfl, hi, hB, hF, hb⟩ := hrel
          by_cases hlt : i < L.length
          · have HLT := Lib.hid hlt
            have HI := Lib.hid hi
            go_wp2
            clear hlt hi
            go_loopw [10] (fun y wq => ∃ k : Nat, y = .int .i64 (k : Int) ∧ k ≤ L.length ∧ Blk wq w.heap.size 27 (uqs (V0.set r i)) ∧ Blk wq gF 27 (uqs V0) ∧ Below w.heap.size w wq) (fun y _ => L.length - (intOf y).toNat)
            case atStart => exact ⟨0, rfl, Nat.zero_le _, hB, hF, hb⟩
            case round =>
              clear hB hF hb
              obtain ⟨k, rfl, hk, hB, hF, hb⟩ := hrel
              by_cases hkl : k < L.length
              · have HKL := Lib.hid hkl
                have HK := Lib.hid hk
                obtain ⟨b, o, rfl, kk⟩ := (HS.out.below hb).at_ k hkl
                obtain ⟨s, hs, HNs, k0⟩ : ∃ s, L[k] = s ∧ Hid (nameB s = true) ∧ wr.cell? ⟨b, o + k, none⟩ = some (.string s) := ⟨_, rfl, Lib.hid (HN.out k hkl), kk⟩
                clear hs kk
                have HBD := Lib.hid (show Try.prog.built 24 [(0, .int .i64 ((r : Int) + 1)), (1, .int .u64 ((k : Int) + 1))] = some #[.int .i64 ((r : Int) + 1), .int .u64 ((k : Int) + 1)] by kernel_rfl)
                have HBE := Lib.hid (bu_nx r k s V0 hV0)
                have hk60 : k < 60 := by omega
                have hwk1 : IntKind.i64.wrap ((k : Int) + 1) = (k : Int) + 1 := by rw [IntKind.wrap_i64]; omega
                have hwu1 : IntKind.u64.wrap ((k : Int) + 1) = (k : Int) + 1 := by rw [IntKind.wrap_u64]; omega
                go_upto_region 18 with fail
                refine held_begin hfo ?_
                have ZB : Blk wr.drew w.heap.size 27 (uqs (V0.set r i)) := hB.drew
                have ZF : Blk wr.drew gF 27 (uqs V0) := hF.drew
                have Zb : Below w.heap.size w wr.drew := hb.drew
                have hstr : wr.drew.cell? ⟨b, o + k, none⟩ = some (.string s) := k0
                generalize wr.drew = Z0 at ZB ZF Zb hstr ⊢
                have hrF : Z0.rangeAt gF 0 (V0.map uq) := uqs_range ZF
                clear hB hF hb k0 hk
                refine' wpAnyH_take (i := 0) (oi := ⟨some 57, _, _, _, _, _⟩) (v := _) rfl (by kernel_rfl) (by kernel_rfl) (by kernel_rfl) (fun _ _ _ h => h) (Or.inl ⟨by rfl, ?y0q⟩) (Keeps.refl _) ?r0q
                case y0q => (intro w' hSw; go_simp; try rfl)
                try simp only [Act.put, List.setIfInBounds_toArray, List.set_cons_zero, List.set_cons_succ]
                refine' wpAnyH_take (i := 1) (oi := ⟨some 58, _, _, _, _, _⟩) (v := _) rfl (by kernel_rfl) (by kernel_rfl) (by kernel_rfl) (fun _ _ _ h => h) (Or.inl ⟨by rfl, ?y1q⟩) (Keeps.refl _) ?r1q
                case y1q => (intro w' hSw; go_simp; try rfl)
                try simp only [Act.put, List.setIfInBounds_toArray, List.set_cons_zero, List.set_cons_succ]
                refine' wpAnyH_take (i := 2) (oi := ⟨some 59, _, _, _, _, _⟩) (v := _) rfl (by kernel_rfl) (by kernel_rfl) (by kernel_rfl) (fun _ _ _ h => h) (Or.inl ⟨by rfl, ?y2q⟩) (Keeps.refl _) ?r2q
                case y2q => (intro w' hSw; go_simp; try rfl)
                try simp only [Act.put, List.setIfInBounds_toArray, List.set_cons_zero, List.set_cons_succ]
                refine' wpAnyH_take (i := 3) (oi := ⟨some 60, _, _, _, _, _⟩) (v := _) rfl (by kernel_rfl) (by kernel_rfl) (by kernel_rfl) (fun _ _ _ h => h) (Or.inl ⟨by rfl, ?y3q⟩) (Keeps.refl _) ?r3q
                case y3q => (intro w' hSw; go_simp; try rfl)
                try simp only [Act.put, List.setIfInBounds_toArray, List.set_cons_zero, List.set_cons_succ]
                refine' wpAnyH_take (i := 4) (oi := ⟨some 61, _, _, _, _, _⟩) (v := .agg #[.int .i64 ((r : Int) + 1), .int .u64 ((k : Int) + 1)]) rfl (by kernel_rfl) (by kernel_rfl) (by kernel_rfl) (fun _ _ _ h => h) (yieldsIf_build (by rfl) 24 _ rfl #[.int .i64 ((r : Int) + 1), .int .u64 ((k : Int) + 1)] (Eq.trans (by kernel_rfl) HBD.out)) (Keeps.refl _) ?r4q
                try simp only [Act.put, List.setIfInBounds_toArray, List.set_cons_zero, List.set_cons_succ]
                refine' wpAnyH_take (i := 5) (oi := ⟨some 62, _, _, _, _, _⟩) (v := _) rfl (by kernel_rfl) (by kernel_rfl) (by kernel_rfl) (fun _ _ _ h => h) (Or.inl ⟨by rfl, ?y5q⟩) (Keeps.refl _) ?r5q
                case y5q => (intro w' hSw; go_simp; try rfl)
                try simp only [Act.put, List.setIfInBounds_toArray, List.set_cons_zero, List.set_cons_succ]
                refine' wpAnyH_take (i := 6) (oi := ⟨some 63, _, _, _, _, _⟩) (v := _) rfl (by kernel_rfl) (by kernel_rfl) (by kernel_rfl) (fun _ _ _ h => h) (Or.inl ⟨by rfl, ?y6q⟩) (Keeps.refl _) ?r6q
                case y6q => (intro w' hSw; go_simp; try rfl)
                try simp only [Act.put, List.setIfInBounds_toArray, List.set_cons_zero, List.set_cons_succ]
                refine' wpAnyH_take (i := 7) (oi := ⟨some 64, _, _, _, _, _⟩) (v := _) rfl (by kernel_rfl) (by kernel_rfl) (by kernel_rfl) (fun _ _ _ h => h) (Or.inl ⟨by rfl, ?y7q⟩) (Keeps.refl _) ?r7q
                case y7q => (intro w' hSw; go_simp; try rfl)
                try simp only [Act.put, List.setIfInBounds_toArray, List.set_cons_zero, List.set_cons_succ]
                refine' wpAnyH_take (i := 8) (oi := ⟨some 65, _, _, _, _, _⟩) (v := _) rfl (by kernel_rfl) (by kernel_rfl) (by kernel_rfl) (fun _ _ _ h => h) (Or.inl ⟨by rfl, ?y8q⟩) (Keeps.refl _) ?r8q
                case y8q => (intro w' hSw; have q0 := hSw _ _ hstr; go_simp; try rfl)
                try simp only [Act.put, List.setIfInBounds_toArray, List.set_cons_zero, List.set_cons_succ]
                refine' wpAnyH_take (i := 9) (oi := ⟨some 66, _, _, _, _, _⟩) (v := .agg (uqs V0)) rfl (by kernel_rfl) (by kernel_rfl) (by kernel_rfl) (fun _ _ _ h => h) (yieldsIf_load_mid (by rfl) 27 _ rfl gF 0 rfl (V0.map uq) _ (fun w' hSw => Keeps.range hrF hSw) Try.underlying27 rfl (by rw [info_vec, List.length_map, hV0])) (Keeps.refl _) ?r9q
                try simp only [Act.put, List.setIfInBounds_toArray, List.set_cons_zero, List.set_cons_succ]
                refine' wpAnyH_take (i := 10) (oi := ⟨some 67, _, _, _, _, _⟩) (v := .agg (evc (nx r k s V0))) rfl (by kernel_rfl) (by kernel_rfl) (by kernel_rfl) (fun _ _ _ h => h) (yieldsIf_build (by rfl) 30 _ rfl (evc (nx r k s V0)) (Eq.trans (by kernel_rfl) HBE.out)) (Keeps.refl _) ?r10q
                try simp only [Act.put, List.setIfInBounds_toArray, List.set_cons_zero, List.set_cons_succ]
                refine held_one (i := 11) (by kernel_rfl) rfl (fun Kq hK => ?_)
                go_simp
                refine hK.out _ _ (Keeps.of_below ((Below.refl _ _).alloc (Nat.le_refl _) _)) (fun _ => ?_)
                clear hK Kq
                try simp only [Act.put, List.setIfInBounds_toArray, List.set_cons_zero, List.set_cons_succ]
                have hE := (Blk.new Z0 30 (evc knZ)).setRow (ds := evc (nx r k s V0)) (by rw [evc_size hV0]; rfl)
                have hbE : Below Z0.heap.size Z0 ((Z0.alloc (.cells (evc knZ) 30)).setCells Z0.heap.size 0 (evc (nx r k s V0)).toList) := Below.only ((Below.refl _ _).alloc (Nat.le_refl _) _) (grown_setCells _ _ _ _) (Nat.le_refl _) (by simp)
                have hth : (Z0.alloc (.cells (evc knZ) 30)).there Z0.heap.size 0 (evc (nx r k s V0)).size := by rw [evc_size hV0]; exact (Blk.new Z0 30 (evc knZ)).there
                have hei := evc_info (x := nx r k s V0) hV0
                have hone : (evc (nx r k s V0)).all (·.oneCell') = true := nx_one r k s V0 
                refine held_one (i := 12) (by kernel_rfl) rfl (fun Kq hK => ?_)
                rw [if_pos (by rfl)]
                refine wp_store_mid 30 _ _ rfl Z0.heap.size 0 (evc (nx r k s V0)) rfl rfl hth hei hone ?_
                refine hK.out _ _ (Keeps.of_below hbE) (fun _ => ?_)
                clear hK Kq
                try simp only [Act.put, List.setIfInBounds_toArray, List.set_cons_zero, List.set_cons_succ]
                refine wpAnyH_done (by kernel_rfl) ?_ _
                have hzs := Zb.size
                have YB := ZB.below hbE ZB.lt
                have YF := ZF.below hbE ZF.lt
                have Yb := Zb.trans (hbE.mono hzs)
                simp only [List.getElem_toArray, List.getElem_cons_succ, List.getElem_cons_zero]
                change Exit.then _ _ _ _ ((Z0.alloc (.cells (evc knZ) 30)).setCells Z0.heap.size 0 (evc (nx r k s V0)).toList)
                generalize (Z0.alloc (.cells (evc knZ) 30)).setCells Z0.heap.size 0 (evc (nx r k s V0)).toList = Y0 at hE YB YF Yb ⊢
                obtain ⟨gE, hgE⟩ : ∃ g, g = Z0.heap.size := ⟨_, rfl⟩
                rw [← hgE] at hE hzs ⊢
                clear hgE
                clear hbE hth hei hone ZB ZF Zb hstr hrF HBD HBE
                have hcE := ev_at hE hV0 r hr16
                have hfE := hE.frozen (4 + r)
                have hstE := hE.set_ (4 + r) (.int .u64 (k : Int))
                rw [evc_set r k (by show r < V0.length; omega)] at hstE
                have hwk0 : IntKind.u64.wrap (k : Int) = (k : Int) := by rw [IntKind.wrap_u64]; omega
                go_upto_region 20 with fail
                change Code.wp _ _ _ _ (Y0.setCell ⟨gE, 4 + r, none⟩ (.int .u64 (k : Int)))
                have hE1 : Blk (Y0.setCell ⟨gE, 4 + r, none⟩ (.int .u64 (k : Int))) gE 30 (evc (nx r k s (V0.set r k))) := hstE
                have hB1 := YB.far (p := ⟨gE, 4 + r, none⟩) (by show w.heap.size ≠ gE; intro e; rw [e] at YB; exact absurd (YB.symm.trans hE) (by intro h; injection h with h; injection h with _ h2; cases h2)) (.int .u64 (k : Int))
                have hF1 := YF.far (p := ⟨gE, 4 + r, none⟩) (by show gF ≠ gE; intro e; rw [e] at YF; exact absurd (YF.symm.trans hE) (by intro h; injection h with h; injection h with _ h2; cases h2)) (.int .u64 (k : Int))
                have hb1 := Below.only Yb (grown_setCell Y0 gE (4 + r) (.int .u64 (k : Int))) hzs Yb.size
                generalize Y0.setCell ⟨gE, 4 + r, none⟩ (.int .u64 (k : Int)) = Y1 at hE1 hB1 hF1 hb1 ⊢
                clear hE YB YF Yb hcE hfE hstE
                obtain ⟨X1, hX1⟩ : ∃ X, X = nx r k s (V0.set r k) := ⟨_, rfl⟩
                have hVi : (V0.set r i).length = 16 := by simpa using hV0
                have hx1 : X1.V.length = 16 := by rw [hX1]; show (V0.set r k).length = 16; simpa using hV0
                have hi60 : i ≤ 60 := by have := HI.out; omega
                have hrd : ∀ W, Calls Try.prog 23 #[.agg (evc X1), .agg (uqs (V0.set r i))] W fun e w' => e = .returned (.bool (decide (i = k))) ∧ Grw W w' := fun W => by
                  have h := eready_any (nx r k s (V0.set r k)) (V0.set r i) W (nx_ok W r k s _ (by simpa using hV0) (fun n hn => by
                    rcases List.mem_or_eq_of_mem_set hn with h | h
                    · have := Hle.out n h; unfold top at this; omega
                    · omega)) hVi (fun n hn => by
                    rcases List.mem_or_eq_of_mem_set hn with h | h
                    · have := Hle.out n h; unfold top at this; omega
                    · omega)
                  rw [nx_rdy hV0 hr16 Hle.out (by omega) HNs.out, ← hX1] at h
                  exact h
                have hun : ∀ W, Calls Try.prog 20 #[.agg (uqs (V0.set r i)), .agg #[.int .i64 ((r : Int) + 1), .int .u64 ((k : Int) + 1)]] W fun e w' => e = .returned (.bool (decide (k < i))) ∧ Grw W w' := fun W => by
                  have h := eunder_any (V0.set r i) ((r : Int) + 1, k + 1) W hVi
                  rw [nx_und hV0 hr16 (by omega)] at h
                  exact h
                rw [← hX1] at hE1
                have HID1 := Lib.hid (show X1.id.1 = (r : Int) + 1 by rw [hX1]; rfl)
                have HID2 := Lib.hid (show ((X1.id.2 : Nat) : Int) = (k : Int) + 1 by rw [hX1]; rfl)
                have HX1 := Lib.hid hX1
                clear hX1
                rcases Nat.lt_trichotomy i k with h | h | h
                · have c1 : ((i : Int) == (k : Int)) = false := by rw [beq_eq_false_iff_ne]; omega
                  have c2 : decide ((k : Int) < (i : Int)) = false := decide_eq_false (by omega)
                  have c3 : ¬ (k : Int) < (i : Int) := by omega
                  rw [decide_eq_false (show ¬ i = k by omega)] at hrd
                  rw [decide_eq_false (show ¬ k < i by omega)] at hun
                  clear h
                  go_wp2_with (first | (refine wpList_load_mid_g (by rfl) 30 _ rfl gE 0 rfl (evc X1) _ (ev_all hE1) Try.underlying30 rfl (evc_info hx1) ?_; try simp only [Act.put, List.setIfInBounds_toArray, List.set_cons_zero, List.set_cons_succ]) | (refine wpList_load_mid_g (by rfl) 27 _ rfl (w.heap.size) 0 rfl (uqs (V0.set r i)) _ (uqs_range hB1) Try.underlying27 rfl (uqs_info hVi) ?_; try simp only [Act.put, List.setIfInBounds_toArray, List.set_cons_zero, List.set_cons_succ]) | (refine wpList_load_mid_g (by rfl) 27 _ rfl (w.heap.size) 0 rfl (uqs (V0.set r i)) _ (uqs_range hB2) Try.underlying27 rfl (uqs_info hVi) ?_; try simp only [Act.put, List.setIfInBounds_toArray, List.set_cons_zero, List.set_cons_succ]) | (go_at_call 23; refine (hrd _).mono ?_; rintro e w6 ⟨rfl, hg6⟩; have hE2 := hE1.below hg6.below hE1.lt; have hB2 := hB1.below hg6.below hB1.lt; have p0 := ev_0 hE2; have p1 := ev_1 hE2; rw [HID1.out] at p0; rw [HID2.out] at p1) | (go_at_call 20; refine (hun _).mono ?_; rintro e w7 ⟨rfl, hg7⟩))
                  refine ⟨⟨k + 1, by go_num, HKL.out, hB1.below (hg6.trans hg7).below hB1.lt, hF1.below (hg6.trans hg7).below hF1.lt, hb1.trans ((hg6.trans hg7).below.mono hb1.size)⟩, by simp [intOf]; have := HKL.out; omega⟩
                · have c1 : ((i : Int) == (k : Int)) = true := by rw [beq_iff_eq]; omega
                  have c2 : decide ((k : Int) < (i : Int)) = false := decide_eq_false (by omega)
                  have c3 : ¬ (k : Int) < (i : Int) := by omega
                  rw [decide_eq_true h] at hrd
                  rw [decide_eq_false (show ¬ k < i by omega)] at hun
                  clear h
                  go_wp2_with (first | (refine wpList_load_mid_g (by rfl) 30 _ rfl gE 0 rfl (evc X1) _ (ev_all hE1) Try.underlying30 rfl (evc_info hx1) ?_; try simp only [Act.put, List.setIfInBounds_toArray, List.set_cons_zero, List.set_cons_succ]) | (refine wpList_load_mid_g (by rfl) 27 _ rfl (w.heap.size) 0 rfl (uqs (V0.set r i)) _ (uqs_range hB1) Try.underlying27 rfl (uqs_info hVi) ?_; try simp only [Act.put, List.setIfInBounds_toArray, List.set_cons_zero, List.set_cons_succ]) | (refine wpList_load_mid_g (by rfl) 27 _ rfl (w.heap.size) 0 rfl (uqs (V0.set r i)) _ (uqs_range hB2) Try.underlying27 rfl (uqs_info hVi) ?_; try simp only [Act.put, List.setIfInBounds_toArray, List.set_cons_zero, List.set_cons_succ]) | (go_at_call 23; refine (hrd _).mono ?_; rintro e w6 ⟨rfl, hg6⟩; have hE2 := hE1.below hg6.below hE1.lt; have hB2 := hB1.below hg6.below hB1.lt; have p0 := ev_0 hE2; have p1 := ev_1 hE2; rw [HID1.out] at p0; rw [HID2.out] at p1) | (go_at_call 20; refine (hun _).mono ?_; rintro e w7 ⟨rfl, hg7⟩))
                  refine ⟨⟨k + 1, by go_num, HKL.out, hB1.below (hg6.trans hg7).below hB1.lt, hF1.below (hg6.trans hg7).below hF1.lt, hb1.trans ((hg6.trans hg7).below.mono hb1.size)⟩, by simp [intOf]; have := HKL.out; omega⟩
                · have c1 : ((i : Int) == (k : Int)) = false := by rw [beq_eq_false_iff_ne]; omega
                  have c2 : decide ((k : Int) < (i : Int)) = true := decide_eq_true (by omega)
                  have c3 : (k : Int) < (i : Int) := by omega
                  rw [decide_eq_false (show ¬ i = k by omega)] at hrd
                  rw [decide_eq_true (show k < i by omega)] at hun
                  clear h
                  go_wp2_with (first | (refine wpList_load_mid_g (by rfl) 30 _ rfl gE 0 rfl (evc X1) _ (ev_all hE1) Try.underlying30 rfl (evc_info hx1) ?_; try simp only [Act.put, List.setIfInBounds_toArray, List.set_cons_zero, List.set_cons_succ]) | (refine wpList_load_mid_g (by rfl) 27 _ rfl (w.heap.size) 0 rfl (uqs (V0.set r i)) _ (uqs_range hB1) Try.underlying27 rfl (uqs_info hVi) ?_; try simp only [Act.put, List.setIfInBounds_toArray, List.set_cons_zero, List.set_cons_succ]) | (refine wpList_load_mid_g (by rfl) 27 _ rfl (w.heap.size) 0 rfl (uqs (V0.set r i)) _ (uqs_range hB2) Try.underlying27 rfl (uqs_info hVi) ?_; try simp only [Act.put, List.setIfInBounds_toArray, List.set_cons_zero, List.set_cons_succ]) | (go_at_call 23; refine (hrd _).mono ?_; rintro e w6 ⟨rfl, hg6⟩; have hE2 := hE1.below hg6.below hE1.lt; have hB2 := hB1.below hg6.below hB1.lt; have p0 := ev_0 hE2; have p1 := ev_1 hE2; rw [HID1.out] at p0; rw [HID2.out] at p1) | (go_at_call 20; refine (hun _).mono ?_; rintro e w7 ⟨rfl, hg7⟩))
                  refine ⟨⟨k + 1, by go_num, HKL.out, hB1.below (hg6.trans hg7).below hB1.lt, hF1.below (hg6.trans hg7).below hF1.lt, hb1.trans ((hg6.trans hg7).below.mono hb1.size)⟩, by simp [intOf]; have := HKL.out; omega⟩
              · obtain rfl : k = L.length := by omega
                have hcr : wr.cell? ⟨w.heap.size, r, none⟩ = some (.int .u64 (i : Int)) := by
                  rw [hB.cell, uqs_get _ r (by simpa using (by omega : r < V0.length)), getD_set V0 r i r (by omega), if_pos rfl]
                have hfz := hB.frozen r
                have hst := hB.set_ r (.int .u64 ((i + 1 : Nat) : Int))
                rw [uqs_set, List.set_set] at hst
                have hbst := Below.only hb (grown_setCell wr w.heap.size r (.int .u64 ((i + 1 : Nat) : Int))) (Nat.le_refl _) hb.size
                have hFst := hF.far (p := ⟨w.heap.size, r, none⟩) (by show gF ≠ w.heap.size; omega) (.int .u64 ((i + 1 : Nat) : Int))
                have hlti : (i : Int) < 60 := by have := HLT.out; omega
                clear hkl hk
                have hwi : IntKind.u64.wrap ((i : Int) + 1) = (i : Int) + 1 := by rw [IntKind.wrap_u64]; omega
                have HI2 := Lib.hid (show i < L.length from HLT.out)
                go_wp2
                exact ⟨⟨i + 1, by go_num, HI2.out, hst, hFst, hbst⟩, by simp [intOf]; have := HI2.out; omega⟩
          · obtain rfl : i = L.length := by omega
            clear hlt hi
            go_wp2_with (go_at_call 8; refine (known_any _).mono ?_; rintro e wk ⟨rfl, hgk⟩)
            go_ret
            exact ⟨rfl, hb.trans (hgk.below.mono hb.size)⟩
end Go.Proofs.Ytigepbklpiilpaa

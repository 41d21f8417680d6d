/-
  The law MerklePaths.
-/
import Derived.Test.YtdbhffkfkklehaaDoorMkStandsA
import Derived.Test.YtdbhffkfkklehaaDoorMkSteps
namespace Go.Proofs.YtdbhffkfkklehaaDoor
open Go.RowKit
set_option linter.unusedVariables false
set_option linter.unusedSimpArgs false
set_option maxRecDepth 100000

/-- The node beside. -/
def besideN (n : Nat) : Nat := if n % 2 = 0 then n + 1 else n - 1
theorem xor_fin : ∀ n : Fin 128, bits .xor .i64 ((n.val : Nat) : Int) 1 = ((besideN n.val : Nat) : Int) := by decide
theorem xor_beside (n : Nat) (h : n < 128) : bits .xor .i64 (n : Int) 1 = ((besideN n : Nat) : Int) := xor_fin ⟨n, h⟩
/-- The law's loop of steps, done to a tree. -/
def PTree (w : World) (g : Nat) (wr : World) : Prop := ∃ K, Tr wr g K ∧ Good K ∧ Below w.heap.size w wr

set_option maxHeartbeats 4000000 in
theorem merklePaths_any (w : World) (v : Value) (L : List MSt) (bk : Int) (h : Mts w v L) (hg : Gl w) : Calls Tryd.prog 6 #[v, .int .i64 bk] w fun e w' => e = .returned (.bool true) ∧ Below w.heap.size w w' := by
  have hfo : Tryd.prog.follows .mixedOrders = true := by kernel_rfl
  obtain ⟨j0, hj, hj0, hj1, hj2⟩ := info_parts info_u8
  have HS := Lib.hid h
  obtain ⟨A, c, rfl, hc, ha⟩ := h
  clear ha
  go_enter Tryd.func6, Tryd.ntmps6
  go_wp2_with fail
  refine (much_any _ L w HS.out).mono ?_
  rintro e w0 ⟨r, rfl, hb0, hr⟩
  have HB0 := Lib.hid hb0
  have HR := Lib.hid hr
  clear hb0 hr
  by_cases hno : r = true ∨ bk < 0 ∨ 64 ≤ bk
  · have hno' : r = true ∨ (r = false ∧ bk < 0) ∨ (r = false ∧ ¬ bk < 0 ∧ 64 ≤ bk) := by
      cases r with
      | true => exact .inl rfl
      | false =>
        rcases hno with h | h | h
        · exact .inl h
        · exact .inr (.inl ⟨rfl, h⟩)
        · exact .inr (.inr ⟨rfl, by omega, h⟩)
    clear hno HR
    rcases hno' with rfl | ⟨rfl, h1⟩ | ⟨rfl, h1, h2⟩
    all_goals go_wp2_with fail
    all_goals refine (known_any w0 (hg.below HB0.out)).mono ?_
    all_goals rintro e w1 ⟨rfl, hb1⟩
    all_goals have HB1 := Lib.hid (HB0.out.trans (hb1.mono HB0.out.size))
    all_goals clear hb1
    all_goals go_wp2
    all_goals go_ret
    all_goals exact ⟨rfl, HB1.out⟩
  · obtain rfl : r = false := by
      cases r with
      | true => exact absurd (.inl rfl) hno
      | false => rfl
    obtain ⟨bq, rfl⟩ : ∃ b : Nat, bk = (b : Int) := ⟨bk.toNat, by omega⟩
    have hbq : bq < 64 := by omega
    have h1 : ¬ ((bq : Int)) < 0 := by omega
    have h2 : ¬ (64 : Int) ≤ (bq : Int) := by omega
    have HFew := Lib.hid (HR.out rfl)
    have hL40 : L.length ≤ 40 := HFew.out.1
    clear hno HR
    go_wp2_with fail
    refine (new_any w0 (hg.below HB0.out)).mono ?_
    rintro e w1 ⟨g, K0, rfl, hgg, ht, hgood, hlv, hb1⟩
    have HP := Lib.hid (show PTree w g w1 from ⟨K0, ht, hgood, HB0.out.trans (hb1.mono HB0.out.size)⟩)
    have HGG := Lib.hid (Nat.le_trans HB0.out.size hgg)
    clear hgg ht hgood hlv hb1 h1 h2
    go_wp2
    go_loopw [6] (fun z wr => ∃ i : Nat, z = .int .i64 (i : Int) ∧ i ≤ L.length ∧ PTree w g wr) (fun z _ => L.length - (intOf z).toNat)
    case atStart => exact ⟨0, rfl, Nat.zero_le _, HP.out⟩
    case round =>
      clear HP
      obtain ⟨i, rfl, hi, KT, ht, hgood, hb⟩ := hrel
      have HT := Lib.hid ht
      have HGK := Lib.hid hgood
      have HB := Lib.hid hb
      clear ht hgood hb
      by_cases hlt : i < L.length
      · obtain ⟨A', c', e', _, ha⟩ := HS.out.below HB.out
        injection e' with e1 e2 e3
        subst e1 e3
        clear e2
        obtain ⟨b, o, rfl, hx⟩ := ha (by omega)
        obtain ⟨k0, k1, k2, hn1, hn2⟩ := hx i hlt
        have h9000 := HFew.out.2 _ (List.getElem_mem hlt)
        obtain ⟨b2, o2, e', hx2⟩ : ∃ b2 o2, (some (⟨b, o, none⟩ : Addr)) = some ⟨b2, o2, none⟩ ∧ b2 < w.heap.size := by
          obtain ⟨A', c', e', _, ha⟩ := HS.out
          injection e' with e1 e2 e3
          obtain ⟨b2, o2, e4, hx2⟩ := ha (by omega)
          exact ⟨b2, o2, e1.trans e4, World.block_lt_of_cell? w _ (hx2 0 (by omega)).1⟩
        injection e' with e'
        injection e' with eb eo _
        subst eb eo
        have HNB := Lib.hid (show some b ≠ some g by intro e; injection e with e; have := HGG.out; omega)
        have K0 := Lib.hid (show wr.drew.cell? ⟨b, o + i * 2, none⟩ = some (.int .i64 L[i].n) from k0)
        have K1 := Lib.hid (show wr.drew.cell? ⟨b, o + i * 2 + 1, none⟩ = some L[i].bv from k1)
        have HSb := Lib.hid (show Sl wr.drew L[i].bv L[i].b from k2)
        have HTz := Lib.hid (show Tr wr.drew g KT from HT.out.drew)
        have HBz := Lib.hid (show Below w.heap.size w wr.drew from HB.out.drew)
        generalize L[i].n = n at K0 hn1 hn2
        generalize L[i].bv = bv' at K1 HSb
        generalize L[i].b = bs at HSb h9000
        have hi1 : (i : Int) < (L.length : Int) := by omega
        clear k0 k1 k2 hx ha hx2
        by_cases hin : 0 ≤ n ∧ n < 64
        · obtain ⟨q, rfl⟩ : ∃ q : Nat, n = (q : Int) := ⟨n.toNat, by omega⟩
          have hq64 : q < 64 := by omega
          go_wp2_with fail
          refine wp_region_held_drew (S := fun X => World.grownBy wr.drew X (some g)) hfo (grown_refl _ _) (fun hS0 => ?_)
          generalize wr.drew = Z0 at *
          refine' wpAnyH_take (i := 0) (oi := ⟨some 33, _, _, _, _, _⟩) (v := _) rfl (by kernel_rfl) (by kernel_rfl) (by kernel_rfl) (fun _ _ _ h => h) (Or.inl ⟨by rfl, ?y0⟩) hS0 ?r0
          case y0 => (intro w' hSw; have d0 := hSw.cell (K0.out) HNB.out; have d1 := hSw.cell (K1.out) HNB.out; go_simp; try rfl)
          try simp only [Act.put, List.setIfInBounds_toArray, List.set_cons_zero, List.set_cons_succ]
          refine' wpAnyH_take (i := 1) (oi := ⟨some 34, _, _, _, _, _⟩) (v := _) rfl (by kernel_rfl) (by kernel_rfl) (by kernel_rfl) (fun _ _ _ h => h) (Or.inl ⟨by rfl, ?y1⟩) hS0 ?r1
          case y1 => (intro w' hSw; have d0 := hSw.cell (K0.out) HNB.out; have d1 := hSw.cell (K1.out) HNB.out; go_simp; try rfl)
          try simp only [Act.put, List.setIfInBounds_toArray, List.set_cons_zero, List.set_cons_succ]
          refine' wpAnyH_take (i := 2) (oi := ⟨some 35, _, _, _, _, _⟩) (v := _) rfl (by kernel_rfl) (by kernel_rfl) (by kernel_rfl) (fun _ _ _ h => h) (Or.inl ⟨by rfl, ?y2⟩) hS0 ?r2
          case y2 => (intro w' hSw; have d0 := hSw.cell (K0.out) HNB.out; have d1 := hSw.cell (K1.out) HNB.out; go_simp; try rfl)
          try simp only [Act.put, List.setIfInBounds_toArray, List.set_cons_zero, List.set_cons_succ]
          refine' wpAnyH_take (i := 3) (oi := ⟨some 36, _, _, _, _, _⟩) (v := _) rfl (by kernel_rfl) (by kernel_rfl) (by kernel_rfl) (fun _ _ _ h => h) (Or.inl ⟨by rfl, ?y3⟩) hS0 ?r3
          case y3 => (intro w' hSw; have d0 := hSw.cell (K0.out) HNB.out; have d1 := hSw.cell (K1.out) HNB.out; go_simp; try rfl)
          try simp only [Act.put, List.setIfInBounds_toArray, List.set_cons_zero, List.set_cons_succ]
          refine' wpAnyH_take (i := 4) (oi := ⟨some 37, _, _, _, _, _⟩) (v := _) rfl (by kernel_rfl) (by kernel_rfl) (by kernel_rfl) (fun _ _ _ h => h) (Or.inl ⟨by rfl, ?y4⟩) hS0 ?r4
          case y4 => (intro w' hSw; have d0 := hSw.cell (K0.out) HNB.out; have d1 := hSw.cell (K1.out) HNB.out; go_simp; try rfl)
          try simp only [Act.put, List.setIfInBounds_toArray, List.set_cons_zero, List.set_cons_succ]
          refine' wpAnyH_take (i := 5) (oi := ⟨some 38, _, _, _, _, _⟩) (v := _) rfl (by kernel_rfl) (by kernel_rfl) (by kernel_rfl) (fun _ _ _ h => h) (Or.inl ⟨by rfl, ?y5⟩) hS0 ?r5
          case y5 => (intro w' hSw; have d0 := hSw.cell (K0.out) HNB.out; have d1 := hSw.cell (K1.out) HNB.out; go_simp; try rfl)
          try simp only [Act.put, List.setIfInBounds_toArray, List.set_cons_zero, List.set_cons_succ]
          refine' wpAnyH_take (i := 6) (oi := ⟨some 39, _, _, _, _, _⟩) (v := _) rfl (by kernel_rfl) (by kernel_rfl) (by kernel_rfl) (fun _ _ _ h => h) (Or.inl ⟨by rfl, ?y6⟩) hS0 ?r6
          case y6 => (intro w' hSw; have d0 := hSw.cell (K0.out) HNB.out; have d1 := hSw.cell (K1.out) HNB.out; go_simp; try rfl)
          try simp only [Act.put, List.setIfInBounds_toArray, List.set_cons_zero, List.set_cons_succ]
          refine' wpAnyH_take (i := 7) (oi := ⟨some 40, _, _, _, _, _⟩) (v := _) rfl (by kernel_rfl) (by kernel_rfl) (by kernel_rfl) (fun _ _ _ h => h) (Or.inl ⟨by rfl, ?y7⟩) hS0 ?r7
          case y7 => (intro w' hSw; have d0 := hSw.cell (K0.out) HNB.out; have d1 := hSw.cell (K1.out) HNB.out; go_simp; try rfl)
          try simp only [Act.put, List.setIfInBounds_toArray, List.set_cons_zero, List.set_cons_succ]
          refine' wpAnyH_take (i := 8) (oi := ⟨some 41, _, _, _, _, _⟩) (v := _) rfl (by kernel_rfl) (by kernel_rfl) (by kernel_rfl) (fun _ _ _ h => h) (Or.inl ⟨by rfl, ?y8⟩) hS0 ?r8
          case y8 => (intro w' hSw; have d0 := hSw.cell (K0.out) HNB.out; have d1 := hSw.cell (K1.out) HNB.out; go_simp; try rfl)
          try simp only [Act.put, List.setIfInBounds_toArray, List.set_cons_zero, List.set_cons_succ]
          refine' wpAnyH_take (i := 9) (oi := ⟨some 42, _, _, _, _, _⟩) (v := _) rfl (by kernel_rfl) (by kernel_rfl) (by kernel_rfl) (fun _ _ _ h => h) (Or.inl ⟨by rfl, ?y9⟩) hS0 ?r9
          case y9 => (intro w' hSw; have d0 := hSw.cell (K0.out) HNB.out; have d1 := hSw.cell (K1.out) HNB.out; go_simp; try rfl)
          try simp only [Act.put, List.setIfInBounds_toArray, List.set_cons_zero, List.set_cons_succ]
          refine' wpAnyH_take (i := 10) (oi := ⟨some 43, _, _, _, _, _⟩) (v := _) rfl (by kernel_rfl) (by kernel_rfl) (by kernel_rfl) (fun _ _ _ h => h) (Or.inl ⟨by rfl, ?y10⟩) hS0 ?r10
          case y10 => (intro w' hSw; have d0 := hSw.cell (K0.out) HNB.out; have d1 := hSw.cell (K1.out) HNB.out; go_simp; try rfl)
          try simp only [Act.put, List.setIfInBounds_toArray, List.set_cons_zero, List.set_cons_succ]
          refine held_one (i := 11) (by kernel_rfl) rfl (fun K hK => ?_)
          go_simp
          refine (set_tree Z0 g KT HTz.out HGK.out q hq64 _ _ HSb.out (by omega) (hg.below HBz.out)).mono ?_
          rintro e Z1 ⟨M, rfl, ht1, hgood1, hlv1, hgr1⟩
          have hS1 := hS0.trans hgr1
          refine hK.out _ _ hS1 (fun _ => ?_)
          clear hK K
          try simp only [Act.put, List.setIfInBounds_toArray, List.set_cons_zero, List.set_cons_succ]
          refine wpAnyH_done (by kernel_rfl) ?_ _
          have HPF := Lib.hid (show PTree w g Z1 from ⟨M, ht1, hgood1, Below.only HBz.out hgr1 HGG.out HBz.out.size⟩)
          clear hS0 hS1 ht1 hgood1 hlv1 hgr1
          go_wp2
          go_roundw
          case rel => exact ⟨i + 1, by go_num, by omega, HPF.out⟩
          case measure => simp [intOf]; omega
        · have hn : n < 0 ∨ 64 ≤ n := by omega
          clear hin
          go_wp2_with fail
          refine wp_region_held_drew (S := fun X => World.grownBy wr.drew X (some g)) hfo (grown_refl _ _) (fun hS0 => ?_)
          generalize wr.drew = Z0 at *
          refine' wpAnyH_take (i := 0) (oi := ⟨some 33, _, _, _, _, _⟩) (v := _) rfl (by kernel_rfl) (by kernel_rfl) (by kernel_rfl) (fun _ _ _ h => h) (Or.inl ⟨by rfl, ?y0B⟩) hS0 ?r0B
          case y0B => (intro w' hSw; have d0 := hSw.cell (K0.out) HNB.out; have d1 := hSw.cell (K1.out) HNB.out; go_simp; try rfl)
          try simp only [Act.put, List.setIfInBounds_toArray, List.set_cons_zero, List.set_cons_succ]
          refine' wpAnyH_take (i := 1) (oi := ⟨some 34, _, _, _, _, _⟩) (v := _) rfl (by kernel_rfl) (by kernel_rfl) (by kernel_rfl) (fun _ _ _ h => h) (Or.inl ⟨by rfl, ?y1B⟩) hS0 ?r1B
          case y1B => (intro w' hSw; have d0 := hSw.cell (K0.out) HNB.out; have d1 := hSw.cell (K1.out) HNB.out; go_simp; try rfl)
          try simp only [Act.put, List.setIfInBounds_toArray, List.set_cons_zero, List.set_cons_succ]
          refine' wpAnyH_take (i := 2) (oi := ⟨some 35, _, _, _, _, _⟩) (v := _) rfl (by kernel_rfl) (by kernel_rfl) (by kernel_rfl) (fun _ _ _ h => h) (Or.inl ⟨by rfl, ?y2B⟩) hS0 ?r2B
          case y2B => (intro w' hSw; have d0 := hSw.cell (K0.out) HNB.out; have d1 := hSw.cell (K1.out) HNB.out; go_simp; try rfl)
          try simp only [Act.put, List.setIfInBounds_toArray, List.set_cons_zero, List.set_cons_succ]
          refine' wpAnyH_take (i := 3) (oi := ⟨some 36, _, _, _, _, _⟩) (v := _) rfl (by kernel_rfl) (by kernel_rfl) (by kernel_rfl) (fun _ _ _ h => h) (Or.inl ⟨by rfl, ?y3B⟩) hS0 ?r3B
          case y3B => (intro w' hSw; have d0 := hSw.cell (K0.out) HNB.out; have d1 := hSw.cell (K1.out) HNB.out; go_simp; try rfl)
          try simp only [Act.put, List.setIfInBounds_toArray, List.set_cons_zero, List.set_cons_succ]
          refine' wpAnyH_take (i := 4) (oi := ⟨some 37, _, _, _, _, _⟩) (v := _) rfl (by kernel_rfl) (by kernel_rfl) (by kernel_rfl) (fun _ _ _ h => h) (Or.inl ⟨by rfl, ?y4B⟩) hS0 ?r4B
          case y4B => (intro w' hSw; have d0 := hSw.cell (K0.out) HNB.out; have d1 := hSw.cell (K1.out) HNB.out; go_simp; try rfl)
          try simp only [Act.put, List.setIfInBounds_toArray, List.set_cons_zero, List.set_cons_succ]
          refine' wpAnyH_take (i := 5) (oi := ⟨some 38, _, _, _, _, _⟩) (v := _) rfl (by kernel_rfl) (by kernel_rfl) (by kernel_rfl) (fun _ _ _ h => h) (Or.inl ⟨by rfl, ?y5B⟩) hS0 ?r5B
          case y5B => (intro w' hSw; have d0 := hSw.cell (K0.out) HNB.out; have d1 := hSw.cell (K1.out) HNB.out; go_simp; try rfl)
          try simp only [Act.put, List.setIfInBounds_toArray, List.set_cons_zero, List.set_cons_succ]
          refine' wpAnyH_take (i := 6) (oi := ⟨some 39, _, _, _, _, _⟩) (v := _) rfl (by kernel_rfl) (by kernel_rfl) (by kernel_rfl) (fun _ _ _ h => h) (Or.inl ⟨by rfl, ?y6B⟩) hS0 ?r6B
          case y6B => (intro w' hSw; have d0 := hSw.cell (K0.out) HNB.out; have d1 := hSw.cell (K1.out) HNB.out; go_simp; try rfl)
          try simp only [Act.put, List.setIfInBounds_toArray, List.set_cons_zero, List.set_cons_succ]
          refine' wpAnyH_take (i := 7) (oi := ⟨some 40, _, _, _, _, _⟩) (v := _) rfl (by kernel_rfl) (by kernel_rfl) (by kernel_rfl) (fun _ _ _ h => h) (Or.inl ⟨by rfl, ?y7B⟩) hS0 ?r7B
          case y7B => (intro w' hSw; have d0 := hSw.cell (K0.out) HNB.out; have d1 := hSw.cell (K1.out) HNB.out; go_simp; try rfl)
          try simp only [Act.put, List.setIfInBounds_toArray, List.set_cons_zero, List.set_cons_succ]
          refine' wpAnyH_take (i := 8) (oi := ⟨some 41, _, _, _, _, _⟩) (v := _) rfl (by kernel_rfl) (by kernel_rfl) (by kernel_rfl) (fun _ _ _ h => h) (Or.inl ⟨by rfl, ?y8B⟩) hS0 ?r8B
          case y8B => (intro w' hSw; have d0 := hSw.cell (K0.out) HNB.out; have d1 := hSw.cell (K1.out) HNB.out; go_simp; try rfl)
          try simp only [Act.put, List.setIfInBounds_toArray, List.set_cons_zero, List.set_cons_succ]
          refine' wpAnyH_take (i := 9) (oi := ⟨some 42, _, _, _, _, _⟩) (v := _) rfl (by kernel_rfl) (by kernel_rfl) (by kernel_rfl) (fun _ _ _ h => h) (Or.inl ⟨by rfl, ?y9B⟩) hS0 ?r9B
          case y9B => (intro w' hSw; have d0 := hSw.cell (K0.out) HNB.out; have d1 := hSw.cell (K1.out) HNB.out; go_simp; try rfl)
          try simp only [Act.put, List.setIfInBounds_toArray, List.set_cons_zero, List.set_cons_succ]
          refine' wpAnyH_take (i := 10) (oi := ⟨some 43, _, _, _, _, _⟩) (v := _) rfl (by kernel_rfl) (by kernel_rfl) (by kernel_rfl) (fun _ _ _ h => h) (Or.inl ⟨by rfl, ?y10B⟩) hS0 ?r10B
          case y10B => (intro w' hSw; have d0 := hSw.cell (K0.out) HNB.out; have d1 := hSw.cell (K1.out) HNB.out; go_simp; try rfl)
          try simp only [Act.put, List.setIfInBounds_toArray, List.set_cons_zero, List.set_cons_succ]
          refine held_one (i := 11) (by kernel_rfl) rfl (fun KB hK => ?_)
          go_simp
          refine (set_out Z0 g KT HTz.out n hn _ (HSb.out.shape)).mono ?_
          rintro e Z1 ⟨rfl, hb1⟩
          have hS1 := hS0.trans (grown_of_below hb1 (some g))
          refine hK.out _ _ hS1 (fun _ => ?_)
          clear hK KB
          try simp only [Act.put, List.setIfInBounds_toArray, List.set_cons_zero, List.set_cons_succ]
          refine wpAnyH_done (by kernel_rfl) ?_ _
          have HPF := Lib.hid (show PTree w g Z1 from ⟨KT, HTz.out.past hb1, HGK.out, HBz.out.trans (hb1.mono HBz.out.size)⟩)
          clear hS0 hS1 hb1 hn
          go_wp2
          go_roundw
          case rel => exact ⟨i + 1, by go_num, by omega, HPF.out⟩
          case measure => simp [intOf]; omega
      · obtain rfl : i = L.length := by omega
        clear hlt hi
        obtain ⟨p, hp⟩ : ∃ p : Nat, p = 64 + bq := ⟨_, rfl⟩
        have hp1 : 1 ≤ p := by omega
        have hp128 : p < 128 := by omega
        have HPI := Lib.hid (show (64 : Int) + (bq : Int) = (p : Int) by omega)
        clear hp
        go_upto_region 11 with (fail)
        rw [HPI.out]
        go_wp2_with fail
        refine (node_tree wr g KT HT.out p hp1 hp128).mono ?_
        rintro e w8 ⟨rfl, hb8⟩
        have h32 := HT.out.len p hp128
        obtain ⟨_, hi, h1, hs1⟩ := hc_facts h32
        rw [hcells_arr] at hi h1 hs1
        have HLen := Lib.hid HT.out.len
        obtain ⟨R, hR⟩ : ∃ R, rowB (KT p) = R := ⟨_, rfl⟩
        rw [hR] at hi h1 hs1 ⊢
        have HRR := Lib.hid hR
        clear hR h32
        have hN := Blk.new w8 39 (rowB (List.replicate 32 0))
        have hb9 : Below w8.heap.size w8 (w8.alloc (.cells (rowB (List.replicate 32 0)) 39)) := (Below.refl _ _).alloc (Nat.le_refl _) _
        have hZ : (rowB (List.replicate 32 0)).size = 32 := by rw [rowB_size, List.length_replicate]
        have hth : (w8.alloc (.cells (rowB (List.replicate 32 0)) 39)).there w8.heap.size 0 R.size := by rw [hs1, ← hZ]; exact hN.there
        have hgr := grown_setCells w8.heap.size R.toList 0 (w8.alloc (.cells (rowB (List.replicate 32 0)) 39))
        have HBE := Lib.hid (Below.only hb9 hgr (Nat.le_refl _) hb9.size)
        have HCELL := Lib.hid (hN.setRow (ds := R) (by rw [hs1, hZ]))
        clear hN hb9 hgr hZ
        go_upto_region 12 with (refine wpList_store_mid rfl 39 _ _ rfl w8.heap.size 0 R rfl rfl hth hi h1 ?_)
        change Code.wp _ _ _ _ ((w8.alloc (.cells (rowB (List.replicate 32 0)) 39)).setCells w8.heap.size 0 R.toList)
        generalize (w8.alloc (.cells (rowB (List.replicate 32 0)) 39)).setCells w8.heap.size 0 R.toList = w9 at HBE HCELL ⊢
        clear hth
        have hlt8 := HCELL.out.lt
        have HW9 := Lib.hid (HB.out.trans ((hb8.trans (HBE.out.mono hb8.size)).mono HB.out.size))
        have HT9 := Lib.hid ((HT.out.past hb8).past HBE.out)
        have HGH := Lib.hid (show w.heap.size ≤ w8.heap.size from Nat.le_trans HB.out.size hb8.size)
        have HNE := Lib.hid (show g ≠ w8.heap.size by have := (HT.out.past hb8).lt; omega)
        rw [← HRR.out] at HCELL
        generalize w8.heap.size = gh at HCELL HGH HNE ⊢
        clear HBE hb8 hi h1 hs1 hlt8 HB HT
        go_upto_block 2 with (fail)
        go_wp2
        go_loopw [7] (fun z wr => ∃ n : Nat, z = .int .i64 (n : Int) ∧ 1 ≤ n ∧ n < 128 ∧ Blk wr gh 39 (rowB (KT n)) ∧ Tr wr g KT ∧ Below w.heap.size w wr) (fun z _ => (intOf z).toNat)
        case atStart => exact ⟨p, rfl, hp1, hp128, HCELL.out, HT9.out, HW9.out⟩
        case round =>
          clear HCELL HT9 HW9
          obtain ⟨n, rfl, hn1, hn128, hcell, ht, hb⟩ := hrel
          have HCELL := Lib.hid hcell
          have HT := Lib.hid ht
          have HB := Lib.hid hb
          clear hcell ht hb
          by_cases hgt : 1 < n
          · have hq := xor_beside n hn128
            obtain ⟨q, hqq⟩ : ∃ q, besideN n = q := ⟨_, rfl⟩
            rw [hqq] at hq
            have hq1 : 1 ≤ q ∧ q < 128 ∧ (n % 2 = 0 → q = n + 1) ∧ (n % 2 = 1 → q + 1 = n) := by
              unfold besideN at hqq
              split at hqq <;> refine ⟨?_, ?_, ?_, ?_⟩ <;> omega
            obtain ⟨hq1, hq128, hqe, hqo⟩ := hq1
            clear hqq
            have hgt' : (1 : Int) < (n : Int) := by omega
            obtain ⟨hf, hfe⟩ : ∃ hf, hf = n / 2 := ⟨_, rfl⟩
            have HOK := Lib.hid (show shaN ([1] ++ KT (2 * hf) ++ KT (2 * hf + 1)) = KT hf by
              have := HGK.out hf (by omega) (by omega)
              unfold Ok nodeN at this
              rw [this]; simp)
            have HHF := Lib.hid (show (n : Int) / 2 = (hf : Int) by omega)
            have hf1 : 1 ≤ hf := by omega
            have hf128 : hf < 128 := by omega
            have hf64 : hf < 64 := by omega
            have hfn : hf < n := by omega
            have h32n := HLen.out n hn128
            have h32q := HLen.out q hq128
            have HODD := Lib.hid (show n % 2 = 1 → n = 2 * hf + 1 ∧ q = 2 * hf from fun h => by have := hqo h; omega)
            have HEVE := Lib.hid (show n % 2 = 0 → n = 2 * hf ∧ q = 2 * hf + 1 from fun h => by have := hqe h; omega)
            clear hqe hqo hfe
            go_wp2_with fail
            refine (node_tree wr g KT HT.out q hq1 hq128).mono ?_
            rintro e w5 ⟨rfl, hb5⟩
            obtain ⟨_, hi, h1, hs1⟩ := hc_facts h32q
            rw [hcells_arr] at hi h1 hs1
            obtain ⟨R2, hR2⟩ : ∃ R, rowB (KT q) = R := ⟨_, rfl⟩
            rw [hR2] at hi h1 hs1 ⊢
            have HR2 := Lib.hid hR2
            clear hR2 hq
            have hN := Blk.new w5 39 (rowB (List.replicate 32 0))
            have hb9 : Below w5.heap.size w5 (w5.alloc (.cells (rowB (List.replicate 32 0)) 39)) := (Below.refl _ _).alloc (Nat.le_refl _) _
            have hZ : (rowB (List.replicate 32 0)).size = 32 := by rw [rowB_size, List.length_replicate]
            have hth : (w5.alloc (.cells (rowB (List.replicate 32 0)) 39)).there w5.heap.size 0 R2.size := by rw [hs1, ← hZ]; exact hN.there
            have hgr := grown_setCells w5.heap.size R2.toList 0 (w5.alloc (.cells (rowB (List.replicate 32 0)) 39))
            have HBE := Lib.hid (Below.only hb9 hgr (Nat.le_refl _) hb9.size)
            have HCB := Lib.hid (hN.setRow (ds := R2) (by rw [hs1, hZ]))
            clear hN hb9 hgr hZ
            go_upto_region 14 with (refine wpList_store_mid rfl 39 _ _ rfl w5.heap.size 0 R2 rfl rfl hth hi h1 ?_)
            change Code.wp _ _ _ _ ((w5.alloc (.cells (rowB (List.replicate 32 0)) 39)).setCells w5.heap.size 0 R2.toList)
            generalize (w5.alloc (.cells (rowB (List.replicate 32 0)) 39)).setCells w5.heap.size 0 R2.toList = w6 at HBE HCB ⊢
            clear hth
            have HW6 := Lib.hid (hb5.trans (HBE.out.mono hb5.size))
            have HG5 := Lib.hid hb5.size
            rw [← HR2.out] at HCB
            generalize w5.heap.size = gb at HCB HG5 ⊢
            clear HBE hb5 hi h1 hs1
            go_upto_region 16 with (go_at_call 17; refine (num_any _ _).mono ?_; rintro e w' ⟨rfl, rfl⟩)
            have hC6 := HCELL.out.below HW6.out HCELL.out.lt
            have HC6 := Lib.hid hC6
            have ho1 : Own (w6.alloc (.cells #[.int .u8 1] 5)) w6.heap.size 5 (.slice (some ⟨w6.heap.size, 0, none⟩) 1 1) [1] := Own.of_new w6 w6.heap.size 5 _ [1] 1 (Nat.le_refl _) rfl rfl (by simp)
            have hsN : ∀ w', Below w6.heap.size w6 w' → Sl w' (.slice (some ⟨gh, 0, none⟩) 32 32) (KT n) := fun w' hb' => Sl.of_range (fun j v hv => by rw [Nat.zero_add, (hC6.below hb' hC6.lt).cell j, ← hcells_arr, List.getElem?_toArray]; exact hv) 32 32 h32n.symm (Nat.le_refl _)
            have hsQ : ∀ w', Below w6.heap.size w6 w' → Sl w' (.slice (some ⟨gb, 0, none⟩) 32 32) (KT q) := fun w' hb' => Sl.of_range (fun j v hv => by rw [Nat.zero_add, (HCB.out.below hb' HCB.out.lt).cell j, ← hcells_arr, List.getElem?_toArray]; exact hv) 32 32 h32q.symm (Nat.le_refl _)
            have HSN := Lib.hid hsN
            have HSQ := Lib.hid hsQ
            have hal6 : Below w6.heap.size w6 (w6.alloc (.cells #[.int .u8 1] 5)) := (Below.refl _ _).alloc (Nat.le_refl _) _
            have hl1 : [(1 : UInt8)].length + (KT n).length ≤ 1000000000 := by rw [h32n]; decide
            have hs6 := hsN _ hal6
            clear hsN hsQ hC6
            go_upto_region 17 with (at_builtin; refine wpList_append_bytes _ rfl _ _ 45 rfl w6.heap.size 5 j0 Tryd.underlying45 hj hj0 hj1 hj2 _ [1] rfl ho1 _ (KT n) rfl hs6 hl1 hal6.size ?_)
            intro v7 w7 ho7 hb7
            have HO7 := Lib.hid ho7
            have HB7 := Lib.hid (hal6.trans hb7)
            obtain ⟨A7, n7, c7, rfl⟩ := ho7.shape
            clear ho7 hb7 ho1 hs6 hl1 hal6
            go_upto_if 70 with (fail)
            go_cut [12] (fun x wc => Own wc w6.heap.size 5 x (1 :: (KT (2 * hf) ++ KT (2 * hf + 1))) ∧ Below w6.heap.size w6 wc)
            case first =>
              by_cases hod : n % 2 = 1
              · have hmod : (n : Int) % 2 = 1 := by omega
                obtain ⟨hx1, hx2⟩ := HODD.out hod
                have HXX := Lib.hid (show (1 : UInt8) :: (KT (2 * hf) ++ KT (2 * hf + 1)) = 1 :: (KT q ++ KT n) by rw [hx1, hx2])
                have ho8 : Own (w7.alloc (.cells #[.int .u8 1] 5)) w6.heap.size 5 (.slice (some ⟨w7.heap.size, 0, none⟩) 1 1) [1] := Own.of_new w7 w6.heap.size 5 _ [1] 1 HB7.out.size rfl rfl (by simp)
                have hal8 : Below w6.heap.size w6 (w7.alloc (.cells #[.int .u8 1] 5)) := HB7.out.alloc HB7.out.size _
                have hl8 : [(1 : UInt8)].length + (KT q).length ≤ 1000000000 := by rw [h32q]; decide
                have hs8 := HSQ.out _ hal8
                clear hod hx1 hx2
                go_wp2_with (at_builtin; refine wpList_append_bytes _ rfl _ _ 45 rfl w6.heap.size 5 j0 Tryd.underlying45 hj hj0 hj1 hj2 _ [1] rfl ho8 _ (KT q) rfl hs8 hl8 hal8.size ?_)
                intro v9 w9 ho9 hb9
                have HO9 := Lib.hid ho9
                have hb9' := hal8.trans hb9
                have hs9 := HSN.out _ hb9'
                have hl9 : ((1 : UInt8) :: KT q).length + (KT n).length ≤ 1000000000 := by rw [List.length_cons, h32n, h32q]; decide
                obtain ⟨A9, n9, c9, rfl⟩ := ho9.shape
                clear ho9 ho8 hs8 hl8 hal8 hb9 hmod
                go_wp2_with (at_builtin; refine wpList_append_bytes _ rfl _ _ 45 rfl w6.heap.size 5 j0 Tryd.underlying45 hj hj0 hj1 hj2 _ (1 :: KT q) rfl HO9.out _ (KT n) rfl hs9 hl9 hb9'.size ?_)
                intro v10 w10 ho10 hb10
                have HO10 := Lib.hid ho10
                have HB10 := Lib.hid (hb9'.trans hb10)
                clear ho10 hb10 hs9 hl9 hb9'
                go_wp2_with fail
                go_meet
                exact ⟨by rw [HXX.out]; simpa using HO10.out, HB10.out⟩
              · have hmod : (n : Int) % 2 = 0 := by omega
                obtain ⟨hx1, hx2⟩ := HEVE.out (by omega)
                have HXX := Lib.hid (show (1 : UInt8) :: (KT (2 * hf) ++ KT (2 * hf + 1)) = 1 :: (KT n ++ KT q) by rw [hx1, hx2])
                have hs8 := HSQ.out _ HB7.out
                have hl9 : ((1 : UInt8) :: KT n).length + (KT q).length ≤ 1000000000 := by rw [List.length_cons, h32n, h32q]; decide
                have hsz7 := HB7.out.size
                clear hod hx1 hx2
                go_wp2_with (at_builtin; refine wpList_append_bytes _ rfl _ _ 45 rfl w6.heap.size 5 j0 Tryd.underlying45 hj hj0 hj1 hj2 _ (1 :: KT n) rfl HO7.out _ (KT q) rfl hs8 hl9 hsz7 ?_)
                intro v10 w10 ho10 hb10
                have HO10 := Lib.hid ho10
                have HB10 := Lib.hid (HB7.out.trans hb10)
                clear ho10 hb10 hs8 hl9
                go_wp2_with fail
                go_meet
                exact ⟨by rw [HXX.out]; simpa using HO10.out, HB10.out⟩
            case rest =>
              obtain ⟨hown, hbw⟩ := hcut
              have HSW := Lib.hid hown.sl
              have HBW := Lib.hid hbw
              have hlm : ((1 : UInt8) :: (KT (2 * hf) ++ KT (2 * hf + 1))).length ≤ 1000000 := by rw [List.length_cons, List.length_append, HLen.out _ (by omega), HLen.out _ (by omega)]; decide
              have HLM := Lib.hid hlm
              clear hown hbw hlm
              go_wp2_with fail
              refine (refSum_any _ _ wc HSW.out HLM.out).mono ?_
              rintro e w8 ⟨rfl, hb8⟩
              have HSH := Lib.hid (show shaN ((1 : UInt8) :: (KT (2 * hf) ++ KT (2 * hf + 1))) = KT hf by rw [← HOK.out]; simp)
              rw [HSH.out]
              have h32f := HLen.out hf hf128
              obtain ⟨_, hi, h1, hs1⟩ := hc_facts h32f
              rw [hcells_arr] at hi h1 hs1
              have HB6' := Lib.hid (HBW.out.trans (hb8.mono HBW.out.size))
              have hc8 := HC6.out.below HB6'.out HC6.out.lt
              have HRF := Lib.hid (show rowB (KT hf) = rowB (KT hf) from rfl)
              have hsz : (rowB (KT hf)).size = (rowB (KT n)).size := by rw [hs1, rowB_size, h32n]
              have hE8 := hc8.setRow (ds := rowB (KT hf)) hsz
              have hgr8 := grown_setCells gh (rowB (KT hf)).toList 0 w8
              have HBX := Lib.hid (HB.out.trans ((HW6.out.trans (HB6'.out.mono HW6.out.size)).mono HB.out.size))
              have HBY := Lib.hid (Below.only HBX.out hgr8 HGH.out HBX.out.size)
              have HTY := Lib.hid (((HT.out.past HW6.out).past HB6'.out).grown hgr8 HNE.out)
              have HEY := Lib.hid hE8
              have hth : w8.there gh 0 (rowB (KT hf)).size := by rw [hsz]; exact hc8.there
              clear hc8 hsz hE8 hgr8 hb8
              generalize hRX : rowB (KT hf) = RX at hi h1 hs1 HEY HBY HTY hth
              have HRX := Lib.hid hRX
              clear hRX HRF
              go_wp2_with (refine wpList_store_mid rfl 39 _ _ rfl gh 0 RX rfl rfl hth hi h1 ?_)
              go_roundw
              case rel => exact ⟨hf, by rw [← HHF.out], hf1, hf128, by rw [HRX.out]; exact HEY.out, HTY.out, HBY.out⟩
              case measure => simp [intOf]; omega
          · obtain rfl : n = 1 := by omega
            clear hgt
            have hgt' : ¬ (1 : Int) < ((1 : Nat) : Int) := by decide
            have h32 := HLen.out 1 (by decide)
            obtain ⟨hil, _, _, _⟩ := hc_facts h32
            have HEQ := Lib.hid (fun w => hash_self (KT 1) h32 w)
            have HCR := Lib.hid (show wr.drew.rangeAt gh 0 (hcells (KT 1)) from fun j x hx => by rw [Nat.zero_add, HCELL.out.drew.cell j, ← hcells_arr, List.getElem?_toArray]; exact hx)
            have HHC := Lib.hid (hcells_arr (KT 1))
            rw [← hcells_arr] at HEQ
            generalize hCC : hcells (KT 1) = C at hil HEQ HCR HHC
            have HC := Lib.hid hCC
            replace HT := Lib.hid HT.out.drew
            replace HB := Lib.hid HB.out.drew
            clear hCC h32 HCELL
            go_wp2_with fail
            refine wp_region_held_drew (S := fun X => World.grownBy wr.drew X none) hfo (grown_refl _ _) (fun hS0 => ?_)
            generalize wr.drew = Z0 at *
            refine' wpAnyH_take (i := 0) (oi := ⟨some 84, _, _, _, _, _⟩) (v := _) rfl (by kernel_rfl) (by kernel_rfl) (by kernel_rfl) (fun _ _ _ h => h) (Or.inl ⟨by rfl, ?y0R⟩) hS0 ?r0R
            case y0R => (intro w' hSw; go_simp; try rfl)
            try simp only [Act.put, List.setIfInBounds_toArray, List.set_cons_zero, List.set_cons_succ]
            refine held_one (i := 1) (by kernel_rfl) rfl (fun KR hK => ?_)
            go_simp
            refine (num_any _ _).mono ?_
            rintro e Z1 ⟨rfl, rfl⟩
            refine hK.out _ _ hS0 (fun _ => ?_)
            clear hK KR
            try simp only [Act.put, List.setIfInBounds_toArray, List.set_cons_zero, List.set_cons_succ]
            refine' wpAnyH_take (i := 2) (oi := ⟨some 86, _, _, _, _, _⟩) (v := _) rfl (by kernel_rfl) (by kernel_rfl) (by kernel_rfl) (fun _ _ _ h => h) (Or.inl ⟨by rfl, ?y2R⟩) hS0 ?r2R
            case y2R => (intro w' hSw; go_simp; try rfl)
            try simp only [Act.put, List.setIfInBounds_toArray, List.set_cons_zero, List.set_cons_succ]
            refine' wpAnyH_take (i := 3) (oi := ⟨some 87, _, _, _, _, _⟩) (v := _) rfl (by kernel_rfl) (by kernel_rfl) (by kernel_rfl) (fun _ _ _ h => h) (Or.inl ⟨by rfl, ?y3R⟩) hS0 ?r3R
            case y3R => (intro w' hSw; go_simp; try rfl)
            try simp only [Act.put, List.setIfInBounds_toArray, List.set_cons_zero, List.set_cons_succ]
            refine' wpAnyH_take (i := 5) (oi := ⟨some 89, _, _, _, _, _⟩) (v := _) rfl (by kernel_rfl) (by kernel_rfl) (by kernel_rfl) (fun _ _ _ h => h) (Or.inl ⟨by rfl, ?y5R⟩) hS0 ?r5R
            case y5R => (intro w' hSw; go_simp; try rfl)
            try simp only [Act.put, List.setIfInBounds_toArray, List.set_cons_zero, List.set_cons_succ]
            refine' wpAnyH_take (i := 4) (oi := ⟨some 88, _, _, _, _, _⟩) (v := .agg C.toArray) rfl (by kernel_rfl) (by kernel_rfl) (by kernel_rfl) (fun _ _ _ h => h) (yieldsIf_load_mid (by rfl) 39 _ rfl gh (0) rfl C _ (fun X hX => fun j v hv => hX.cell (HCR.out j v hv) (by simp)) Tryd.underlying39 rfl hil) hS0 ?r4R
            try simp only [Act.put, List.setIfInBounds_toArray, List.set_cons_zero, List.set_cons_succ]
            refine held_one (i := 6) (by kernel_rfl) rfl (fun KR hK => ?_)
            go_simp
            refine (root_tree Z0 g KT HT.out).mono ?_
            rintro e Z2 ⟨rfl, hb2⟩
            rw [← hcells_arr, HC.out]
            have hS2 := hS0.trans (grown_of_below hb2 none)
            refine hK.out _ _ hS2 (fun _ => ?_)
            clear hK KR
            try simp only [Act.put, List.setIfInBounds_toArray, List.set_cons_zero, List.set_cons_succ]
            have HB2 := Lib.hid (HB.out.trans (hb2.mono HB.out.size))
            clear hb2
            refine' wpAnyH_take (i := 7) (oi := ⟨some 91, _, _, _, _, _⟩) (v := _) rfl (by kernel_rfl) (by kernel_rfl) (by kernel_rfl) (fun _ _ _ h => h) (Or.inl ⟨by rfl, ?y7R⟩) hS2 ?r7R
            case y7R => (intro w' hSw; have e3 := HEQ.out; go_simp; try rfl)
            try simp only [Act.put, List.setIfInBounds_toArray, List.set_cons_zero, List.set_cons_succ]
            refine' wpAnyH_take (i := 8) (oi := ⟨some 92, _, _, _, _, _⟩) (v := _) rfl (by kernel_rfl) (by kernel_rfl) (by kernel_rfl) (fun _ _ _ h => h) (Or.inl ⟨by rfl, ?y8R⟩) hS2 ?r8R
            case y8R => (intro w' hSw; have e3 := HEQ.out; go_simp; try rfl)
            try simp only [Act.put, List.setIfInBounds_toArray, List.set_cons_zero, List.set_cons_succ]
            refine' wpAnyH_take (i := 9) (oi := ⟨some 93, _, _, _, _, _⟩) (v := _) rfl (by kernel_rfl) (by kernel_rfl) (by kernel_rfl) (fun _ _ _ h => h) (Or.inl ⟨by rfl, ?y9R⟩) hS2 ?r9R
            case y9R => (intro w' hSw; have e3 := HEQ.out; go_simp; try rfl)
            try simp only [Act.put, List.setIfInBounds_toArray, List.set_cons_zero, List.set_cons_succ]
            refine held_one (i := 10) (by kernel_rfl) rfl (fun KR hK => ?_)
            go_simp
            refine (known_any Z2 (hg.below HB2.out)).mono ?_
            rintro e Z3 ⟨rfl, hb3⟩
            have hS3 := hS2.trans (grown_of_below hb3 none)
            refine hK.out _ _ hS3 (fun _ => ?_)
            clear hK KR
            try simp only [Act.put, List.setIfInBounds_toArray, List.set_cons_zero, List.set_cons_succ]
            have HB3 := Lib.hid (HB2.out.trans (hb3.mono HB2.out.size))
            clear hb3
            refine' wpAnyH_take (i := 11) (oi := ⟨some 95, _, _, _, _, _⟩) (v := _) rfl (by kernel_rfl) (by kernel_rfl) (by kernel_rfl) (fun _ _ _ h => h) (Or.inl ⟨by rfl, ?y11R⟩) hS3 ?r11R
            case y11R => (intro w' hSw; go_simp; try rfl)
            try simp only [Act.put, List.setIfInBounds_toArray, List.set_cons_zero, List.set_cons_succ]
            refine' wpAnyH_take (i := 12) (oi := ⟨some 4, _, _, _, _, _⟩) (v := _) rfl (by kernel_rfl) (by kernel_rfl) (by kernel_rfl) (fun _ _ _ h => h) (Or.inl ⟨by rfl, ?y12R⟩) hS3 ?r12R
            case y12R => (intro w' hSw; go_simp; try rfl)
            try simp only [Act.put, List.setIfInBounds_toArray, List.set_cons_zero, List.set_cons_succ]
            refine wpAnyH_done (by kernel_rfl) ?_ _
            go_wp2
            go_ret
            exact ⟨rfl, HB3.out⟩
end Go.Proofs.YtdbhffkfkklehaaDoor

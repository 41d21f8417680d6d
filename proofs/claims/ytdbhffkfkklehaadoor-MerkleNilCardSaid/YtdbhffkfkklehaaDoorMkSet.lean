/-
  The walk of Set.
-/
import Derived.Test.YtdbhffkfkklehaaDoorMkNew
namespace Go.Proofs.YtdbhffkfkklehaaDoor
open Go.RowKit
set_option linter.unusedVariables false
set_option linter.unusedSimpArgs false
set_option maxRecDepth 100000

/-- All nodes above leaves are as said, but perhaps those on the way up from n. -/
def GoodBut (n : Nat) (K : Nat → List UInt8) : Prop := ∀ i, 1 ≤ i → i < 64 → (∀ j, i ≠ n / 2 ^ j) → Ok K i
theorem GoodBut.start {H : Nat → List UInt8} (h : Good H) (b : Nat) (x : List UInt8) : GoodBut ((64 + b) / 2) (upd H (64 + b) x) := by
  intro i h1 h2 hj
  have h0 := hj 0
  rw [Nat.pow_zero, Nat.div_one] at h0
  have := h i h1 h2
  unfold Ok at *
  rw [upd_far _ _ _ _ (by omega), upd_far _ _ _ _ (by omega), upd_far _ _ _ _ (by omega)]
  exact this
theorem GoodBut.step {n : Nat} {K : Nat → List UInt8} (h : GoodBut n K) (hn : 1 ≤ n) : GoodBut (n / 2) (anew K n) := by
  intro i h1 h2 hj
  have h0 := hj 0
  rw [Nat.pow_zero, Nat.div_one] at h0
  by_cases e : i = n
  · subst e; exact anew_ok K i h1
  · refine anew_keeps K n i (h i h1 h2 fun j => ?_) e (by omega) (by omega)
    cases j with
    | zero => simpa using e
    | succ j =>
      have := hj j
      rwa [Nat.div_div_eq_div_mul, show 2 * 2 ^ j = 2 ^ (j + 1) by rw [Nat.pow_succ]; omega] at this
theorem GoodBut.done {K : Nat → List UInt8} (h : GoodBut 0 K) : Good K := fun i h1 h2 => h i h1 h2 (fun j => by simp; omega)

/-- What Set leaves. -/
def SetEnd (g : Nat) (H : Nat → List UInt8) (b : Nat) (l : List UInt8) (w : World) (e : Ending) (w' : World) : Prop :=
  ∃ K, e = .returned (.int .i64 0) ∧ Tr w' g K ∧ Good K ∧ leavesOf K = (leavesOf H).set b (leafN b l) ∧ w.grownBy w' (some g)

set_option maxHeartbeats 4000000 in
theorem set_tree (w : World) (g : Nat) (H : Nat → List UInt8) (h : Tr w g H) (hgood : Good H) (b : Nat) (hb : b < 64) (v : Value) (l : List UInt8) (hs : Sl w v l) (hl : l.length ≤ 900000) (hg : Gl w) :
    Calls Tryd.prog 19 #[.pointer (some ⟨g, 0, none⟩), .int .i64 (b : Int), v] w (SetEnd g H b l w) := by
  have hfo : Tryd.prog.follows .mixedOrders = true := by kernel_rfl
  have HFR := Lib.hid (h.free hg)
  obtain ⟨A0, n0, c0, rfl⟩ := hs.shape
  go_enter Tryd.func19, Tryd.ntmps19
  go_wp2_with fail
  refine (none_tree w h).mono ?_
  rintro e w1 ⟨rfl, rfl⟩
  go_wp2_with fail
  refine (leaf_any b hb _ l w hs hl hg).mono ?_
  rintro e w1 ⟨rfl, hb1⟩
  have HG1 := Lib.hid (hg.below hb1)
  have H32 := Lib.hid (leafN_length b l)
  obtain ⟨hil, hi1, hone, hs1⟩ := hc_facts H32.out
  rw [← hcells_arr]
  have ht1 := h.past hb1
  have hlt1 : g < w1.heap.size := ht1.lt
  have hN := Blk.new w1 39 (rowB (List.replicate 32 0))
  have hb2 : Below w.heap.size w (w1.alloc (.cells (rowB (List.replicate 32 0)) 39)) := hb1.alloc hb1.size _
  have hZ : (rowB (List.replicate 32 0)).size = 32 := by rw [rowB_size, List.length_replicate]
  have HCE := Lib.hid (show hcells (leafN b l) = hcells (leafN b l) from rfl)
  generalize hCC : hcells (leafN b l) = C at hil hi1 hone hs1
  have HC := Lib.hid hCC
  clear hCC HCE
  have hth : (w1.alloc (.cells (rowB (List.replicate 32 0)) 39)).there w1.heap.size 0 C.toArray.size := by rw [hs1, ← hZ]; exact hN.there
  have hE3 := hN.setRow (ds := C.toArray) (by rw [hs1, hZ])
  have hgr := grown_setCells w1.heap.size C.toArray.toList 0 (w1.alloc (.cells (rowB (List.replicate 32 0)) 39))
  have HT3 := Lib.hid (((ht1.alloc (.cells (rowB (List.replicate 32 0)) 39)).grown hgr (by omega)).drew)
  have HG3 := Lib.hid (((HG1.out.alloc (.cells (rowB (List.replicate 32 0)) 39)).grown hgr (by have := HFR.out; omega)))
  have hb3 := Below.only hb2 hgr hb1.size hb2.size
  have HR := Lib.hid (show ((w1.alloc (.cells (rowB (List.replicate 32 0)) 39)).setCells w1.heap.size 0 C.toArray.toList).drew.rangeAt w1.heap.size 0 C from fun i v hv => by rw [Nat.zero_add, hE3.drew.cell i]; simpa using hv)
  have HB3 := Lib.hid ((grown_of_below hb3 (some g)).trans (grown_drew _ (some g)))
  have HNG := Lib.hid (show w1.heap.size ≠ g by omega)
  go_upto_region 4 with (refine wpList_store_mid rfl 39 _ _ rfl w1.heap.size 0 C.toArray rfl rfl hth hi1 hone ?_)
  change Code.wp _ _ _ _ ((w1.alloc (.cells (rowB (List.replicate 32 0)) 39)).setCells w1.heap.size 0 C.toArray.toList)
  have hszd : ((w1.alloc (.cells (rowB (List.replicate 32 0)) 39)).setCells w1.heap.size 0 C.toArray.toList).drew = ((w1.alloc (.cells (rowB (List.replicate 32 0)) 39)).setCells w1.heap.size 0 C.toArray.toList).drew := rfl
  clear hth hE3 hgr hb2 hN hZ hb3 ht1 hb1 h hs hszd HG1 hlt1
  replace HG3 := Lib.hid HG3.out.drew
  generalize (w1.alloc (.cells (rowB (List.replicate 32 0)) 39)).setCells w1.heap.size 0 C.toArray.toList = W3 at HT3 HG3 HR HB3 ⊢
  generalize w1.heap.size = gl at HR HNG ⊢
  go_upto_region 7 with (fail)
  obtain ⟨p, hp⟩ : ∃ p : Nat, p = 64 + b := ⟨_, rfl⟩
  rw [show (64 : Int) + (b : Int) = (p : Int) by omega]
  have BP := Lib.hid (show (p : Int) < 128 by omega)
  have HP := Lib.hid hp
  have hp64 : 64 ≤ p := by omega
  have hp128 : p < 128 := by omega
  clear hp
  go_cut [] (fun wc => Tr wc g (upd H p (leafN b l)) ∧ w.grownBy wc (some g) ∧ Gl wc)
  case first =>
    refine wp_region_held_drew (S := fun X => World.grownBy W3.drew X (some g)) hfo (grown_refl _ _) (fun hS0 => ?_)
    generalize W3.drew = Z0 at *
    refine' wpAnyH_take (i := 0) (oi := ⟨some 24, _, _, _, _, _⟩) (v := _) rfl (by kernel_rfl) (by kernel_rfl) (by kernel_rfl) (fun _ _ _ h => h) (Or.inl ⟨by rfl, ?y0⟩) hS0 ?r0
    case y0 => (intro w' hSw; go_simp; try rfl)
    try simp only [Act.put, List.setIfInBounds_toArray, List.set_cons_zero, List.set_cons_succ]
    refine' wpAnyH_take (i := 1) (oi := ⟨some 25, _, _, _, _, _⟩) (v := _) rfl (by kernel_rfl) (by kernel_rfl) (by kernel_rfl) (fun _ _ _ h => h) (Or.inl ⟨by rfl, ?y1⟩) hS0 ?r1
    case y1 => (intro w' hSw; go_simp; try rfl)
    try simp only [Act.put, List.setIfInBounds_toArray, List.set_cons_zero, List.set_cons_succ]
    refine' wpAnyH_take (i := 3) (oi := ⟨some 27, _, _, _, _, _⟩) (v := _) rfl (by kernel_rfl) (by kernel_rfl) (by kernel_rfl) (fun _ _ _ h => h) (Or.inl ⟨by rfl, ?y3⟩) hS0 ?r3
    case y3 => (intro w' hSw; go_simp; try rfl)
    try simp only [Act.put, List.setIfInBounds_toArray, List.set_cons_zero, List.set_cons_succ]
    refine' wpAnyH_take (i := 4) (oi := ⟨some 28, _, _, _, _, _⟩) (v := _) rfl (by kernel_rfl) (by kernel_rfl) (by kernel_rfl) (fun _ _ _ h => h) (Or.inl ⟨by rfl, ?y4⟩) hS0 ?r4
    case y4 => (intro w' hSw; go_simp; try rfl)
    try simp only [Act.put, List.setIfInBounds_toArray, List.set_cons_zero, List.set_cons_succ]
    refine' wpAnyH_take (i := 2) (oi := ⟨some 26, _, _, _, _, _⟩) (v := .agg C.toArray) rfl (by kernel_rfl) (by kernel_rfl) (by kernel_rfl) (fun _ _ _ h => h) (yieldsIf_load_mid (by rfl) 39 _ rfl gl (0) rfl C _ (fun X hX => fun i u hu => hX.cell (HR.out i u hu) (fun e => HNG.out (by injection e))) Tryd.underlying39 rfl hil) hS0 ?r2
    try simp only [Act.put, List.setIfInBounds_toArray, List.set_cons_zero, List.set_cons_succ]
    refine' wpAnyH_take (i := 5) (oi := ⟨some 29, _, _, _, _, _⟩) (v := _) rfl (by kernel_rfl) (by kernel_rfl) (by kernel_rfl) (fun _ _ _ h => h) (Or.inl ⟨by rfl, ?y5⟩) hS0 ?r5
    case y5 => (intro w' hSw; go_simp; rw [if_pos BP.out]; try rfl)
    try simp only [Act.put, List.setIfInBounds_toArray, List.set_cons_zero, List.set_cons_succ]
    have hth7 : Z0.there g (1 + p * 32) C.toArray.size := by rw [hs1]; exact HT3.out.there _ _ (by omega)
    refine held_one (i := 6) (by kernel_rfl) rfl (fun K hK => ?_)
    rw [if_pos (by rfl)]
    refine wp_store_mid 39 _ _ rfl g (1 + p * 32) C.toArray rfl rfl hth7 hi1 hone ?_
    have hS4 := hS0.trans (grown_setCells g C.toArray.toList (1 + p * 32) Z0)
    refine hK.out _ _ hS4 (fun _ => ?_)
    clear hK K
    try simp only [Act.put, List.setIfInBounds_toArray, List.set_cons_zero, List.set_cons_succ]
    refine wpAnyH_done (by kernel_rfl) ?_ _
    have hT9 : Tr (Z0.setCells g (1 + p * 32) C.toArray.toList) g (upd H p (leafN b l)) := by rw [← HC.out]; exact HT3.out.set p hp128 H32.out
    have hG9 : Gl (Z0.setCells g (1 + p * 32) C.toArray.toList) := HG3.out.grown (grown_setCells g C.toArray.toList (1 + p * 32) Z0) HFR.out
    have hW9 := HB3.out.trans hS4
    generalize Z0.setCells g (1 + p * 32) C.toArray.toList = W9 at hT9 hG9 hW9 ⊢
    go_wp2_with fail
    go_meet
    exact ⟨hT9, hW9, hG9⟩
  case rest =>
    obtain ⟨ht, hw, hgl⟩ := hcut
    have HT := Lib.hid ht
    have HW := Lib.hid hw
    have HGl := Lib.hid hgl
    have HGB := Lib.hid (GoodBut.start hgood b (leafN b l))
    have HLV := Lib.hid (leavesOf_upd H b (leafN b l) hb)
    rw [← HP.out] at HGB HLV
    clear ht hw hgl HT3 HG3 HR HB3 hil hi1 hone hs1 hgood
    generalize upd H p (leafN b l) = K0 at HT HGB HLV
    obtain ⟨q, hq⟩ : ∃ q : Nat, q = p / 2 := ⟨_, rfl⟩
    have hq64 : q < 64 := by omega
    have HQ := Lib.hid (show (p : Int) / 2 = (q : Int) by omega)
    rw [← hq] at HGB
    clear hq
    go_upto_block 0 with (fail)
    rw [HQ.out]
    go_wp2
    go_loopw [10] (fun z wr => ∃ n K, z = .int .i64 ((n : Nat) : Int) ∧ n < 64 ∧ Tr wr g K ∧ GoodBut n K ∧ leavesOf K = (leavesOf H).set b (leafN b l) ∧ w.grownBy wr (some g) ∧ Gl wr) (fun z _ => (intOf z).toNat)
    case atStart => exact ⟨q, K0, rfl, hq64, HT.out, HGB.out, HLV.out, HW.out, HGl.out⟩
    case round =>
      clear HT HGB HLV HW HGl
      obtain ⟨n, K, rfl, hn, ht, hgb, hlv, hw, hgl⟩ := hrel
      have HT := Lib.hid ht
      have HGB := Lib.hid hgb
      have HLV := Lib.hid hlv
      have HW := Lib.hid hw
      have HGl := Lib.hid hgl
      clear ht hgb hlv hw hgl
      by_cases h0 : 1 ≤ n
      · obtain ⟨q, hq⟩ : ∃ q : Nat, q = n / 2 := ⟨_, rfl⟩
        have hq64 : q < n := by omega
        have HQ := Lib.hid (show (n : Int) / 2 = (q : Int) by omega)
        have HS := Lib.hid (HGB.out.step h0)
        rw [← hq] at HS
        clear hq
        go_wp2_with fail
        refine (sum_tree wr g n K HT.out h0 hn HGl.out).mono ?_
        rintro e w2 ⟨rfl, ht2, hgr⟩
        have HT2 := Lib.hid ht2
        have HW2 := Lib.hid (HW.out.trans hgr)
        have HG2 := Lib.hid (HGl.out.grown hgr HFR.out)
        clear ht2 hgr
        go_wp2
        go_roundw
        case rel => exact ⟨q, anew K n, by rw [← HQ.out], by omega, HT2.out, HS.out, by rw [leavesOf_anew K n hn]; exact HLV.out, HW2.out, HG2.out⟩
        case measure => simp [intOf]; omega
      · obtain rfl : n = 0 := by omega
        go_wp2
        go_ret
        exact ⟨K, rfl, HT.out, HGB.out.done, HLV.out, HW.out⟩
theorem set_out (w : World) (g : Nat) (H : Nat → List UInt8) (h : Tr w g H) (b : Int) (hb : b < 0 ∨ 64 ≤ b) (v : Value) (hv : ∃ A n c, v = .slice A n c) :
    Calls Tryd.prog 19 #[.pointer (some ⟨g, 0, none⟩), .int .i64 b, v] w fun e w' => e = .returned (.int .i64 2) ∧ Below w.heap.size w w' := by
  have hv2 := hv
  obtain ⟨A0, n0, c0, rfl⟩ := hv
  go_enter Tryd.func19, Tryd.ntmps19
  go_wp2_with fail
  refine (none_tree w h).mono ?_
  rintro e w1 ⟨rfl, rfl⟩
  go_wp2_with fail
  refine (leaf_no b hb _ w hv2).mono ?_
  rintro e w1 ⟨rfl, hb1⟩
  have hi := rowB_info zero32_length
  have h1 := rowB_one zero32
  have hs1 := rowB_size zero32
  rw [zero32_length] at hs1
  have hN := Blk.new w1 39 (rowB (List.replicate 32 0))
  have hb2 : Below w.heap.size w (w1.alloc (.cells (rowB (List.replicate 32 0)) 39)) := hb1.alloc hb1.size _
  have hZ : (rowB (List.replicate 32 0)).size = 32 := by rw [rowB_size, List.length_replicate]
  generalize hR : rowB zero32 = R at hi h1 hs1 ⊢
  have hth : (w1.alloc (.cells (rowB (List.replicate 32 0)) 39)).there w1.heap.size 0 R.size := by rw [hs1, ← hZ]; exact hN.there
  have hbE := Below.only hb2 (grown_setCells w1.heap.size R.toList 0 _) hb1.size hb2.size
  go_upto_region 4 with (refine wpList_store_mid rfl 39 _ _ rfl w1.heap.size 0 R rfl rfl hth hi h1 ?_)
  change Code.wp _ _ _ _ ((w1.alloc (.cells (rowB (List.replicate 32 0)) 39)).setCells w1.heap.size 0 R.toList)
  generalize (w1.alloc (.cells (rowB (List.replicate 32 0)) 39)).setCells w1.heap.size 0 R.toList = W3 at hbE ⊢
  clear hR
  go_wp2
  go_ret
  exact ⟨rfl, hbE⟩
theorem set_no (w : World) (p : Value) (h : NoTr w p) (b : Int) (v : Value) (hv : ∃ A n c, v = .slice A n c) :
    Calls Tryd.prog 19 #[p, .int .i64 b, v] w fun e w' => e = .returned (.int .i64 1) ∧ w = w' := by
  obtain ⟨A0, n0, c0, rfl⟩ := hv
  have hsh : ∃ q, p = .pointer q := by rcases h with rfl | ⟨g, rfl, _⟩ <;> exact ⟨_, rfl⟩
  obtain ⟨q, rfl⟩ := hsh
  go_enter Tryd.func19, Tryd.ntmps19
  go_wp2_with fail
  refine (none_no w _ h).mono ?_
  rintro e w1 ⟨rfl, rfl⟩
  go_wp2
  go_ret
  exact ⟨rfl, rfl⟩
end Go.Proofs.YtdbhffkfkklehaaDoor

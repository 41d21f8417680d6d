/-
  The walks of Root, Node, Leaves, Copy of a tree.
-/
import Derived.Test.YtdbhffkfkklehaaDoorMkSum
namespace Go.Proofs.YtdbhffkfkklehaaDoor
open Go.RowKit
set_option linter.unusedVariables false
set_option linter.unusedSimpArgs false
set_option maxRecDepth 100000

/-- A hash's result in a cell, stored. -/
theorem range_len {H : Nat → List UInt8} (hl : Len H) (n : Nat) (hn : n < 128) : (Tryd.prog.info? 39).map (·.size) = some (hcells (H n)).length := by
  rw [info_h32, hcells_length, hl n hn]

/-- What is known of a hash's cells. -/
theorem hc_facts {x : List UInt8} (hx : x.length = 32) : (Tryd.prog.info? 39).map (·.size) = some (hcells x).length ∧ (Tryd.prog.info? 39).map (·.size) = some (hcells x).toArray.size ∧ (hcells x).toArray.all (·.oneCell') = true ∧ (hcells x).toArray.size = 32 :=
  ⟨by rw [info_h32, hcells_length, hx], by rw [info_h32, hcells_arr, rowB_size, hx], rowB_one x, by rw [hcells_arr, rowB_size, hx]⟩
set_option maxHeartbeats 800000 in
theorem root_tree (w : World) (g : Nat) (H : Nat → List UInt8) (h : Tr w g H) :
    Calls Tryd.prog 22 #[.pointer (some ⟨g, 0, none⟩)] w fun e w' => e = .returned (.agg (rowB (H 1))) ∧ Below w.heap.size w w' := by
  have hB := Blk.new w 39 (rowB (List.replicate 32 0))
  have hbw : Below w.heap.size w (w.alloc (.cells (rowB (List.replicate 32 0)) 39)) := (Below.refl _ _).alloc (Nat.le_refl _) _
  have hZ : (rowB (List.replicate 32 0)).size = 32 := by rw [rowB_size, List.length_replicate]
  have hT := h.alloc (.cells (rowB (List.replicate 32 0)) 39)
  go_enter Tryd.func22, Tryd.ntmps22
  go_upto_region 1 with (fail)
  change Code.wp _ _ _ _ (w.alloc (.cells (rowB (List.replicate 32 0)) 39))
  generalize w.alloc (.cells (rowB (List.replicate 32 0)) 39) = W0 at hB hbw hT ⊢
  generalize rowB (List.replicate 32 0) = Z at hB hZ
  go_wp2_with fail
  refine (none_tree W0 hT).mono ?_
  rintro e w1 ⟨rfl, rfl⟩
  have hR := hT.range 1 (by decide)
  obtain ⟨hil, hi, h1, hs1⟩ := hc_facts (hT.len 1 (by decide))
  have ET := Lib.hid (hcells_arr (H 1))
  generalize hcells (H 1) = C at hR hil hi h1 hs1 ET
  have hth : W0.there w.heap.size 0 C.toArray.size := by rw [hs1, ← hZ]; exact hB.there
  go_wp2_with (first | (refine wpList_load_mid rfl 39 _ rfl g 33 rfl C _ hR Tryd.underlying39 rfl hil ?_) | (refine wpList_store_mid rfl 39 _ _ rfl w.heap.size 0 C.toArray rfl rfl hth hi h1 ?_))
  have hE : Blk (W0.setCells w.heap.size 0 C.toArray.toList) w.heap.size 39 C.toArray := hB.setRow (by rw [hs1, hZ])
  have hbE := Below.only hbw (grown_setCells w.heap.size C.toArray.toList 0 W0) (Nat.le_refl _) hbw.size
  exact bodyPost_ret (v := .agg C.toArray) (results_cell_row rfl _ _ w.heap.size 39 C.toArray (0, 0) _ rfl hE Tryd.underlying39 rfl hi) rfl ⟨by rw [ET.out], hbE⟩
set_option maxHeartbeats 800000 in
theorem node_tree (w : World) (g : Nat) (H : Nat → List UInt8) (h : Tr w g H) (n : Nat) (hn1 : 1 ≤ n) (hn : n < 128) :
    Calls Tryd.prog 20 #[.pointer (some ⟨g, 0, none⟩), .int .i64 (n : Int)] w fun e w' => e = .returned (.tuple #[.agg (rowB (H n)), .int .i64 0]) ∧ Below w.heap.size w w' := by
  have hB := Blk.new w 39 (rowB (List.replicate 32 0))
  have hbw : Below w.heap.size w (w.alloc (.cells (rowB (List.replicate 32 0)) 39)) := (Below.refl _ _).alloc (Nat.le_refl _) _
  have hZ : (rowB (List.replicate 32 0)).size = 32 := by rw [rowB_size, List.length_replicate]
  have hT := h.alloc (.cells (rowB (List.replicate 32 0)) 39)
  go_enter Tryd.func20, Tryd.ntmps20
  go_upto_region 1 with (fail)
  change Code.wp _ _ _ _ (w.alloc (.cells (rowB (List.replicate 32 0)) 39))
  generalize w.alloc (.cells (rowB (List.replicate 32 0)) 39) = W0 at hB hbw hT ⊢
  generalize rowB (List.replicate 32 0) = Z at hB hZ
  go_wp2_with fail
  refine (none_tree W0 hT).mono ?_
  rintro e w1 ⟨rfl, rfl⟩
  have hR := hT.range n hn
  obtain ⟨hil, hi, h1, hs1⟩ := hc_facts (hT.len n hn)
  have ET := Lib.hid (hcells_arr (H n))
  generalize hcells (H n) = C at hR hil hi h1 hs1 ET
  have hth : W0.there w.heap.size 0 C.toArray.size := by rw [hs1, ← hZ]; exact hB.there
  go_wp2_with (first | (refine wpList_load_mid rfl 39 _ rfl g (1 + n * 32) rfl C _ hR Tryd.underlying39 rfl hil ?_) | (refine wpList_store_mid rfl 39 _ _ rfl w.heap.size 0 C.toArray rfl rfl hth hi h1 ?_))
  have hE : Blk (W0.setCells w.heap.size 0 C.toArray.toList) w.heap.size 39 C.toArray := hB.setRow (by rw [hs1, hZ])
  have hbE := Below.only hbw (grown_setCells w.heap.size C.toArray.toList 0 W0) (Nat.le_refl _) hbw.size
  trace_state
  exact bodyPost_ret (v := .tuple #[.agg C.toArray, .int .i64 0]) (results_row_and rfl _ _ w.heap.size 39 C.toArray (0, 0) _ _ rfl rfl hE Tryd.underlying39 rfl hi) rfl ⟨by rw [ET.out], hbE⟩
set_option maxHeartbeats 800000 in
theorem node_out (w : World) (g : Nat) (H : Nat → List UInt8) (h : Tr w g H) (n : Int) (hn : n < 1 ∨ 128 ≤ n) :
    Calls Tryd.prog 20 #[.pointer (some ⟨g, 0, none⟩), .int .i64 n] w fun e w' => e = .returned (.tuple #[.agg (rowB zero32), .int .i64 2]) ∧ Below w.heap.size w w' := by
  have hi := rowB_info zero32_length
  have h1 := rowB_one zero32
  have hB := Blk.new w 39 (rowB (List.replicate 32 0))
  have hbw : Below w.heap.size w (w.alloc (.cells (rowB (List.replicate 32 0)) 39)) := (Below.refl _ _).alloc (Nat.le_refl _) _
  have hZ : (rowB (List.replicate 32 0)).size = 32 := by rw [rowB_size, List.length_replicate]
  have hT := h.alloc (.cells (rowB (List.replicate 32 0)) 39)
  go_enter Tryd.func20, Tryd.ntmps20
  go_upto_region 1 with (fail)
  change Code.wp _ _ _ _ (w.alloc (.cells (rowB (List.replicate 32 0)) 39))
  generalize w.alloc (.cells (rowB (List.replicate 32 0)) 39) = W0 at hB hbw hT ⊢
  change Blk W0 w.heap.size _ (rowB zero32) at hB
  generalize hZZ : rowB zero32 = Z at hB hi h1
  have EZ := Lib.hid hZZ
  clear hZZ hZ
  go_wp2_with fail
  refine (none_tree W0 hT).mono ?_
  rintro e w1 ⟨rfl, rfl⟩
  have hth : W0.there w.heap.size 0 Z.size := hB.there
  have hE : Blk (W0.setCells w.heap.size 0 Z.toList) w.heap.size 39 Z := hB.setRow rfl
  have hbE := Below.only hbw (grown_setCells w.heap.size Z.toList 0 W0) (Nat.le_refl _) hbw.size
  rcases hn with hn | hn
  · go_wp2_with (refine wpList_store_mid rfl 39 _ _ rfl w.heap.size 0 Z rfl (by rw [← EZ.out]; rfl) hth hi h1 ?_)
    exact bodyPost_ret (v := .tuple #[.agg Z, .int .i64 2]) (results_row_and rfl _ _ w.heap.size 39 Z (0, 0) _ _ rfl rfl hE Tryd.underlying39 rfl hi) rfl ⟨by rw [EZ.out], hbE⟩
  · have hn' : ¬ n < 1 := by omega
    go_wp2_with (refine wpList_store_mid rfl 39 _ _ rfl w.heap.size 0 Z rfl (by rw [← EZ.out]; rfl) hth hi h1 ?_)
    exact bodyPost_ret (v := .tuple #[.agg Z, .int .i64 2]) (results_row_and rfl _ _ w.heap.size 39 Z (0, 0) _ _ rfl rfl hE Tryd.underlying39 rfl hi) rfl ⟨by rw [EZ.out], hbE⟩
theorem node_no (w : World) (p : Value) (h : NoTr w p) (n : Int) :
    Calls Tryd.prog 20 #[p, .int .i64 n] w fun e w' => e = .returned (.tuple #[.agg (rowB zero32), .int .i64 1]) ∧ Below w.heap.size w w' := by
  have hi := rowB_info zero32_length
  have h1 := rowB_one zero32
  have hsh : ∃ q, p = .pointer q := by rcases h with rfl | ⟨g, rfl, _⟩ <;> exact ⟨_, rfl⟩
  obtain ⟨q, rfl⟩ := hsh
  have hB := Blk.new w 39 (rowB (List.replicate 32 0))
  have hbw : Below w.heap.size w (w.alloc (.cells (rowB (List.replicate 32 0)) 39)) := (Below.refl _ _).alloc (Nat.le_refl _) _
  have hZ : (rowB (List.replicate 32 0)).size = 32 := by rw [rowB_size, List.length_replicate]
  have hT := h.below hbw
  go_enter Tryd.func20, Tryd.ntmps20
  go_upto_region 1 with (fail)
  change Code.wp _ _ _ _ (w.alloc (.cells (rowB (List.replicate 32 0)) 39))
  generalize w.alloc (.cells (rowB (List.replicate 32 0)) 39) = W0 at hB hbw hT ⊢
  change Blk W0 w.heap.size _ (rowB zero32) at hB
  generalize hZZ : rowB zero32 = Z at hB hi h1
  have EZ := Lib.hid hZZ
  clear hZZ hZ
  go_wp2_with fail
  refine (none_no W0 _ hT).mono ?_
  rintro e w1 ⟨rfl, rfl⟩
  have hth : W0.there w.heap.size 0 Z.size := hB.there
  have hE : Blk (W0.setCells w.heap.size 0 Z.toList) w.heap.size 39 Z := hB.setRow rfl
  have hbE := Below.only hbw (grown_setCells w.heap.size Z.toList 0 W0) (Nat.le_refl _) hbw.size
  go_wp2_with (refine wpList_store_mid rfl 39 _ _ rfl w.heap.size 0 Z rfl (by rw [← EZ.out]; rfl) hth hi h1 ?_)
  exact bodyPost_ret (v := .tuple #[.agg Z, .int .i64 1]) (results_row_and rfl _ _ w.heap.size 39 Z (0, 0) _ _ rfl rfl hE Tryd.underlying39 rfl hi) rfl ⟨by rw [EZ.out], hbE⟩
theorem root_no (w : World) (p : Value) (h : NoTr w p) :
    Calls Tryd.prog 22 #[p] w fun e w' => e = .returned (.agg (rowB zero32)) ∧ Below w.heap.size w w' := by
  have hi := rowB_info zero32_length
  have h1 := rowB_one zero32
  have hsh : ∃ q, p = .pointer q := by rcases h with rfl | ⟨g, rfl, _⟩ <;> exact ⟨_, rfl⟩
  obtain ⟨q, rfl⟩ := hsh
  have hB := Blk.new w 39 (rowB (List.replicate 32 0))
  have hbw : Below w.heap.size w (w.alloc (.cells (rowB (List.replicate 32 0)) 39)) := (Below.refl _ _).alloc (Nat.le_refl _) _
  have hZ : (rowB (List.replicate 32 0)).size = 32 := by rw [rowB_size, List.length_replicate]
  have hT := h.below hbw
  go_enter Tryd.func22, Tryd.ntmps22
  go_upto_region 1 with (fail)
  change Code.wp _ _ _ _ (w.alloc (.cells (rowB (List.replicate 32 0)) 39))
  generalize w.alloc (.cells (rowB (List.replicate 32 0)) 39) = W0 at hB hbw hT ⊢
  change Blk W0 w.heap.size _ (rowB zero32) at hB
  generalize hZZ : rowB zero32 = Z at hB hi h1
  have EZ := Lib.hid hZZ
  clear hZZ hZ
  go_wp2_with fail
  refine (none_no W0 _ hT).mono ?_
  rintro e w1 ⟨rfl, rfl⟩
  have hth : W0.there w.heap.size 0 Z.size := hB.there
  have hE : Blk (W0.setCells w.heap.size 0 Z.toList) w.heap.size 39 Z := hB.setRow rfl
  have hbE := Below.only hbw (grown_setCells w.heap.size Z.toList 0 W0) (Nat.le_refl _) hbw.size
  go_wp2_with (refine wpList_store_mid rfl 39 _ _ rfl w.heap.size 0 Z rfl (by rw [← EZ.out]; rfl) hth hi h1 ?_)
  exact bodyPost_ret (v := .agg Z) (results_cell_row rfl _ _ w.heap.size 39 Z (0, 0) _ rfl hE Tryd.underlying39 rfl hi) rfl ⟨by rw [EZ.out], hbE⟩
end Go.Proofs.YtdbhffkfkklehaaDoor

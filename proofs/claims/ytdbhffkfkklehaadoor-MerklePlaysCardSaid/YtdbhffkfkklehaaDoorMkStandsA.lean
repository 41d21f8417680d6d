/-
  The walk of the document's Nodes.
-/
import Derived.Test.YtdbhffkfkklehaaDoorMkKnA
namespace Go.Proofs.YtdbhffkfkklehaaDoor
open Go.RowKit
set_option linter.unusedVariables false
set_option linter.unusedSimpArgs false
set_option maxRecDepth 100000

theorem rangeAt.keepK {w w' : World} {b o : Nat} {cs : List Value} (h : w.rangeAt b o cs) (k : Keeps w w') : w'.rangeAt b o cs := fun j v hv => k _ _ (h j v hv)
/-- What Nodes answers. -/
def NodesEnd (L : List (List UInt8)) (w : World) (e : Ending) (w' : World) : Prop :=
  ∃ v K, e = .returned v ∧ OwnH w' w.heap.size v (nodesL K) ∧ Len K ∧ Good K ∧ leavesOf K = L ∧ Below w.heap.size w w'
/-- Some leaves are laid. -/
def someL (L : List (List UInt8)) (i : Nat) : Nat → List UInt8 := fun n => if 64 ≤ n ∧ n < 64 + i then L.getD (n - 64) zero32 else zero32
theorem someL_succ (L : List (List UInt8)) (i : Nat) : someL L (i + 1) = upd (someL L i) (64 + i) (L.getD i zero32) := by
  funext n
  by_cases e : n = 64 + i
  · subst e
    rw [upd_at, someL, if_pos (by omega), Nat.add_sub_cancel_left]
  · rw [upd_far _ _ _ _ e, someL, someL]
    by_cases c : 64 ≤ n ∧ n < 64 + i
    · rw [if_pos (by omega), if_pos c]
    · rw [if_neg (by omega), if_neg c]
theorem someL_leaves (L : List (List UInt8)) (hl : L.length = 64) : leavesOf (someL L 64) = L := by
  apply List.ext_getElem (by rw [leavesOf_length, hl])
  intro i h1 h2
  rw [leavesOf_get, someL, if_pos (by omega), Nat.add_sub_cancel_left, List.getD_eq_getElem?_getD, List.getElem?_eq_getElem h2]
  rfl
theorem someL_len {L : List (List UInt8)} (ha : All32 L) (i : Nat) : Len (someL L i) := by
  intro n hn
  unfold someL
  split
  · rw [List.getD_eq_getElem?_getD]
    rcases e : L[n - 64]? with _ | x
    · rfl
    · exact ha x (List.mem_of_getElem? e)
  · rfl
theorem nodes_zero : hcs (nodesL fun _ => zero32) = List.replicate 4096 (.int .u8 0) := by kernel_rfl

theorem made_zero : (madeCells (rowB [0, 0, 0, 0, 0, 0, 0, 0, 0, 0, 0, 0, 0, 0, 0, 0, 0, 0, 0, 0, 0, 0, 0, 0, 0, 0, 0, 0, 0, 0, 0, 0]) 4096).toList = List.replicate 4096 (.int .u8 0) := by
  apply List.ext_getElem (by simp [madeCells])
  intro i h1 h2
  have hk : i % 32 < 32 := Nat.mod_lt _ (by decide)
  have hz : ∀ k, k < 32 → (rowB zero32)[k]! = .int .u8 0 := by
    intro k hk
    rw [getElem!_def, rowB_get zero32 k hk]
    have e : (List.replicate 32 (0 : UInt8)).get ⟨k, hk⟩ = 0 := List.eq_of_mem_replicate (List.get_mem _ _)
    show Value.int .u8 (((List.replicate 32 (0 : UInt8)).get ⟨k, hk⟩).toNat : Int) = _
    rw [e]
    rfl
  have := hz (i % 32) hk
  simp only [madeCells, Array.getElem_toList, Array.getElem_map, Array.getElem_range, List.getElem_replicate]
  exact this
set_option maxHeartbeats 4000000 in
theorem nodes_any (w : World) (v : Value) (L : List (List UInt8)) (h : Sh w v L) (hl : L.length = 64) :
    Calls Tryd.prog 28 #[v] w (NodesEnd L w) := by
  have hfo : Tryd.prog.follows .mixedOrders = true := by kernel_rfl
  obtain ⟨i0, hi, hz0, hz1, hz2⟩ := info_parts info_hash
  obtain ⟨j0, hj, hj0, hj1, hj2⟩ := info_parts info_u8
  have HS := Lib.hid h
  obtain ⟨A, n, c, rfl⟩ := h.shape
  have hn := h.len
  rw [hl] at hn
  subst hn
  have Hl := Lib.hid hl
  clear h
  go_enter Tryd.func28, Tryd.ntmps28
  go_wp2_with (at_make; refine wpList_make_full _ rfl _ _ 27 rfl w.heap.size 39 i0 (.agg (rowB (List.replicate 32 0))) 32 Tryd.underlying27 hi hz0 hz1 _ _ _ _ 128 rfl rfl rfl rfl (by rw [hz2]; decide) (by decide) (Nat.le_refl _) ?_)
  intro w1 ho1 hgr1
  have HB1 := Lib.hid (below_of_grown hgr1)
  have HO1 := Lib.hid (show OwnH w1 w.heap.size (.slice (some ⟨w.heap.size, 0, none⟩) 128 128) (nodesL (someL L 0)) by
    have e : someL L 0 = fun _ => zero32 := by
      funext n
      unfold someL
      rw [if_neg (by omega)]
    rw [e]
    refine ⟨Len.all fun _ _ => rfl, ?_⟩
    rw [nodesL_length, nodes_zero]
    rw [made_zero] at ho1
    exact ho1)
  clear ho1 hgr1
  go_wp2
  go_loopw [4] (fun z wr => ∃ i : Nat, z = .int .i64 (i : Int) ∧ i ≤ 64 ∧ OwnH wr w.heap.size (.slice (some ⟨w.heap.size, 0, none⟩) 128 128) (nodesL (someL L i)) ∧ Below w.heap.size w wr) (fun z _ => 64 - (intOf z).toNat)
  case atStart => exact ⟨0, rfl, by decide, HO1.out, HB1.out⟩
  case round =>
    clear HO1 HB1
    obtain ⟨i, rfl, hi64, ho, hb⟩ := hrel
    have HO := Lib.hid ho
    have HB := Lib.hid hb
    clear ho hb
    by_cases hlt : i < 64
    · have hiL : i < L.length := by have := Hl.out; omega
      have h32 := HS.out.all _ (List.getElem_mem hiL)
      obtain ⟨b, o, rfl, k0⟩ := HS.out.at_ i hiL
      have hR : wr.rangeAt b (o + i * 32) (hcells L[i]) := fun j x hx => (HB.out.cell (World.block_lt_of_cell? w _ (k0 j x hx))).trans (k0 j x hx)
      obtain ⟨hil, hi1, hone, hs1⟩ := hc_facts h32
      obtain ⟨gn, hgn, hclr, hgb, hglt, hth⟩ := HO.out.block (by rw [nodesL_length]; decide)
      injection hgn with hgn
      injection hgn with hgn _ _
      subst hgn
      have hth64 := hth (64 + i) (by rw [nodesL_length]; omega)
      have hset := HO.out.set rfl (64 + i) (by rw [nodesL_length]; omega) h32
      have HSET := Lib.hid (show OwnH (wr.setCells w.heap.size ((64 + i) * 32) (hcells L[i])) w.heap.size (.slice (some ⟨w.heap.size, 0, none⟩) 128 128) (nodesL (someL L (i + 1))) by
        rw [someL_succ, nodesL_upd _ _ _ (by omega), List.getD_eq_getElem?_getD, List.getElem?_eq_getElem hiL]
        exact hset)
      have HBS := Lib.hid (Below.only HB.out (grown_setCells w.heap.size (hcells L[i]) ((64 + i) * 32) wr) (Nat.le_refl _) HB.out.size)
      clear hset hth hgb hglt k0 h32 hclr
      generalize hcells L[i] = C at hR hil hi1 hone hs1 HSET HBS
      have hth64' : wr.there w.heap.size ((64 + i) * 32) C.toArray.size := by rw [hs1]; exact hth64
      have hi64' : (i : Int) < 64 := by omega
      go_wp2_with (first | (refine wpList_load_mid rfl 39 _ rfl b (o + i * 32) rfl C _ hR Tryd.underlying39 rfl hil ?_) | (refine wpList_store_mid rfl 39 _ _ rfl w.heap.size ((64 + i) * 32) C.toArray rfl rfl hth64' hi1 hone ?_))
      exact ⟨⟨i + 1, by go_num, by omega, HSET.out, HBS.out⟩, by simp [intOf]; omega⟩
    · obtain rfl : i = 64 := by omega
      have HK := Lib.hid (someL_leaves L Hl.out)
      have HKL := Lib.hid (someL_len HS.out.all 64)
      obtain ⟨K0, hK0⟩ : ∃ K0, someL L 64 = K0 := ⟨_, rfl⟩
      rw [hK0] at HO HK HKL
      clear hK0
      go_wp2
      go_loopw [5] (fun z wr => ∃ (n : Nat) (K : Nat → List UInt8), z = .int .i64 (n : Int) ∧ n ≤ 63 ∧ OwnH wr w.heap.size (.slice (some ⟨w.heap.size, 0, none⟩) 128 128) (nodesL K) ∧ Len K ∧ leavesOf K = L ∧ (∀ i, n < i → i < 64 → Ok K i) ∧ Below w.heap.size w wr) (fun z _ => (intOf z).toNat)
      case atStart => exact ⟨63, K0, rfl, by decide, HO.out, HKL.out, HK.out, fun i h1 h2 => absurd h2 (by omega), HB.out⟩
      case round =>
        clear HO HB HK HKL
        obtain ⟨n, K, rfl, hn, ho, hlen, hlv, hok, hb⟩ := hrel
        have HO := Lib.hid ho
        have HLen := Lib.hid hlen
        have HLv := Lib.hid hlv
        have HOk := Lib.hid hok
        have HB := Lib.hid hb
        clear ho hlen hlv hok hb
        by_cases h0 : 1 ≤ n
        · obtain ⟨a, ha⟩ : ∃ a, a = 2 * n := ⟨_, rfl⟩
          obtain ⟨b, hb⟩ : ∃ b, b = 2 * n + 1 := ⟨_, rfl⟩
          have ha128 : a < 128 := by omega
          have hb128 : b < 128 := by omega
          have E2 := Lib.hid (show IntKind.i64.wrap (2 * (n : Int)) = (a : Int) by rw [IntKind.wrap_i64]; omega)
          have E3 := Lib.hid (show IntKind.i64.wrap ((a : Int) + 1) = (b : Int) by rw [IntKind.wrap_i64]; omega)
          have BA := Lib.hid (show (a : Int) < 128 by omega)
          have BB := Lib.hid (show (b : Int) < 128 by omega)
          have BN := Lib.hid (show (n : Int) < 128 by omega)
          have h32a := HLen.out a ha128
          have h32b := HLen.out b hb128
          have HAN := Lib.hid (show anew K n = upd K n (shaN ([1] ++ K a ++ K b)) by rw [ha, hb]; simp [anew, nodeN])
          have HLA := Lib.hid (show [(1 : UInt8)].length + (K a).length ≤ 1000000000 by rw [h32a]; decide)
          have HLB := Lib.hid (show ([(1 : UInt8)] ++ K a).length + (K b).length ≤ 1000000000 by rw [List.length_append, h32a, h32b]; decide)
          have HLC := Lib.hid (show ([(1 : UInt8)] ++ K a ++ K b).length ≤ 1000000 by rw [List.length_append, List.length_append, h32a, h32b]; decide)
          clear ha hb
          have hsh := HO.out.sh
          obtain ⟨b1, o1, e1, hra⟩ := hsh.at_ a (by rw [nodesL_length]; exact ha128)
          injection e1 with e1
          injection e1 with eb eo _
          subst eb eo
          obtain ⟨b2, o2, e2, hrb⟩ := hsh.at_ b (by rw [nodesL_length]; exact hb128)
          injection e2 with e2
          injection e2 with eb eo _
          subst eb eo
          rw [nodesL_get, Nat.zero_add] at hra hrb
          have HR1 := Lib.hid (show wr.drew.rangeAt w.heap.size (a * 32) (hcells (K a)) from hra)
          have HR2 := Lib.hid (show wr.drew.rangeAt w.heap.size (b * 32) (hcells (K b)) from hrb)
          have HB0 := Lib.hid (show Below wr.heap.size wr wr.drew from (Below.refl _ _).drew)
          clear hsh hra hrb
          go_upto_region 9 with (fail)
          go_cut [6, 7] (fun x y wc => ∃ ga gb, x = .pointer (some ⟨ga, 0, none⟩) ∧ y = .pointer (some ⟨gb, 0, none⟩) ∧ wr.heap.size ≤ ga ∧ wr.heap.size ≤ gb ∧ Blk wc ga 39 (rowB (K a)) ∧ Blk wc gb 39 (rowB (K b)) ∧ Below wr.heap.size wr wc)
          case first =>
            obtain ⟨hil1, hi1, hone1, hs1⟩ := hc_facts h32a
            obtain ⟨hil2, hi2, hone2, hs2⟩ := hc_facts h32b
            have hZ : (rowB (List.replicate 32 0)).size = 32 := by rw [rowB_size, List.length_replicate]
            have HC1 := Lib.hid (hcells_arr (K a))
            have HC2 := Lib.hid (hcells_arr (K b))
            generalize hcells (K a) = C1 at HR1 hil1 hi1 hone1 hs1 HC1
            generalize hcells (K b) = C2 at HR2 hil2 hi2 hone2 hs2 HC2
            refine wp_region_held_drew (S := fun X => Keeps wr.drew X) hfo (Keeps.refl _) (fun hS0 => ?_)
            generalize wr.drew = Z0 at hS0 HR1 HR2 HB0 ⊢
            refine' wpAnyH_take (i := 0) (oi := ⟨some 25, _, _, _, _, _⟩) (v := _) rfl (by kernel_rfl) (by kernel_rfl) (by kernel_rfl) (fun _ _ _ h => h) (Or.inl ⟨by rfl, ?y0⟩) hS0 ?r0
            case y0 => (intro w' hSw; go_simp; try rfl)
            try simp only [Act.put, List.setIfInBounds_toArray, List.set_cons_zero, List.set_cons_succ]
            refine' wpAnyH_take (i := 1) (oi := ⟨some 26, _, _, _, _, _⟩) (v := _) rfl (by kernel_rfl) (by kernel_rfl) (by kernel_rfl) (fun _ _ _ h => h) (Or.inl ⟨by rfl, ?y1⟩) hS0 ?r1
            case y1 => (intro w' hSw; go_simp; try rfl)
            try simp only [Act.put, List.setIfInBounds_toArray, List.set_cons_zero, List.set_cons_succ]
            refine' wpAnyH_take (i := 2) (oi := ⟨some 27, _, _, _, _, _⟩) (v := _) rfl (by kernel_rfl) (by kernel_rfl) (by kernel_rfl) (fun _ _ _ h => h) (Or.inl ⟨by rfl, ?y2⟩) hS0 ?r2
            case y2 => (intro w' hSw; go_simp; rw [E2.out]; try rfl)
            try simp only [Act.put, List.setIfInBounds_toArray, List.set_cons_zero, List.set_cons_succ]
            refine' wpAnyH_take (i := 3) (oi := ⟨some 28, _, _, _, _, _⟩) (v := _) rfl (by kernel_rfl) (by kernel_rfl) (by kernel_rfl) (fun _ _ _ h => h) (Or.inl ⟨by rfl, ?y3⟩) hS0 ?r3
            case y3 => (intro w' hSw; go_simp; rw [if_pos BA.out]; try rfl)
            try simp only [Act.put, List.setIfInBounds_toArray, List.set_cons_zero, List.set_cons_succ]
            refine' wpAnyH_take (i := 5) (oi := ⟨some 30, _, _, _, _, _⟩) (v := _) rfl (by kernel_rfl) (by kernel_rfl) (by kernel_rfl) (fun _ _ _ h => h) (Or.inl ⟨by rfl, ?y5⟩) hS0 ?r5
            case y5 => (intro w' hSw; go_simp; try rfl)
            try simp only [Act.put, List.setIfInBounds_toArray, List.set_cons_zero, List.set_cons_succ]
            refine' wpAnyH_take (i := 6) (oi := ⟨some 31, _, _, _, _, _⟩) (v := _) rfl (by kernel_rfl) (by kernel_rfl) (by kernel_rfl) (fun _ _ _ h => h) (Or.inl ⟨by rfl, ?y6⟩) hS0 ?r6
            case y6 => (intro w' hSw; go_simp; try rfl)
            try simp only [Act.put, List.setIfInBounds_toArray, List.set_cons_zero, List.set_cons_succ]
            refine' wpAnyH_take (i := 7) (oi := ⟨some 32, _, _, _, _, _⟩) (v := _) rfl (by kernel_rfl) (by kernel_rfl) (by kernel_rfl) (fun _ _ _ h => h) (Or.inl ⟨by rfl, ?y7⟩) hS0 ?r7
            case y7 => (intro w' hSw; go_simp; rw [E2.out]; try rfl)
            try simp only [Act.put, List.setIfInBounds_toArray, List.set_cons_zero, List.set_cons_succ]
            refine' wpAnyH_take (i := 8) (oi := ⟨some 33, _, _, _, _, _⟩) (v := _) rfl (by kernel_rfl) (by kernel_rfl) (by kernel_rfl) (fun _ _ _ h => h) (Or.inl ⟨by rfl, ?y8⟩) hS0 ?r8
            case y8 => (intro w' hSw; go_simp; rw [E3.out]; try rfl)
            try simp only [Act.put, List.setIfInBounds_toArray, List.set_cons_zero, List.set_cons_succ]
            refine' wpAnyH_take (i := 9) (oi := ⟨some 34, _, _, _, _, _⟩) (v := _) rfl (by kernel_rfl) (by kernel_rfl) (by kernel_rfl) (fun _ _ _ h => h) (Or.inl ⟨by rfl, ?y9⟩) hS0 ?r9
            case y9 => (intro w' hSw; go_simp; rw [if_pos BB.out]; try rfl)
            try simp only [Act.put, List.setIfInBounds_toArray, List.set_cons_zero, List.set_cons_succ]
            refine' wpAnyH_take (i := 4) (oi := ⟨some 29, _, _, _, _, _⟩) (v := .agg C1.toArray) rfl (by kernel_rfl) (by kernel_rfl) (by kernel_rfl) (fun _ _ _ h => h) (yieldsIf_load_mid (by rfl) 39 _ rfl w.heap.size (a * 32) rfl C1 _ (fun X hX => rangeAt.keepK HR1.out hX) Tryd.underlying39 rfl hil1) hS0 ?r4
            try simp only [Act.put, List.setIfInBounds_toArray, List.set_cons_zero, List.set_cons_succ]
            refine' wpAnyH_take (i := 10) (oi := ⟨some 35, _, _, _, _, _⟩) (v := .agg C2.toArray) rfl (by kernel_rfl) (by kernel_rfl) (by kernel_rfl) (fun _ _ _ h => h) (yieldsIf_load_mid (by rfl) 39 _ rfl w.heap.size (b * 32) rfl C2 _ (fun X hX => rangeAt.keepK HR2.out hX) Tryd.underlying39 rfl hil2) hS0 ?r10
            try simp only [Act.put, List.setIfInBounds_toArray, List.set_cons_zero, List.set_cons_succ]
            refine held_two (i := 11) (j := 12) (by kernel_rfl) rfl rfl (fun K hK => ?_) (fun K hK => ?_)
            · skip
              go_simp
              change K _ (Z0.alloc (.cells (rowB (List.replicate 32 0)) 39))
              have kk1 : Keeps Z0 (Z0.alloc (.cells (rowB (List.replicate 32 0)) 39)) := Keeps.of_below ((Below.refl _ _).alloc (Nat.le_refl _) _)
              refine hK.out _ _ kk1 (fun _ => ?_)
              clear hK K
              have hN1 := Blk.new Z0 39 (rowB (List.replicate 32 0))
              have hb1 : Below Z0.heap.size Z0 (Z0.alloc (.cells (rowB (List.replicate 32 0)) 39)) := (Below.refl _ _).alloc (Nat.le_refl _) _
              have hz1' : (Z0.alloc (.cells (rowB (List.replicate 32 0)) 39)).heap.size = Z0.heap.size + 1 := by simp
              refine held_one (i := 12) (by kernel_rfl) rfl (fun K hK => ?_)
              go_simp
              change K _ ((Z0.alloc (.cells (rowB (List.replicate 32 0)) 39)).alloc (.cells (rowB (List.replicate 32 0)) 39))
              have kk2 : Keeps Z0 ((Z0.alloc (.cells (rowB (List.replicate 32 0)) 39)).alloc (.cells (rowB (List.replicate 32 0)) 39)) := kk1.trans (Keeps.of_below ((Below.refl _ _).alloc (Nat.le_refl _) _))
              refine hK.out _ _ kk2 (fun _ => ?_)
              clear hK K
              have hN1' := hN1.alloc (.cells (rowB (List.replicate 32 0)) 39)
              have hN2 := Blk.new (Z0.alloc (.cells (rowB (List.replicate 32 0)) 39)) 39 (rowB (List.replicate 32 0))
              rw [hz1'] at hN2
              have hb2 : Below Z0.heap.size Z0 ((Z0.alloc (.cells (rowB (List.replicate 32 0)) 39)).alloc (.cells (rowB (List.replicate 32 0)) 39)) := hb1.alloc (by rw [hz1']; omega) _
              generalize (Z0.alloc (.cells (rowB (List.replicate 32 0)) 39)).alloc (.cells (rowB (List.replicate 32 0)) 39) = Z2 at kk2 hN1' hN2 hb2 ⊢
              clear hN1 hb1 kk1
              refine held_one (i := 13) (by kernel_rfl) rfl (fun K hK => ?_)
              rw [if_pos (by rfl)]
              have htA : Z2.there Z0.heap.size 0 C1.toArray.size := by rw [hs1, ← hZ]; exact hN1'.there
              refine wp_store_mid 39 _ _ rfl Z0.heap.size 0 C1.toArray rfl rfl htA hi1 hone1 ?_
              have hgr1 := grown_setCells Z0.heap.size C1.toArray.toList 0 Z2
              have kk3 := keeps_fresh kk2 hgr1 (by omega)
              refine hK.out _ _ kk3 (fun _ => ?_)
              clear hK K
              have hA3 := hN1'.setRow (ds := C1.toArray) (by rw [hs1, hZ])
              have hB3 := hN2.grown hgr1 (by intro e; injection e with e; omega)
              have hb3 := Below.only hb2 hgr1 (by omega) hb2.size
              generalize Z2.setCells Z0.heap.size 0 C1.toArray.toList = Z3 at kk3 hA3 hB3 hb3 ⊢
              clear hgr1 kk2 htA hN1' hN2 hb2
              refine held_one (i := 14) (by kernel_rfl) rfl (fun K hK => ?_)
              rw [if_pos (by rfl)]
              have htB : Z3.there (Z0.heap.size + 1) 0 C2.toArray.size := by rw [hs2, ← hZ]; exact hB3.there
              refine wp_store_mid 39 _ _ rfl (Z0.heap.size + 1) 0 C2.toArray rfl rfl htB hi2 hone2 ?_
              have hgr2 := grown_setCells (Z0.heap.size + 1) C2.toArray.toList 0 Z3
              have kk4 := keeps_fresh kk3 hgr2 (by omega)
              refine hK.out _ _ kk4 (fun _ => ?_)
              clear hK K
              have hB4 := hB3.setRow (ds := C2.toArray) (by rw [hs2, hZ])
              have hA4 := hA3.grown hgr2 (by intro e; injection e with e; omega)
              have hb4 := Below.only hb3 hgr2 (by omega) hb3.size
              generalize Z3.setCells (Z0.heap.size + 1) 0 C2.toArray.toList = Z4 at kk4 hA4 hB4 hb4 ⊢
              try simp only [Act.put, List.setIfInBounds_toArray, List.set_cons_zero, List.set_cons_succ]
              refine wpAnyH_done (by kernel_rfl) ?_ _
              go_wp2_with fail
              go_meet
              exact ⟨_, _, rfl, rfl, by have := HB0.out.size; omega, by have := HB0.out.size; omega, by rw [← HC1.out]; exact hA4, by rw [← HC2.out]; exact hB4, HB0.out.trans (hb4.mono HB0.out.size)⟩
            · skip
              go_simp
              change K _ (Z0.alloc (.cells (rowB (List.replicate 32 0)) 39))
              have kk1 : Keeps Z0 (Z0.alloc (.cells (rowB (List.replicate 32 0)) 39)) := Keeps.of_below ((Below.refl _ _).alloc (Nat.le_refl _) _)
              refine hK.out _ _ kk1 (fun _ => ?_)
              clear hK K
              have hN1 := Blk.new Z0 39 (rowB (List.replicate 32 0))
              have hb1 : Below Z0.heap.size Z0 (Z0.alloc (.cells (rowB (List.replicate 32 0)) 39)) := (Below.refl _ _).alloc (Nat.le_refl _) _
              have hz1' : (Z0.alloc (.cells (rowB (List.replicate 32 0)) 39)).heap.size = Z0.heap.size + 1 := by simp
              refine held_one (i := 11) (by kernel_rfl) rfl (fun K hK => ?_)
              go_simp
              change K _ ((Z0.alloc (.cells (rowB (List.replicate 32 0)) 39)).alloc (.cells (rowB (List.replicate 32 0)) 39))
              have kk2 : Keeps Z0 ((Z0.alloc (.cells (rowB (List.replicate 32 0)) 39)).alloc (.cells (rowB (List.replicate 32 0)) 39)) := kk1.trans (Keeps.of_below ((Below.refl _ _).alloc (Nat.le_refl _) _))
              refine hK.out _ _ kk2 (fun _ => ?_)
              clear hK K
              have hN1' := hN1.alloc (.cells (rowB (List.replicate 32 0)) 39)
              have hN2 := Blk.new (Z0.alloc (.cells (rowB (List.replicate 32 0)) 39)) 39 (rowB (List.replicate 32 0))
              rw [hz1'] at hN2
              have hb2 : Below Z0.heap.size Z0 ((Z0.alloc (.cells (rowB (List.replicate 32 0)) 39)).alloc (.cells (rowB (List.replicate 32 0)) 39)) := hb1.alloc (by rw [hz1']; omega) _
              generalize (Z0.alloc (.cells (rowB (List.replicate 32 0)) 39)).alloc (.cells (rowB (List.replicate 32 0)) 39) = Z2 at kk2 hN1' hN2 hb2 ⊢
              clear hN1 hb1 kk1
              refine held_one (i := 13) (by kernel_rfl) rfl (fun K hK => ?_)
              rw [if_pos (by rfl)]
              have htA : Z2.there (Z0.heap.size + 1) 0 C1.toArray.size := by rw [hs1, ← hZ]; exact hN2.there
              refine wp_store_mid 39 _ _ rfl (Z0.heap.size + 1) 0 C1.toArray rfl rfl htA hi1 hone1 ?_
              have hgr1 := grown_setCells (Z0.heap.size + 1) C1.toArray.toList 0 Z2
              have kk3 := keeps_fresh kk2 hgr1 (by omega)
              refine hK.out _ _ kk3 (fun _ => ?_)
              clear hK K
              have hA3 := hN2.setRow (ds := C1.toArray) (by rw [hs1, hZ])
              have hB3 := hN1'.grown hgr1 (by intro e; injection e with e; omega)
              have hb3 := Below.only hb2 hgr1 (by omega) hb2.size
              generalize Z2.setCells (Z0.heap.size + 1) 0 C1.toArray.toList = Z3 at kk3 hA3 hB3 hb3 ⊢
              clear hgr1 kk2 htA hN1' hN2 hb2
              refine held_one (i := 14) (by kernel_rfl) rfl (fun K hK => ?_)
              rw [if_pos (by rfl)]
              have htB : Z3.there Z0.heap.size 0 C2.toArray.size := by rw [hs2, ← hZ]; exact hB3.there
              refine wp_store_mid 39 _ _ rfl Z0.heap.size 0 C2.toArray rfl rfl htB hi2 hone2 ?_
              have hgr2 := grown_setCells Z0.heap.size C2.toArray.toList 0 Z3
              have kk4 := keeps_fresh kk3 hgr2 (by omega)
              refine hK.out _ _ kk4 (fun _ => ?_)
              clear hK K
              have hB4 := hB3.setRow (ds := C2.toArray) (by rw [hs2, hZ])
              have hA4 := hA3.grown hgr2 (by intro e; injection e with e; omega)
              have hb4 := Below.only hb3 hgr2 (by omega) hb3.size
              generalize Z3.setCells Z0.heap.size 0 C2.toArray.toList = Z4 at kk4 hA4 hB4 hb4 ⊢
              try simp only [Act.put, List.setIfInBounds_toArray, List.set_cons_zero, List.set_cons_succ]
              refine wpAnyH_done (by kernel_rfl) ?_ _
              go_wp2_with fail
              go_meet
              exact ⟨_, _, rfl, rfl, by have := HB0.out.size; omega, by have := HB0.out.size; omega, by rw [← HC1.out]; exact hA4, by rw [← HC2.out]; exact hB4, HB0.out.trans (hb4.mono HB0.out.size)⟩
          case rest =>
            obtain ⟨ga, gb, rfl, rfl, hga, hgb, hbA, hbB, hbw⟩ := hcut
            have hgaS : Sl wc.drew (.slice (some ⟨ga, 0, none⟩) 32 32) (K a) := Sl.of_range (fun j v hv => by rw [Nat.zero_add, hbA.drew.cell j, ← hcells_arr, List.getElem?_toArray]; exact hv) 32 32 h32a.symm (Nat.le_refl _)
            have hgbS : Sl wc.drew (.slice (some ⟨gb, 0, none⟩) 32 32) (K b) := Sl.of_range (fun j v hv => by rw [Nat.zero_add, hbB.drew.cell j, ← hcells_arr, List.getElem?_toArray]; exact hv) 32 32 h32b.symm (Nat.le_refl _)
            have HA := Lib.hid hgaS
            have HBb := Lib.hid hgbS
            have HO0 := Lib.hid (show OwnH wc.drew w.heap.size (.slice (some ⟨w.heap.size, 0, none⟩) 128 128) (nodesL K) from (HO.out.below hbw).drew)
            have HBW := Lib.hid (show Below w.heap.size w wc.drew from (HB.out.trans (hbw.mono HB.out.size)).drew)
            clear hga hgb hbA hbB hbw hgaS hgbS HR1 HR2 HB0
            go_wp2_with fail
            refine wp_region_held_drew (S := fun X => World.grownBy wc.drew X (some w.heap.size)) hfo (grown_refl _ _) (fun hS0 => ?_)
            generalize wc.drew = Z0 at hS0 HA HBb HO0 HBW ⊢
            refine' wpAnyH_take (i := 0) (oi := ⟨some 36, _, _, _, _, _⟩) (v := _) rfl (by kernel_rfl) (by kernel_rfl) (by kernel_rfl) (fun _ _ _ h => h) (Or.inl ⟨by rfl, ?y0T⟩) hS0 ?r0T
            case y0T => (intro w' hSw; go_simp; try rfl)
            try simp only [Act.put, List.setIfInBounds_toArray, List.set_cons_zero, List.set_cons_succ]
            refine' wpAnyH_take (i := 1) (oi := ⟨some 37, _, _, _, _, _⟩) (v := _) rfl (by kernel_rfl) (by kernel_rfl) (by kernel_rfl) (fun _ _ _ h => h) (Or.inl ⟨by rfl, ?y1T⟩) hS0 ?r1T
            case y1T => (intro w' hSw; go_simp; try rfl)
            try simp only [Act.put, List.setIfInBounds_toArray, List.set_cons_zero, List.set_cons_succ]
            refine' wpAnyH_take (i := 3) (oi := ⟨some 39, _, _, _, _, _⟩) (v := _) rfl (by kernel_rfl) (by kernel_rfl) (by kernel_rfl) (fun _ _ _ h => h) (Or.inl ⟨by rfl, ?y3T⟩) hS0 ?r3T
            case y3T => (intro w' hSw; go_simp; try rfl)
            try simp only [Act.put, List.setIfInBounds_toArray, List.set_cons_zero, List.set_cons_succ]
            refine' wpAnyH_take (i := 5) (oi := ⟨some 41, _, _, _, _, _⟩) (v := _) rfl (by kernel_rfl) (by kernel_rfl) (by kernel_rfl) (fun _ _ _ h => h) (Or.inl ⟨by rfl, ?y5T⟩) hS0 ?r5T
            case y5T => (intro w' hSw; go_simp; try rfl)
            try simp only [Act.put, List.setIfInBounds_toArray, List.set_cons_zero, List.set_cons_succ]
            refine held_one (i := 2) (by kernel_rfl) rfl (fun KT hK => ?_)
            go_simp
            have hS1 := hS0.trans (grown_of_below ((Below.refl _ _).alloc (Nat.le_refl _) (.cells #[.int .u8 1] 5)) (some w.heap.size))
            refine hK.out _ _ hS1 (fun _ => ?_)
            clear hK KT
            try simp only [Act.put, List.setIfInBounds_toArray, List.set_cons_zero, List.set_cons_succ]
            have ho1 : Own (Z0.alloc (.cells #[.int .u8 1] 5)) Z0.heap.size 5 (.slice (some ⟨Z0.heap.size, 0, none⟩) 1 1) [1] := Own.of_new Z0 Z0.heap.size 5 _ [1] 1 (Nat.le_refl _) rfl rfl (by simp)
            have hsA : Sl (Z0.alloc (.cells #[.int .u8 1] 5)) (.slice (some ⟨ga, 0, none⟩) 32 32) (K a) := HA.out.alloc _
            have hsB : Sl (Z0.alloc (.cells #[.int .u8 1] 5)) (.slice (some ⟨gb, 0, none⟩) 32 32) (K b) := HBb.out.alloc _
            have hbz : Below Z0.heap.size Z0 (Z0.alloc (.cells #[.int .u8 1] 5)) := (Below.refl _ _).alloc (Nat.le_refl _) _
            generalize Z0.alloc (.cells #[.int .u8 1] 5) = Z2 at hS1 ho1 hsA hsB hbz ⊢
            refine held_one (i := 4) (by kernel_rfl) rfl (fun KT hK => ?_)
            refine step_append_bytes _ (by rfl) _ _ 45 rfl Z0.heap.size 5 j0 Tryd.underlying45 hj hj0 hj1 hj2 _ [1] rfl ho1 _ (K a) rfl hsA HLA.out hbz.size ?_
            intro v4 Z4 ho4 hb4
            have hbz4 := hbz.trans hb4
            have hS4 := hS0.trans (grown_of_below hbz4 (some w.heap.size))
            have hsB4 := HBb.out.below hbz4
            refine hK.out _ _ hS4 (fun _ => ?_)
            clear hK KT
            try simp only [Act.put, List.setIfInBounds_toArray, List.set_cons_zero, List.set_cons_succ]
            refine held_one (i := 6) (by kernel_rfl) rfl (fun KT hK => ?_)
            refine step_append_bytes _ (by rfl) _ _ 45 rfl Z0.heap.size 5 j0 Tryd.underlying45 hj hj0 hj1 hj2 _ ([1] ++ K a) rfl ho4 _ (K b) rfl hsB4 HLB.out hbz4.size ?_
            intro v6 Z6 ho6 hb6
            have hbz6 := hbz4.trans hb6
            have hS6 := hS0.trans (grown_of_below hbz6 (some w.heap.size))
            refine hK.out _ _ hS6 (fun _ => ?_)
            clear hK KT
            try simp only [Act.put, List.setIfInBounds_toArray, List.set_cons_zero, List.set_cons_succ]
            refine held_one (i := 7) (by kernel_rfl) rfl (fun KT hK => ?_)
            go_simp
            refine (refSum_any v6 ([1] ++ K a ++ K b) Z6 ho6.sl HLC.out).mono ?_
            rintro e Z1 ⟨rfl, hb7⟩
            have hS1 := hS0.trans (grown_of_below (hbz6.trans (hb7.mono hbz6.size)) (some w.heap.size))
            refine hK.out _ _ hS1 (fun _ => ?_)
            clear hK KT
            try simp only [Act.put, List.setIfInBounds_toArray, List.set_cons_zero, List.set_cons_succ]
            have HBZ := Lib.hid (hbz6.trans (hb7.mono hbz6.size))
            clear hb7 hb6 hb4 ho6 ho4 ho1 hsA hsB hsB4 hbz hbz4 hbz6 hS6 hS4
            rw [← hcells_arr]
            generalize hR : hcells (shaN ([1] ++ K a ++ K b)) = R
            have ER := Lib.hid hR
            clear hR
            refine' wpAnyH_take (i := 8) (oi := ⟨some 44, _, _, _, _, _⟩) (v := _) rfl (by kernel_rfl) (by kernel_rfl) (by kernel_rfl) (fun _ _ _ h => h) (Or.inl ⟨by rfl, ?y8T⟩) hS1 ?r8T
            case y8T => (intro w' hSw; go_simp; rw [if_pos BN.out]; try rfl)
            try simp only [Act.put, List.setIfInBounds_toArray, List.set_cons_zero, List.set_cons_succ]
            have HO7 := Lib.hid (HO0.out.below HBZ.out)
            have hR32 : R.length = 32 := by rw [← ER.out, hcells_length]; exact shaN_len32 _
            have hth : Z1.there w.heap.size (n * 32) R.toArray.size := by
              obtain ⟨gn, hgn, _, _, _, hth⟩ := HO7.out.block (by rw [nodesL_length]; decide)
              injection hgn with hgn
              injection hgn with hgn _ _
              subst hgn
              have := hth n (by rw [nodesL_length]; omega)
              rw [show R.toArray.size = 32 by simp [hR32]]
              exact this
            have hiR : (Tryd.prog.info? 39).map (·.size) = some R.toArray.size := by rw [info_h32]; simp [hR32]
            have hoR : R.toArray.all (·.oneCell') = true := by rw [← ER.out]; exact rowB_one _
            refine held_one (i := 9) (by kernel_rfl) rfl (fun KT hK => ?_)
            rw [if_pos (by rfl)]
            refine wp_store_mid 39 _ _ rfl w.heap.size (n * 32) R.toArray rfl rfl hth hiR hoR ?_
            have hgrS := grown_setCells w.heap.size R.toArray.toList (n * 32) Z1
            have hS9 := hS1.trans hgrS
            refine hK.out _ _ hS9 (fun _ => ?_)
            clear hK KT
            try simp only [Act.put, List.setIfInBounds_toArray, List.set_cons_zero, List.set_cons_succ]
            refine wpAnyH_done (by kernel_rfl) ?_ _
            have hset := HO7.out.set rfl n (by rw [nodesL_length]; omega) (shaN_len32 ([1] ++ K a ++ K b))
            rw [ER.out, ← nodesL_upd _ _ _ (by omega), ← HAN.out] at hset
            have HF := Lib.hid (show OwnH (Z1.setCells w.heap.size (n * 32) R.toArray.toList) w.heap.size (.slice (some ⟨w.heap.size, 0, none⟩) 128 128) (nodesL (anew K n)) from hset)
            have HBF := Lib.hid (Below.only (HBW.out.trans (HBZ.out.mono HBW.out.size)) hgrS (Nat.le_refl _) (HBW.out.trans (HBZ.out.mono HBW.out.size)).size)
            clear hset hS0 hS1 hS9 hgrS hth hiR hoR hR32
            generalize Z1.setCells w.heap.size (n * 32) R.toArray.toList = Z9 at HF HBF ⊢
            have HNX := Lib.hid (show ∀ i, n - 1 < i → i < 64 → Ok (anew K n) i from fun i hi1 hi2 => by
              by_cases e : i = n
              · subst e; exact anew_ok K i (by omega)
              · exact anew_keeps K n i (HOk.out i (by omega) hi2) e (by omega) (by omega))
            obtain ⟨m, rfl⟩ : ∃ m, n = m + 1 := ⟨n - 1, by omega⟩
            go_wp2
            go_roundw
            case rel => exact ⟨m, by go_num, by omega, anew K (m + 1), HF.out, HLen.out.anew (m + 1), by rw [leavesOf_anew K (m + 1) (by omega)]; exact HLv.out, fun i h1 h2 => HNX.out i (by omega) h2, HBF.out⟩
            case measure => simp [intOf]; omega
        · obtain rfl : n = 0 := by omega
          go_wp2
          go_ret
          exact ⟨_, K, rfl, HO.out, HLen.out, fun i h1 h2 => HOk.out i (by omega) h2, HLv.out, HB.out⟩
end Go.Proofs.YtdbhffkfkklehaaDoor

/-
  The walk of the law's stands: a tree has these leaves.
-/
namespace Go.Proofs.YtdbhffkfkklehaaDoor
open Go.RowKit
set_option linter.unusedVariables false
set_option linter.unusedSimpArgs false
set_option maxRecDepth 100000

/-- A row of nodes, at a place. -/
theorem OwnH.node {w : World} {base gw : Nat} {n c : Nat} {K : Nat → List UInt8} (h : OwnH w base (.slice (some ⟨gw, 0, none⟩) n c) (nodesL K)) (k : Nat) (hk : k < 128) : w.rangeAt gw (k * 32) (hcells (K k)) := by
  obtain ⟨b, o, e, hr⟩ := h.sh.at_ k (by rw [nodesL_length]; exact hk)
  injection e with e
  injection e with eb eo _
  subst eb eo
  rwa [nodesL_get, Nat.zero_add] at hr

set_option maxHeartbeats 4000000 in
theorem stands_any (w : World) (g : Nat) (H : Nat → List UInt8) (v : Value) (L : List (List UInt8)) (h : Tr w g H) (hgood : Good H) (hs : Sh w v L) (hlv : leavesOf H = L) :
    Calls Tryd.prog 12 #[.pointer (some ⟨g, 0, none⟩), v] w fun e w' => e = .returned (.bool true) ∧ Below w.heap.size w w' := by
  have hfo : Tryd.prog.follows .mixedOrders = true := by kernel_rfl
  have he : ∀ w, (Op.equalIn 10000 39 (.agg (rowB zero32)) (.agg #[.int .u8 0, .int .u8 0, .int .u8 0, .int .u8 0, .int .u8 0, .int .u8 0, .int .u8 0, .int .u8 0, .int .u8 0, .int .u8 0, .int .u8 0, .int .u8 0, .int .u8 0, .int .u8 0, .int .u8 0, .int .u8 0, .int .u8 0, .int .u8 0, .int .u8 0, .int .u8 0, .int .u8 0, .int .u8 0, .int .u8 0, .int .u8 0, .int .u8 0, .int .u8 0, .int .u8 0, .int .u8 0, .int .u8 0, .int .u8 0, .int .u8 0, .int .u8 0])).run Tryd.prog w = .ok true w := fun w => hash_self zero32 zero32_length w
  have HE0 := Lib.hid he
  clear he
  have hl : L.length = 64 := by rw [← hlv, leavesOf_length]
  have Hl := Lib.hid hl
  have HS := Lib.hid hs
  obtain ⟨A, n0, c, rfl⟩ := hs.shape
  clear hs hl
  go_enter Tryd.func12, Tryd.ntmps12
  go_wp2_with fail
  refine (nodes_any w _ L HS.out Hl.out).mono ?_
  rintro e w1 ⟨v1, K, rfl, ho1, hlen1, hgood1, hlv1, hb1⟩
  have HKH := Lib.hid (show ∀ n, 1 ≤ n → n < 128 → K n = H n from fun n a b => hgood1.eq hgood (by rw [hlv1, hlv]) n a b)
  obtain ⟨A1, n1, c1, rfl⟩ := ho1.sh.shape
  obtain ⟨gw, rfl, hn1, _, _, _⟩ := ho1.block (by rw [nodesL_length]; decide)
  rw [nodesL_length] at hn1
  subst hn1
  have HO1 := Lib.hid ho1
  have HT := Lib.hid (h.past hb1)
  have HB := Lib.hid hb1
  have HLV := Lib.hid hlv
  clear ho1 hlen1 hgood1 hlv1 hb1 h hgood hlv
  go_wp2
  go_loopw [6] (fun z wr => ∃ m : Nat, z = .int .i64 ((m : Int) - 1) ∧ m ≤ 131 ∧ Below w1.heap.size w1 wr) (fun z _ => (130 - intOf z).toNat)
  case atStart => exact ⟨0, rfl, by decide, Below.refl _ _⟩
  case round =>
    obtain ⟨m, rfl, hm, hb⟩ := hrel
    have HBr := Lib.hid hb
    clear hb
    have HTr := Lib.hid (HT.out.past HBr.out)
    by_cases hlt : m < 131
    · by_cases hin : 2 ≤ m ∧ m < 129
      · obtain ⟨n, rfl⟩ : ∃ n, m = n + 1 := ⟨m - 1, by omega⟩
        have hn1 : 1 ≤ n := by omega
        have hn2 : n < 128 := by omega
        have hn3 : ((n : Int)) < 130 := by omega
        have hn4 : ¬ ((n : Int)) < 1 := by omega
        have hn5 : ¬ (127 : Int) < (n : Int) := by omega
        rw [show (((n + 1 : Nat) : Int) - 1) = (n : Int) by omega]
        go_wp2_with fail
        refine (node_tree wr g H HTr.out n hn1 hn2).mono ?_
        rintro e w8 ⟨rfl, hb8⟩
        have h32 := HTr.out.len n hn2
        obtain ⟨hil, hi, h1, hs1⟩ := hc_facts h32
        have HEQ := Lib.hid (fun w => hash_self (H n) h32 w)
        have hwr := HO1.out.node n hn2
        rw [HKH.out n hn1 hn2] at hwr
        rw [← hcells_arr] at HEQ ⊢
        generalize hcells (H n) = C at hil hi h1 hs1 HEQ hwr ⊢
        obtain ⟨R, hR⟩ : ∃ R, R = C.toArray := ⟨_, rfl⟩
        rw [← hR] at hi h1 hs1 ⊢
        have HR := Lib.hid hR
        clear hR h32
        have hN := Blk.new w8 39 (rowB (List.replicate 32 0))
        have hb9 : Below w8.heap.size w8 (w8.alloc (.cells (rowB (List.replicate 32 0)) 39)) := (Below.refl _ _).alloc (Nat.le_refl _) _
        have hZ : (rowB (List.replicate 32 0)).size = 32 := by rw [rowB_size, List.length_replicate]
        have hth : (w8.alloc (.cells (rowB (List.replicate 32 0)) 39)).there w8.heap.size 0 R.size := by rw [hs1, ← hZ]; exact hN.there
        have hgr := grown_setCells w8.heap.size R.toList 0 (w8.alloc (.cells (rowB (List.replicate 32 0)) 39))
        have HBE := Lib.hid (Below.only hb9 hgr (Nat.le_refl _) hb9.size)
        have HCELL := Lib.hid (hN.setRow (ds := R) (by rw [hs1, hZ]))
        clear hN hb9 hgr hZ
        go_upto_region 6 with (refine wpList_store_mid rfl 39 _ _ rfl w8.heap.size 0 R rfl rfl hth hi h1 ?_)
        change Code.wp _ _ _ _ ((w8.alloc (.cells (rowB (List.replicate 32 0)) 39)).setCells w8.heap.size 0 R.toList)
        generalize (w8.alloc (.cells (rowB (List.replicate 32 0)) 39)).setCells w8.heap.size 0 R.toList = w9 at HBE HCELL ⊢
        clear hth
        rw [HR.out] at HCELL
        have HCR := Lib.hid (show w9.drew.rangeAt w8.heap.size 0 C from fun j x hx => by rw [Nat.zero_add, HCELL.out.drew.cell j, List.getElem?_toArray]; exact hx)
        have HB9 := Lib.hid (HBr.out.trans ((hb8.trans (HBE.out.mono hb8.size)).mono HBr.out.size))
        have HWR := Lib.hid (show w9.drew.rangeAt gw (n * 32) C from fun j x hx => (HB9.out.cell (World.block_lt_of_cell? w1 _ (hwr j x hx))).trans (hwr j x hx))
        have BN := Lib.hid (show (n : Int) < 128 by omega)
        clear HBE HCELL hb8 hwr hi h1 hs1
        generalize w8.heap.size = gl at HCR ⊢
        replace HB9 := Lib.hid HB9.out.drew
        go_wp2_with fail
        refine wp_region_held_drew (S := fun X => X = w9.drew) hfo rfl (fun hS0 => ?_)
        generalize w9.drew = Z0 at *
        refine' wpAnyH_take (i := 0) (oi := ⟨some 37, _, _, _, _, _⟩) (v := .agg C.toArray) rfl (by kernel_rfl) (by kernel_rfl) (by kernel_rfl) (fun _ _ _ h => h) (yieldsIf_load_mid (by rfl) 39 _ rfl gl (0) rfl C _ (fun X hX => by subst hX; exact HCR.out) Tryd.underlying39 rfl hil) hS0 ?r0
        try simp only [Act.put, List.setIfInBounds_toArray, List.set_cons_zero, List.set_cons_succ]
        refine' wpAnyH_take (i := 1) (oi := ⟨some 38, _, _, _, _, _⟩) (v := _) rfl (by kernel_rfl) (by kernel_rfl) (by kernel_rfl) (fun _ _ _ h => h) (Or.inl ⟨by rfl, ?y1⟩) hS0 ?r1
        case y1 => (intro w' hSw; go_simp; try rfl)
        try simp only [Act.put, List.setIfInBounds_toArray, List.set_cons_zero, List.set_cons_succ]
        refine' wpAnyH_take (i := 2) (oi := ⟨some 39, _, _, _, _, _⟩) (v := _) rfl (by kernel_rfl) (by kernel_rfl) (by kernel_rfl) (fun _ _ _ h => h) (Or.inl ⟨by rfl, ?y2⟩) hS0 ?r2
        case y2 => (intro w' hSw; go_simp; try rfl)
        try simp only [Act.put, List.setIfInBounds_toArray, List.set_cons_zero, List.set_cons_succ]
        refine' wpAnyH_take (i := 3) (oi := ⟨some 40, _, _, _, _, _⟩) (v := _) rfl (by kernel_rfl) (by kernel_rfl) (by kernel_rfl) (fun _ _ _ h => h) (Or.inl ⟨by rfl, ?y3⟩) hS0 ?r3
        case y3 => (intro w' hSw; go_simp; rw [if_pos BN.out]; try rfl)
        try simp only [Act.put, List.setIfInBounds_toArray, List.set_cons_zero, List.set_cons_succ]
        refine' wpAnyH_take (i := 4) (oi := ⟨some 41, _, _, _, _, _⟩) (v := .agg C.toArray) rfl (by kernel_rfl) (by kernel_rfl) (by kernel_rfl) (fun _ _ _ h => h) (yieldsIf_load_mid (by rfl) 39 _ rfl gw (n * 32) rfl C _ (fun X hX => by subst hX; exact HWR.out) Tryd.underlying39 rfl hil) hS0 ?r4
        try simp only [Act.put, List.setIfInBounds_toArray, List.set_cons_zero, List.set_cons_succ]
        refine' wpAnyH_take (i := 5) (oi := ⟨some 42, _, _, _, _, _⟩) (v := _) rfl (by kernel_rfl) (by kernel_rfl) (by kernel_rfl) (fun _ _ _ h => h) (Or.inl ⟨by rfl, ?y5⟩) hS0 ?r5
        case y5 => (intro w' hSw; have e3 := HEQ.out; go_simp; try rfl)
        try simp only [Act.put, List.setIfInBounds_toArray, List.set_cons_zero, List.set_cons_succ]
        refine' wpAnyH_take (i := 6) (oi := ⟨some 43, _, _, _, _, _⟩) (v := _) rfl (by kernel_rfl) (by kernel_rfl) (by kernel_rfl) (fun _ _ _ h => h) (Or.inl ⟨by rfl, ?y6⟩) hS0 ?r6
        case y6 => (intro w' hSw; have e3 := HEQ.out; go_simp; try rfl)
        try simp only [Act.put, List.setIfInBounds_toArray, List.set_cons_zero, List.set_cons_succ]
        refine' wpAnyH_take (i := 7) (oi := ⟨some 44, _, _, _, _, _⟩) (v := _) rfl (by kernel_rfl) (by kernel_rfl) (by kernel_rfl) (fun _ _ _ h => h) (Or.inl ⟨by rfl, ?y7⟩) hS0 ?r7
        case y7 => (intro w' hSw; have e3 := HEQ.out; go_simp; try rfl)
        try simp only [Act.put, List.setIfInBounds_toArray, List.set_cons_zero, List.set_cons_succ]
        refine held_one (i := 8) (by kernel_rfl) rfl (fun K hK => ?_)
        go_simp
        refine (num_any _ _).mono ?_
        rintro e Z1 ⟨rfl, rfl⟩
        refine hK.out _ _ hS0 (fun _ => ?_)
        clear hK K
        try simp only [Act.put, List.setIfInBounds_toArray, List.set_cons_zero, List.set_cons_succ]
        refine' wpAnyH_take (i := 9) (oi := ⟨some 46, _, _, _, _, _⟩) (v := _) rfl (by kernel_rfl) (by kernel_rfl) (by kernel_rfl) (fun _ _ _ h => h) (Or.inl ⟨by rfl, ?y9⟩) hS0 ?r9
        case y9 => (intro w' hSw; go_simp; try rfl)
        try simp only [Act.put, List.setIfInBounds_toArray, List.set_cons_zero, List.set_cons_succ]
        refine' wpAnyH_take (i := 10) (oi := ⟨some 47, _, _, _, _, _⟩) (v := _) rfl (by kernel_rfl) (by kernel_rfl) (by kernel_rfl) (fun _ _ _ h => h) (Or.inl ⟨by rfl, ?y10⟩) hS0 ?r10
        case y10 => (intro w' hSw; go_simp; try rfl)
        try simp only [Act.put, List.setIfInBounds_toArray, List.set_cons_zero, List.set_cons_succ]
        refine wpAnyH_done (by kernel_rfl) ?_ _
        go_wp2
        go_roundw
        case rel => exact ⟨n + 2, by go_num, by omega, HB9.out⟩
        case measure => simp [intOf]; omega
      · obtain ⟨x, hx⟩ : ∃ x : Int, x = (m : Int) - 1 := ⟨_, rfl⟩
        rw [← hx]
        have HX := Lib.hid hx
        have hxc : x < 1 ∨ 128 ≤ x := by omega
        have hx130 : x < 130 := by omega
        have hx0 : -1 ≤ x := by omega
        have hm131 : m ≤ 130 := by omega
        clear hx hin hlt hm
        go_wp2_with fail
        refine (node_out wr g H HTr.out x hxc).mono ?_
        rintro e w8 ⟨rfl, hb8⟩
        have hi := rowB_info zero32_length
        have h1 := rowB_one zero32
        have hs1 := rowB_size zero32
        have HE := HE0
        rw [zero32_length] at hs1
        generalize rowB zero32 = R at hi h1 hs1 HE ⊢
        have hN := Blk.new w8 39 (rowB (List.replicate 32 0))
        have hb9 : Below w8.heap.size w8 (w8.alloc (.cells (rowB (List.replicate 32 0)) 39)) := (Below.refl _ _).alloc (Nat.le_refl _) _
        have hZ : (rowB (List.replicate 32 0)).size = 32 := by rw [rowB_size, List.length_replicate]
        have hth : (w8.alloc (.cells (rowB (List.replicate 32 0)) 39)).there w8.heap.size 0 R.size := by rw [hs1, ← hZ]; exact hN.there
        have hgr := grown_setCells w8.heap.size R.toList 0 (w8.alloc (.cells (rowB (List.replicate 32 0)) 39))
        have HBE := Lib.hid (Below.only hb9 hgr (Nat.le_refl _) hb9.size)
        have HCELL := Lib.hid (hN.setRow (ds := R) (by rw [hs1, hZ]))
        clear hN hb9 hgr hZ
        go_upto_region 6 with (refine wpList_store_mid rfl 39 _ _ rfl w8.heap.size 0 R rfl rfl hth hi h1 ?_)
        change Code.wp _ _ _ _ ((w8.alloc (.cells (rowB (List.replicate 32 0)) 39)).setCells w8.heap.size 0 R.toList)
        generalize (w8.alloc (.cells (rowB (List.replicate 32 0)) 39)).setCells w8.heap.size 0 R.toList = w9 at HBE HCELL ⊢
        clear hth
        have HB9 := Lib.hid (HBr.out.trans ((hb8.trans (HBE.out.mono hb8.size)).mono HBr.out.size))
        have hc := HCELL.out
        clear HBE hb8 h1 hs1
        generalize w8.heap.size = gl at hc ⊢
        have e3 := HE.out
        rcases hxc with hxc | hxc
        · go_wp2_with (first | (go_at_call 17; refine (num_any _ _).mono ?_; rintro e w' ⟨rfl, rfl⟩) | (refine wpList_load_row rfl 39 _ rfl gl rfl 39 R (0, 0) _ hc Tryd.underlying39 rfl hi ?_))
          go_roundw
          case rel => exact ⟨m + 1, by have := HX.out; go_num, by omega, HB9.out⟩
          case measure => have := HX.out; simp [intOf]; omega
        · have hx1 : ¬ x < 1 := by omega
          have hx2 : (127 : Int) < x := by omega
          go_wp2_with (first | (go_at_call 17; refine (num_any _ _).mono ?_; rintro e w' ⟨rfl, rfl⟩) | (refine wpList_load_row rfl 39 _ rfl gl rfl 39 R (0, 0) _ hc Tryd.underlying39 rfl hi ?_))
          go_roundw
          case rel => exact ⟨m + 1, by have := HX.out; go_num, by omega, HB9.out⟩
          case measure => have := HX.out; simp [intOf]; omega
    · obtain rfl : m = 131 := by omega
      go_wp2_with fail
      refine (leaves_tree wr g H HTr.out).mono ?_
      rintro e w3 ⟨v3, rfl, ho3, hb3⟩
      rw [HLV.out] at ho3
      have HT3 := Lib.hid (HTr.out.past hb3).drew
      have HO3 := Lib.hid (show OwnH w3.drew wr.heap.size v3 L from ho3.drew)
      have HO3' := Lib.hid ho3
      have HB3 := Lib.hid (HBr.out.trans (hb3.mono HBr.out.size))
      have HB3d := Lib.hid (show Below w1.heap.size w1 w3.drew from HB3.out.drew)
      have HZ0 := Lib.hid (show wr.heap.size ≤ w3.drew.heap.size from hb3.size)
      have HS3 := Lib.hid (show Sh w3.drew (.slice A n0 c) L from (HS.out.below (HB.out.trans (HB3.out.mono HB.out.size))).drew)
      have h32 := HTr.out.len 1 (by decide)
      obtain ⟨hil, _, _, _⟩ := hc_facts h32
      have HEQ := Lib.hid (fun w => hash_self (H 1) h32 w)
      have hwr := HO1.out.node 1 (by decide)
      rw [HKH.out 1 (by decide) (by decide)] at hwr
      have HHC := Lib.hid (hcells_arr (H 1))
      rw [← hcells_arr] at HEQ
      generalize hCC : hcells (H 1) = C at hil HEQ hwr HHC
      have HC := Lib.hid hCC
      have HWR := Lib.hid (show w3.drew.rangeAt gw 32 C from fun j x hx => (HB3.out.drew.cell (World.block_lt_of_cell? w1 _ (hwr j x (by simpa using hx)))).trans (by simpa using hwr j x hx))
      obtain ⟨A3, n3, c3, rfl⟩ := ho3.sh.shape
      have hn3 : n3 = 64 := by rw [ho3.sh.len, Hl.out]
      subst hn3
      clear hCC ho3 hb3 hwr h32
      go_wp2_with fail
      refine wp_region_held_drew (S := fun X => World.grownBy w3.drew X none) hfo (grown_refl _ _) (fun hS0 => ?_)
      generalize w3.drew = Z0 at *
      refine' wpAnyH_take (i := 0) (oi := ⟨some 50, _, _, _, _, _⟩) (v := _) rfl (by kernel_rfl) (by kernel_rfl) (by kernel_rfl) (fun _ _ _ h => h) (Or.inl ⟨by rfl, ?y0K⟩) hS0 ?r0K
      case y0K => (intro w' hSw; go_simp; try rfl)
      try simp only [Act.put, List.setIfInBounds_toArray, List.set_cons_zero, List.set_cons_succ]
      refine' wpAnyH_take (i := 1) (oi := ⟨some 51, _, _, _, _, _⟩) (v := _) rfl (by kernel_rfl) (by kernel_rfl) (by kernel_rfl) (fun _ _ _ h => h) (Or.inl ⟨by rfl, ?y1K⟩) hS0 ?r1K
      case y1K => (intro w' hSw; go_simp; try rfl)
      try simp only [Act.put, List.setIfInBounds_toArray, List.set_cons_zero, List.set_cons_succ]
      refine held_one (i := 2) (by kernel_rfl) rfl (fun KK hK => ?_)
      go_simp
      refine (refSame_any _ _ L L Z0 HO3.out.sh HS3.out (by rw [Hl.out]; decide) (by rw [Hl.out]; decide)).mono ?_
      rintro e Z1 ⟨rfl, hb1⟩
      rw [decide_eq_true (rfl : L = L)]
      have hS1 := hS0.trans (grown_of_below hb1 none)
      refine hK.out _ _ hS1 (fun _ => ?_)
      clear hK KK
      try simp only [Act.put, List.setIfInBounds_toArray, List.set_cons_zero, List.set_cons_succ]
      have HB1 := Lib.hid hb1
      clear hb1
      refine' wpAnyH_take (i := 3) (oi := ⟨some 53, _, _, _, _, _⟩) (v := _) rfl (by kernel_rfl) (by kernel_rfl) (by kernel_rfl) (fun _ _ _ h => h) (Or.inl ⟨by rfl, ?y3K⟩) hS1 ?r3K
      case y3K => (intro w' hSw; go_simp; try rfl)
      try simp only [Act.put, List.setIfInBounds_toArray, List.set_cons_zero, List.set_cons_succ]
      refine' wpAnyH_take (i := 4) (oi := ⟨some 54, _, _, _, _, _⟩) (v := _) rfl (by kernel_rfl) (by kernel_rfl) (by kernel_rfl) (fun _ _ _ h => h) (Or.inl ⟨by rfl, ?y4K⟩) hS1 ?r4K
      case y4K => (intro w' hSw; go_simp; try rfl)
      try simp only [Act.put, List.setIfInBounds_toArray, List.set_cons_zero, List.set_cons_succ]
      refine' wpAnyH_take (i := 5) (oi := ⟨some 55, _, _, _, _, _⟩) (v := _) rfl (by kernel_rfl) (by kernel_rfl) (by kernel_rfl) (fun _ _ _ h => h) (Or.inl ⟨by rfl, ?y5K⟩) hS1 ?r5K
      case y5K => (intro w' hSw; go_simp; try rfl)
      try simp only [Act.put, List.setIfInBounds_toArray, List.set_cons_zero, List.set_cons_succ]
      refine' wpAnyH_take (i := 7) (oi := ⟨some 57, _, _, _, _, _⟩) (v := _) rfl (by kernel_rfl) (by kernel_rfl) (by kernel_rfl) (fun _ _ _ h => h) (Or.inl ⟨by rfl, ?y7K⟩) hS1 ?r7K
      case y7K => (intro w' hSw; go_simp; try rfl)
      try simp only [Act.put, List.setIfInBounds_toArray, List.set_cons_zero, List.set_cons_succ]
      refine' wpAnyH_take (i := 8) (oi := ⟨some 58, _, _, _, _, _⟩) (v := _) rfl (by kernel_rfl) (by kernel_rfl) (by kernel_rfl) (fun _ _ _ h => h) (Or.inl ⟨by rfl, ?y8K⟩) hS1 ?r8K
      case y8K => (intro w' hSw; go_simp; try rfl)
      try simp only [Act.put, List.setIfInBounds_toArray, List.set_cons_zero, List.set_cons_succ]
      refine' wpAnyH_take (i := 9) (oi := ⟨some 59, _, _, _, _, _⟩) (v := .agg C.toArray) rfl (by kernel_rfl) (by kernel_rfl) (by kernel_rfl) (fun _ _ _ h => h) (yieldsIf_load_mid (by rfl) 39 _ rfl gw (32) rfl C _ (fun X hX => fun j v hv => hX.cell (HWR.out j v hv) (by simp)) Tryd.underlying39 rfl hil) hS1 ?r9K
      try simp only [Act.put, List.setIfInBounds_toArray, List.set_cons_zero, List.set_cons_succ]
      refine held_one (i := 6) (by kernel_rfl) rfl (fun KK hK => ?_)
      go_simp
      refine (root_tree Z1 g H (HT3.out.past HB1.out)).mono ?_
      rintro e Z2 ⟨rfl, hb2⟩
      rw [← hcells_arr, HC.out]
      have hS2 := hS1.trans (grown_of_below hb2 none)
      refine hK.out _ _ hS2 (fun _ => ?_)
      clear hK KK
      try simp only [Act.put, List.setIfInBounds_toArray, List.set_cons_zero, List.set_cons_succ]
      have HB2 := Lib.hid (HB1.out.trans (hb2.mono HB1.out.size))
      clear hb2
      refine' wpAnyH_take (i := 10) (oi := ⟨some 60, _, _, _, _, _⟩) (v := _) rfl (by kernel_rfl) (by kernel_rfl) (by kernel_rfl) (fun _ _ _ h => h) (Or.inl ⟨by rfl, ?y10K⟩) hS2 ?r10K
      case y10K => (intro w' hSw; have e3 := HEQ.out; go_simp; try rfl)
      try simp only [Act.put, List.setIfInBounds_toArray, List.set_cons_zero, List.set_cons_succ]
      refine' wpAnyH_take (i := 11) (oi := ⟨some 61, _, _, _, _, _⟩) (v := _) rfl (by kernel_rfl) (by kernel_rfl) (by kernel_rfl) (fun _ _ _ h => h) (Or.inl ⟨by rfl, ?y11K⟩) hS2 ?r11K
      case y11K => (intro w' hSw; have e3 := HEQ.out; go_simp; try rfl)
      try simp only [Act.put, List.setIfInBounds_toArray, List.set_cons_zero, List.set_cons_succ]
      refine wpAnyH_done (by kernel_rfl) ?_ _
      have HTK := Lib.hid (HT3.out.past HB2.out)
      have HOK := Lib.hid (show OwnH Z2 wr.heap.size (.slice A3 64 c3) L from HO3.out.below HB2.out)
      have HSK := Lib.hid (HS3.out.below HB2.out)
      have HBK := Lib.hid (HB.out.trans ((HB3d.out.trans (HB2.out.mono HB3d.out.size)).mono HB.out.size))
      have HZ2 := Lib.hid (show wr.heap.size ≤ Z2.heap.size from Nat.le_trans HZ0.out HB2.out.size)
      have HLT := Lib.hid (show w.heap.size ≤ wr.heap.size from Nat.le_trans HB.out.size HBr.out.size)
      have hglt := HT.out.lt
      have HGLT := Lib.hid (show g < wr.heap.size from HTr.out.lt)
      have HSL := Lib.hid (show ∀ k, (Value.slice A n0 c).ownBlock = some k → k < w.heap.size ∨ L.length = 0 from fun k hk => by
        rcases Nat.eq_zero_or_pos L.length with h | h
        · exact .inr h
        · obtain ⟨b, o, e, hr⟩ := HS.out.at_ 0 h
          subst e
          injection hk with hk
          subst hk
          exact .inl (World.block_lt_of_cell? w _ (hr 0 _ (List.getElem?_eq_getElem (by rw [hcells_length, HS.out.all _ (List.getElem_mem h)]; decide)))))
      clear HB1 HB2 hS0 hS1 hS2 HO3 HS3 HT3 HO3' HWR HEQ HHC HC hil hglt
      obtain ⟨g3, rfl, hx64, hg3, _, _⟩ := HOK.out.block (by rw [Hl.out]; decide)
      clear hx64
      have HG3 := Lib.hid hg3
      clear hg3
      go_wp2
      go_loopw [10] (fun z wq => ∃ (i : Nat) (M : List (List UInt8)), z = .int .i64 (i : Int) ∧ i ≤ 64 ∧ M.length = 64 ∧ OwnH wq wr.heap.size (.slice (some ⟨g3, 0, none⟩) 64 c3) M ∧ Below wr.heap.size Z2 wq) (fun z _ => 64 - (intOf z).toNat)
      case atStart => exact ⟨0, L, rfl, by decide, Hl.out, HOK.out, Below.refl _ _⟩
      case round =>
        obtain ⟨i, M, rfl, hi64, hM, ho, hb⟩ := hrel
        have HO := Lib.hid ho
        have HBq := Lib.hid hb
        have HMl := Lib.hid hM
        clear ho hb hM
        by_cases hlt : i < 64
        · have hi1 := rowB_info zero32_length
          have h11 := rowB_one zero32
          have hs1 := rowB_size zero32
          rw [zero32_length] at hs1
          obtain ⟨g4, hg4, hx64, _, _, hth⟩ := HO.out.block (by rw [HMl.out]; decide)
          clear hx64
          injection hg4 with hg4
          injection hg4 with hg4 _ _
          subst hg4
          have hthi : wr.there g3 (i * 32) (rowB zero32).size := by rw [hs1]; exact hth i (by rw [HMl.out]; exact hlt)
          have HSET := Lib.hid (HO.out.set rfl i (by rw [HMl.out]; exact hlt) zero32_length)
          rw [← rowB_list] at HSET
          have HML2 := Lib.hid (show (M.set i zero32).length = 64 by rw [List.length_set]; exact HMl.out)
          generalize hMM : M.set i zero32 = M2 at HSET HML2
          clear hMM
          have HZZ := Lib.hid (show rowB zero32 = #[.int .u8 0, .int .u8 0, .int .u8 0, .int .u8 0, .int .u8 0, .int .u8 0, .int .u8 0, .int .u8 0, .int .u8 0, .int .u8 0, .int .u8 0, .int .u8 0, .int .u8 0, .int .u8 0, .int .u8 0, .int .u8 0, .int .u8 0, .int .u8 0, .int .u8 0, .int .u8 0, .int .u8 0, .int .u8 0, .int .u8 0, .int .u8 0, .int .u8 0, .int .u8 0, .int .u8 0, .int .u8 0, .int .u8 0, .int .u8 0, .int .u8 0, .int .u8 0] from rfl)
          generalize rowB zero32 = R at hi1 h11 hs1 hthi HSET HZZ
          have HBS := Lib.hid (Below.only HBq.out (grown_setCells g3 R.toList (i * 32) wr) HG3.out (Nat.le_trans HZ2.out HBq.out.size))
          clear hth hs1
          have hi64' : (i : Int) < 64 := by omega
          go_wp2_with (refine wpList_store_mid rfl 39 _ _ rfl g3 (i * 32) R rfl (by rw [HZZ.out]; rfl) hthi hi1 h11 ?_)
          go_roundw
          case rel => exact ⟨i + 1, M2, by go_num, by omega, HML2.out, HSET.out, HBS.out⟩
          case measure => simp [intOf]; omega
        · obtain rfl : i = 64 := by omega
          have HTQ := Lib.hid (HTK.out.below HBq.out HGLT.out)
          go_wp2_with fail
          refine (leaves_tree wr g H HTQ.out).mono ?_
          rintro e w5 ⟨v5, rfl, ho5, hb5⟩
          rw [HLV.out] at ho5
          have HBF := Lib.hid (HBK.out.trans ((HBq.out.mono HLT.out).mono (Nat.le_refl _)))
          have HSF := Lib.hid (HS.out.below ((HBF.out.trans (hb5.mono HBF.out.size))))
          have HO5 := Lib.hid ho5
          have HB5 := Lib.hid (HBF.out.trans (hb5.mono HBF.out.size))
          obtain ⟨A5, n5, c5, rfl⟩ := ho5.sh.shape
          clear ho5 hb5
          go_wp2_with fail
          refine (refSame_any _ _ L L w5 HO5.out.sh HSF.out (by rw [Hl.out]; decide) (by rw [Hl.out]; decide)).mono ?_
          rintro e w6 ⟨rfl, hb6⟩
          rw [decide_eq_true (rfl : L = L)]
          have HB6 := Lib.hid (HB5.out.trans (hb6.mono HB5.out.size))
          clear hb6
          go_wp2
          go_ret
          exact ⟨rfl, HB6.out⟩
end Go.Proofs.YtdbhffkfkklehaaDoor

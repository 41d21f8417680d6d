/-
  The walks of merkle.Leaf and of the document's Leaf.
-/
import Derived.Test.YtdbhffkfkklehaaDoorMkMemA
import Derived.Test.YtdbhffkfkklehaaDoorShaSumW
import Derived.Test.YtdbhffkfkklehaaDoorShaRefSum
namespace Go.Proofs.YtdbhffkfkklehaaDoor
open Go.RowKit
set_option linter.unusedVariables false
set_option linter.unusedSimpArgs false

def zero32 : List UInt8 := List.replicate 32 0
theorem zero32_length : zero32.length = 32 := rfl
theorem shaN_len32 (b : List UInt8) : (shaN b).length = 32 := St.bytes_length _
theorem wpList_build_to {P : Program} {ops : Array Oper} {rest : List Oper} {o : Oper} {a : Act} {w : World} {Q : Exit → Act → World → Prop} (hgd : o.guard = none) (t : TypeId) (parts : Array (Nat × Operand)) (ho : o.op = .build t parts)
    (cells : Array Value) (hc : P.built t (parts.map fun (i, x) => (i, a.eval x)).toList = some cells) (h : wpList P ops Q rest (a.put o.dst (.agg cells)) w) : wpList P ops Q (o :: rest) a w :=
  wpList_plain hgd fun _ hK => wp_build t parts ho (by rw [hc]; rfl) (by rw [hc]; exact hK _ _ h)
/-- A zero hash, built. -/
theorem build32 : Tryd.prog.built 39 [] = some (rowB zero32) := by kernel_rfl
theorem Build32 : Hid (Tryd.prog.built 39 [] = some (rowB zero32)) := Lib.hid build32

set_option maxHeartbeats 800000 in
theorem leaf_any (b : Nat) (hb : b < 64) (v : Value) (l : List UInt8) (w : World) (hs : Sl w v l) (hl : l.length ≤ 900000) (hg : Gl w) :
    Calls Tryd.prog 26 #[.int .i64 (b : Int), v] w fun e w' => e = .returned (.tuple #[.agg (rowB (leafN b l)), .int .i64 0]) ∧ Below w.heap.size w w' := by
  have hB := Blk.new w 39 (rowB (List.replicate 32 0))
  have hbw : Below w.heap.size w (w.alloc (.cells (rowB (List.replicate 32 0)) 39)) := (Below.refl _ _).alloc (Nat.le_refl _) _
  have hZ : (rowB (List.replicate 32 0)).size = 32 := by rw [rowB_size, List.length_replicate]
  have hs0 := hs.below hbw
  have hg0 := hg.below hbw
  obtain ⟨A, n, c, rfl⟩ := hs.shape
  go_enter Tryd.func26, Tryd.ntmps26
  go_upto_region 1 with (fail)
  change Code.wp _ _ _ _ (w.alloc (.cells (rowB (List.replicate 32 0)) 39))
  generalize w.alloc (.cells (rowB (List.replicate 32 0)) 39) = W0 at hB hbw hs0 hg0 ⊢
  generalize rowB (List.replicate 32 0) = Z at hB hZ
  have Hu := Lib.hid (show (b : Int) = (((UInt8.ofNat b).toNat : Nat) : Int) by simp; omega)
  have hsz := hbw.size
  have EL := Lib.hid (show leafN b l = shaN ([[0, UInt8.ofNat b], l].flatten) by simp [leafN])
  have hll := shaN_len32 ([[0, UInt8.ofNat b], l].flatten)
  have hfl : ([[0, UInt8.ofNat b], l].flatten).length ≤ 1000000 := by simp; omega
  go_wp2_with fail
  have hls := Sls.two (W0.alloc (.cells #[.int .u8 0, .int .u8 (b : Int)] 5)) 45 _ _ [0, UInt8.ofNat b] l (Sl.pair W0 5 0 (b : Int) 0 (UInt8.ofNat b) rfl Hu.out) (hs0.alloc _)
  rw [show (W0.alloc (.cells #[.int .u8 0, .int .u8 (b : Int)] 5)).heap.size = W0.heap.size + 1 by simp] at hls
  refine (sum_any _ _ _ hls hfl (by simp) ((hg0.alloc _).alloc _)).mono ?_
  rintro e w1 ⟨rfl, hb1⟩
  have hB1 := ((hB.alloc (.cells #[.int .u8 0, .int .u8 (b : Int)] 5)).alloc (.cells #[.slice (some ⟨W0.heap.size, 0, none⟩) 2 2, .slice A n c] 45))
  have hB2 := hB1.below hb1 hB1.lt
  have hb2 : Below w.heap.size w w1 := ((hbw.alloc hsz _).alloc (by simp; omega) _).trans (hb1.mono (by simp; omega))
  have hi := rowB_info hll
  have h1 := rowB_one (shaN ([[0, UInt8.ofNat b], l].flatten))
  have hs1 := rowB_size (shaN ([[0, UInt8.ofNat b], l].flatten))
  rw [hll] at hs1
  clear hls hb1 hB1 hB hll hfl Hu
  generalize hT : rowB (shaN ([[0, UInt8.ofNat b], l].flatten)) = T at hi h1 hs1 ⊢
  have ET := Lib.hid hT
  clear hT
  have hth : w1.there w.heap.size 0 T.size := by rw [hs1, ← hZ]; exact hB2.there
  go_wp2_with (refine wpList_store_mid rfl 39 _ _ rfl w.heap.size 0 T rfl rfl hth hi h1 ?_)
  have hE : Blk (w1.setCells w.heap.size 0 T.toList) w.heap.size 39 T := hB2.setRow (by rw [hs1, hZ])
  have hbE := Below.only hb2 (grown_setCells w.heap.size T.toList 0 w1) (Nat.le_refl _) hb2.size
  exact bodyPost_ret (v := .tuple #[.agg T, .int .i64 0]) (results_row_and rfl _ _ w.heap.size 39 T (0, 0) _ _ rfl rfl hE Tryd.underlying39 rfl hi) rfl ⟨by rw [EL.out, ET.out], hbE⟩
theorem leaf_no (b : Int) (hb : b < 0 ∨ 64 ≤ b) (v : Value) (w : World) (hsh : ∃ A n c, v = .slice A n c) :
    Calls Tryd.prog 26 #[.int .i64 b, v] w fun e w' => e = .returned (.tuple #[.agg (rowB zero32), .int .i64 2]) ∧ Below w.heap.size w w' := by
  have hB := Blk.new w 39 (rowB (List.replicate 32 0))
  have hbw : Below w.heap.size w (w.alloc (.cells (rowB (List.replicate 32 0)) 39)) := (Below.refl _ _).alloc (Nat.le_refl _) _
  have hi := rowB_info zero32_length
  have h1 := rowB_one zero32
  have hs1 := rowB_size zero32
  rw [zero32_length] at hs1
  obtain ⟨A, n, c, rfl⟩ := hsh
  go_enter Tryd.func26, Tryd.ntmps26
  go_upto_region 1 with (fail)
  change Code.wp _ _ _ _ (w.alloc (.cells (rowB (List.replicate 32 0)) 39))
  generalize w.alloc (.cells (rowB (List.replicate 32 0)) 39) = W0 at hB hbw ⊢
  change Blk W0 w.heap.size _ (rowB zero32) at hB
  generalize hZZ : rowB zero32 = Z at hB hi h1 hs1
  have EZ := Lib.hid hZZ
  clear hZZ
  have hth : W0.there w.heap.size 0 Z.size := hB.there
  have hE : Blk (W0.setCells w.heap.size 0 Z.toList) w.heap.size 39 Z := hB.setRow rfl
  have hbE := Below.only hbw (grown_setCells w.heap.size Z.toList 0 W0) (Nat.le_refl _) hbw.size
  rcases hb with hb | hb
  · go_wp2_with (refine wpList_store_mid rfl 39 _ _ rfl w.heap.size 0 Z rfl (by rw [← EZ.out]; rfl) hth hi h1 ?_)
    exact bodyPost_ret (v := .tuple #[.agg Z, .int .i64 2]) (results_row_and rfl _ _ w.heap.size 39 Z (0, 0) _ _ rfl rfl hE Tryd.underlying39 rfl hi) rfl ⟨by rw [EZ.out], hbE⟩
  · have hb' : ¬ b < 0 := by omega
    go_wp2_with (refine wpList_store_mid rfl 39 _ _ rfl w.heap.size 0 Z rfl (by rw [← EZ.out]; rfl) hth hi h1 ?_)
    exact bodyPost_ret (v := .tuple #[.agg Z, .int .i64 2]) (results_row_and rfl _ _ w.heap.size 39 Z (0, 0) _ _ rfl rfl hE Tryd.underlying39 rfl hi) rfl ⟨by rw [EZ.out], hbE⟩

set_option maxHeartbeats 800000 in
theorem refLeaf_any (b : Nat) (hb : b < 64) (v : Value) (l : List UInt8) (w : World) (hs : Sl w v l) (hl : l.length ≤ 900000) :
    Calls Tryd.prog 27 #[.int .i64 (b : Int), v] w fun e w' => e = .returned (.agg (rowB (leafN b l))) ∧ Below w.heap.size w w' := by
  have hB := Blk.new w 39 (rowB (List.replicate 32 0))
  have hbw : Below w.heap.size w (w.alloc (.cells (rowB (List.replicate 32 0)) 39)) := (Below.refl _ _).alloc (Nat.le_refl _) _
  have hZ : (rowB (List.replicate 32 0)).size = 32 := by rw [rowB_size, List.length_replicate]
  have hs0 := hs.below hbw
  obtain ⟨i0, hi0, hz0, hz1, hz2⟩ := info_parts info_u8
  obtain ⟨A, n, c, rfl⟩ := hs.shape
  go_enter Tryd.func27, Tryd.ntmps27
  go_upto_region 1 with (fail)
  change Code.wp _ _ _ _ (w.alloc (.cells (rowB (List.replicate 32 0)) 39))
  generalize w.alloc (.cells (rowB (List.replicate 32 0)) 39) = W0 at hB hbw hs0 ⊢
  generalize rowB (List.replicate 32 0) = Z at hB hZ
  have Hu := Lib.hid (show (b : Int) = (((UInt8.ofNat b).toNat : Nat) : Int) by simp; omega)
  have hsz := hbw.size
  have EL := Lib.hid (show leafN b l = shaN (0 :: UInt8.ofNat b :: l) from rfl)
  have hll := shaN_len32 (0 :: UInt8.ofNat b :: l)
  have hfl : (0 :: UInt8.ofNat b :: l).length ≤ 1000000 := by simp; omega
  have ho : Own (W0.alloc (.cells #[.int .u8 0, .int .u8 (b : Int)] 5)) W0.heap.size 5 (.slice (some ⟨W0.heap.size, 0, none⟩) 2 2) [0, UInt8.ofNat b] :=
    Own.of_new W0 W0.heap.size 5 _ [0, UInt8.ofNat b] 2 (Nat.le_refl _) (by simp only [bv, List.map_cons, List.map_nil]; rw [← Hu.out]; rfl) rfl (by simp)
  have hl2 : [0, UInt8.ofNat b].length + l.length ≤ 1000000000 := by simp; omega
  have hB1 := hB.alloc (.cells #[.int .u8 0, .int .u8 (b : Int)] 5)
  have hb1 : Below w.heap.size w (W0.alloc (.cells #[.int .u8 0, .int .u8 (b : Int)] 5)) := hbw.alloc hsz _
  go_wp2_with (at_builtin; refine wpList_append_bytes _ rfl _ _ 45 rfl W0.heap.size 5 i0 Tryd.underlying45 hi0 hz0 hz1 hz2 _ [0, UInt8.ofNat b] rfl ho _ l rfl (hs0.alloc _) hl2 (by simp) ?_)
  intro v2 w2 ho2 hb2
  replace hB := hB1.below hb2 (by have := hB.lt; omega)
  replace hb1 := hb1.trans (hb2.mono hsz)
  generalize 0 :: UInt8.ofNat b :: l = m at EL hll hfl ho2
  clear ho hB1 Hu hb2
  have hs2 := ho2.sl
  obtain ⟨A2, n2, c2, rfl⟩ := hs2.shape
  clear ho2
  go_wp2_with fail
  refine (refSum_any _ m _ hs2 hfl).mono ?_
  rintro e w3 ⟨rfl, hb3⟩
  replace hB := hB.below hb3 hB.lt
  replace hb1 := hb1.trans (hb3.mono hb1.size)
  have hi := rowB_info hll
  have h1 := rowB_one (shaN m)
  have hs1 := rowB_size (shaN m)
  rw [hll] at hs1
  clear hb3 hs2
  generalize hT : rowB (shaN m) = T at hi h1 hs1 ⊢
  have ET := Lib.hid hT
  clear hT
  have hth : w3.there w.heap.size 0 T.size := by rw [hs1, ← hZ]; exact hB.there
  go_wp2_with (refine wpList_store_mid rfl 39 _ _ rfl w.heap.size 0 T rfl rfl hth hi h1 ?_)
  have hE : Blk (w3.setCells w.heap.size 0 T.toList) w.heap.size 39 T := hB.setRow (by rw [hs1, hZ])
  have hbE := Below.only hb1 (grown_setCells w.heap.size T.toList 0 w3) (Nat.le_refl _) hb1.size
  exact bodyPost_ret (v := .agg T) (results_cell_row rfl _ _ w.heap.size 39 T (0, 0) _ rfl hE Tryd.underlying39 rfl hi) rfl ⟨by rw [EL.out, ET.out], hbE⟩
end Go.Proofs.YtdbhffkfkklehaaDoor

/-
  The walk of a tree's sum: a node is made anew.
-/
namespace Go.Proofs.YtdbhffkfkklehaaDoor
open Go.RowKit
set_option linter.unusedVariables false
set_option linter.unusedSimpArgs false
set_option maxRecDepth 100000

theorem grown_drew (w : World) (r : Option Nat) : w.grownBy w.drew r := ⟨rfl, rfl, rfl, Nat.le_refl _, fun _ _ _ => rfl⟩

set_option maxHeartbeats 1600000 in
theorem sum_tree (w : World) (g n : Nat) (H : Nat → List UInt8) (h : Tr w g H) (h1 : 1 ≤ n) (h64 : n < 64) (hg : Gl w) :
    Calls Tryd.prog 31 #[.pointer (some ⟨g, 0, none⟩), .int .i64 (n : Int)] w fun e w' => e = .returned (.tuple #[]) ∧ Tr w' g (anew H n) ∧ w.grownBy w' (some g) := by
  have hfo : Tryd.prog.follows .mixedOrders = true := by kernel_rfl
  have HT := Lib.hid h.drew
  have HG := Lib.hid hg.drew
  have HD := Lib.hid (grown_drew w (some g))
  have HE := Lib.hid (show anew H n = upd H n (shaN ([[1], H (2 * n), H (2 * n + 1)].flatten)) by simp [anew, nodeN])
  have HL := Lib.hid (shaN_len32 ([[1], H (2 * n), H (2 * n + 1)].flatten))
  have HF := Lib.hid (show ([[1], H (2 * n), H (2 * n + 1)].flatten).length ≤ 1000000 by simp; rw [h.len _ (by omega), h.len _ (by omega)]; decide)
  clear hg h
  obtain ⟨a, ha⟩ : ∃ a, a = 2 * n := ⟨_, rfl⟩
  obtain ⟨b, hb⟩ : ∃ b, b = 2 * n + 1 := ⟨_, rfl⟩
  have E2 := Lib.hid (show IntKind.i64.wrap (2 * (n : Int)) = (a : Int) by rw [IntKind.wrap_i64]; omega)
  have E3 := Lib.hid (show IntKind.i64.wrap ((a : Int) + 1) = (b : Int) by rw [IntKind.wrap_i64]; omega)
  have BA := Lib.hid (show (a : Int) < 128 by omega)
  have BB := Lib.hid (show (b : Int) < 128 by omega)
  have BN := Lib.hid (show (n : Int) < 128 by omega)
  have ha128 : a < 128 := by omega
  have hb128 : b < 128 := by omega
  rw [← hb, ← ha] at HE HL HF
  clear ha hb
  go_enter Tryd.func31, Tryd.ntmps31
  refine wp_region_held_drew (S := fun X => World.grownBy w.drew X (some g)) hfo (grown_refl _ _) (fun hS0 => ?_)
  generalize w.drew = Z0 at *
  refine' wpAnyH_take (i := 0) (oi := ⟨some 4, _, _, _, _, _⟩) (v := _) rfl (by kernel_rfl) (by kernel_rfl) (by kernel_rfl) (fun _ _ _ h => h) (Or.inl ⟨by rfl, ?y0⟩) hS0 ?r0
  case y0 => (intro w' hSw; go_simp; try rfl)
  try simp only [Act.put, List.setIfInBounds_toArray, List.set_cons_zero, List.set_cons_succ]
  refine' wpAnyH_take (i := 1) (oi := ⟨some 5, _, _, _, _, _⟩) (v := _) rfl (by kernel_rfl) (by kernel_rfl) (by kernel_rfl) (fun _ _ _ h => h) (Or.inl ⟨by rfl, ?y1⟩) hS0 ?r1
  case y1 => (intro w' hSw; go_simp; try rfl)
  try simp only [Act.put, List.setIfInBounds_toArray, List.set_cons_zero, List.set_cons_succ]
  refine' wpAnyH_take (i := 3) (oi := ⟨some 7, _, _, _, _, _⟩) (v := _) rfl (by kernel_rfl) (by kernel_rfl) (by kernel_rfl) (fun _ _ _ h => h) (Or.inl ⟨by rfl, ?y3⟩) hS0 ?r3
  case y3 => (intro w' hSw; go_simp; try rfl)
  try simp only [Act.put, List.setIfInBounds_toArray, List.set_cons_zero, List.set_cons_succ]
  refine' wpAnyH_take (i := 4) (oi := ⟨some 8, _, _, _, _, _⟩) (v := _) rfl (by kernel_rfl) (by kernel_rfl) (by kernel_rfl) (fun _ _ _ h => h) (Or.inl ⟨by rfl, ?y4⟩) hS0 ?r4
  case y4 => (intro w' hSw; go_simp; try rfl)
  try simp only [Act.put, List.setIfInBounds_toArray, List.set_cons_zero, List.set_cons_succ]
  refine' wpAnyH_take (i := 5) (oi := ⟨some 9, _, _, _, _, _⟩) (v := _) rfl (by kernel_rfl) (by kernel_rfl) (by kernel_rfl) (fun _ _ _ h => h) (Or.inl ⟨by rfl, ?y5⟩) hS0 ?r5
  case y5 => (intro w' hSw; go_simp; rw [E2.out]; try rfl)
  try simp only [Act.put, List.setIfInBounds_toArray, List.set_cons_zero, List.set_cons_succ]
  refine' wpAnyH_take (i := 6) (oi := ⟨some 10, _, _, _, _, _⟩) (v := _) rfl (by kernel_rfl) (by kernel_rfl) (by kernel_rfl) (fun _ _ _ h => h) (Or.inl ⟨by rfl, ?y6⟩) hS0 ?r6
  case y6 => (intro w' hSw; go_simp; try rfl)
  try simp only [Act.put, List.setIfInBounds_toArray, List.set_cons_zero, List.set_cons_succ]
  refine' wpAnyH_take (i := 7) (oi := ⟨some 11, _, _, _, _, _⟩) (v := _) rfl (by kernel_rfl) (by kernel_rfl) (by kernel_rfl) (fun _ _ _ h => h) (Or.inl ⟨by rfl, ?y7⟩) hS0 ?r7
  case y7 => (intro w' hSw; go_simp; try rfl)
  try simp only [Act.put, List.setIfInBounds_toArray, List.set_cons_zero, List.set_cons_succ]
  refine' wpAnyH_take (i := 8) (oi := ⟨some 12, _, _, _, _, _⟩) (v := _) rfl (by kernel_rfl) (by kernel_rfl) (by kernel_rfl) (fun _ _ _ h => h) (Or.inl ⟨by rfl, ?y8⟩) hS0 ?r8
  case y8 => (intro w' hSw; go_simp; rw [if_pos BA.out]; try rfl)
  try simp only [Act.put, List.setIfInBounds_toArray, List.set_cons_zero, List.set_cons_succ]
  refine' wpAnyH_take (i := 9) (oi := ⟨some 13, _, _, _, _, _⟩) (v := _) rfl (by kernel_rfl) (by kernel_rfl) (by kernel_rfl) (fun _ _ _ h => h) (Or.inl ⟨by rfl, ?y9⟩) hS0 ?r9
  case y9 => (intro w' hSw; go_simp; try rfl)
  try simp only [Act.put, List.setIfInBounds_toArray, List.set_cons_zero, List.set_cons_succ]
  refine' wpAnyH_take (i := 10) (oi := ⟨some 14, _, _, _, _, _⟩) (v := _) rfl (by kernel_rfl) (by kernel_rfl) (by kernel_rfl) (fun _ _ _ h => h) (Or.inl ⟨by rfl, ?y10⟩) hS0 ?r10
  case y10 => (intro w' hSw; go_simp; try rfl)
  try simp only [Act.put, List.setIfInBounds_toArray, List.set_cons_zero, List.set_cons_succ]
  refine' wpAnyH_take (i := 11) (oi := ⟨some 15, _, _, _, _, _⟩) (v := _) rfl (by kernel_rfl) (by kernel_rfl) (by kernel_rfl) (fun _ _ _ h => h) (Or.inl ⟨by rfl, ?y11⟩) hS0 ?r11
  case y11 => (intro w' hSw; go_simp; try rfl)
  try simp only [Act.put, List.setIfInBounds_toArray, List.set_cons_zero, List.set_cons_succ]
  refine' wpAnyH_take (i := 12) (oi := ⟨some 16, _, _, _, _, _⟩) (v := _) rfl (by kernel_rfl) (by kernel_rfl) (by kernel_rfl) (fun _ _ _ h => h) (Or.inl ⟨by rfl, ?y12⟩) hS0 ?r12
  case y12 => (intro w' hSw; go_simp; rw [E2.out]; try rfl)
  try simp only [Act.put, List.setIfInBounds_toArray, List.set_cons_zero, List.set_cons_succ]
  refine' wpAnyH_take (i := 13) (oi := ⟨some 17, _, _, _, _, _⟩) (v := _) rfl (by kernel_rfl) (by kernel_rfl) (by kernel_rfl) (fun _ _ _ h => h) (Or.inl ⟨by rfl, ?y13⟩) hS0 ?r13
  case y13 => (intro w' hSw; go_simp; rw [E3.out]; try rfl)
  try simp only [Act.put, List.setIfInBounds_toArray, List.set_cons_zero, List.set_cons_succ]
  refine' wpAnyH_take (i := 14) (oi := ⟨some 18, _, _, _, _, _⟩) (v := _) rfl (by kernel_rfl) (by kernel_rfl) (by kernel_rfl) (fun _ _ _ h => h) (Or.inl ⟨by rfl, ?y14⟩) hS0 ?r14
  case y14 => (intro w' hSw; go_simp; try rfl)
  try simp only [Act.put, List.setIfInBounds_toArray, List.set_cons_zero, List.set_cons_succ]
  refine' wpAnyH_take (i := 15) (oi := ⟨some 19, _, _, _, _, _⟩) (v := _) rfl (by kernel_rfl) (by kernel_rfl) (by kernel_rfl) (fun _ _ _ h => h) (Or.inl ⟨by rfl, ?y15⟩) hS0 ?r15
  case y15 => (intro w' hSw; go_simp; try rfl)
  try simp only [Act.put, List.setIfInBounds_toArray, List.set_cons_zero, List.set_cons_succ]
  refine' wpAnyH_take (i := 16) (oi := ⟨some 20, _, _, _, _, _⟩) (v := _) rfl (by kernel_rfl) (by kernel_rfl) (by kernel_rfl) (fun _ _ _ h => h) (Or.inl ⟨by rfl, ?y16⟩) hS0 ?r16
  case y16 => (intro w' hSw; go_simp; rw [if_pos BB.out]; try rfl)
  try simp only [Act.put, List.setIfInBounds_toArray, List.set_cons_zero, List.set_cons_succ]
  refine' wpAnyH_take (i := 17) (oi := ⟨some 21, _, _, _, _, _⟩) (v := _) rfl (by kernel_rfl) (by kernel_rfl) (by kernel_rfl) (fun _ _ _ h => h) (Or.inl ⟨by rfl, ?y17⟩) hS0 ?r17
  case y17 => (intro w' hSw; go_simp; try rfl)
  try simp only [Act.put, List.setIfInBounds_toArray, List.set_cons_zero, List.set_cons_succ]
  refine' wpAnyH_take (i := 20) (oi := ⟨some 24, _, _, _, _, _⟩) (v := _) rfl (by kernel_rfl) (by kernel_rfl) (by kernel_rfl) (fun _ _ _ h => h) (Or.inl ⟨by rfl, ?y20⟩) hS0 ?r20
  case y20 => (intro w' hSw; go_simp; try rfl)
  try simp only [Act.put, List.setIfInBounds_toArray, List.set_cons_zero, List.set_cons_succ]
  refine' wpAnyH_take (i := 21) (oi := ⟨some 25, _, _, _, _, _⟩) (v := _) rfl (by kernel_rfl) (by kernel_rfl) (by kernel_rfl) (fun _ _ _ h => h) (Or.inl ⟨by rfl, ?y21⟩) hS0 ?r21
  case y21 => (intro w' hSw; go_simp; try rfl)
  try simp only [Act.put, List.setIfInBounds_toArray, List.set_cons_zero, List.set_cons_succ]
  refine held_one (i := 2) (by kernel_rfl) rfl (fun K hK => ?_)
  go_simp
  have hS1 := hS0.trans (grown_of_below ((Below.refl _ _).alloc (Nat.le_refl _) (.cells #[.int .u8 1] 5)) (some g))
  refine hK.out _ _ hS1 (fun _ => ?_)
  clear hK K
  try simp only [Act.put, List.setIfInBounds_toArray, List.set_cons_zero, List.set_cons_succ]
  refine held_one (i := 18) (by kernel_rfl) rfl (fun K hK => ?_)
  go_simp
  have hS2 := hS1.trans (grown_of_below ((Below.refl _ _).alloc (Nat.le_refl _) (.cells #[.slice (some ⟨Z0.heap.size, 0, none⟩) 1 1, .slice (some ⟨g, 1 + a * 32, none⟩) 32 32, .slice (some ⟨g, 1 + b * 32, none⟩) 32 32] 45)) (some g))
  refine hK.out _ _ hS2 (fun _ => ?_)
  clear hK K
  try simp only [Act.put, List.setIfInBounds_toArray, List.set_cons_zero, List.set_cons_succ]
  have hls := Sls.three (Z0.alloc (.cells #[.int .u8 1] 5)) 45 _ _ _ [1] (H a) (H b) (Sl.one Z0 5 1 1 rfl) ((HT.out.alloc _).node a ha128 32 (Nat.le_refl _)) ((HT.out.alloc _).node b hb128 32 (Nat.le_refl _))
  rw [show (Z0.alloc (.cells #[.int .u8 1] 5)).heap.size = Z0.heap.size + 1 by simp] at hls
  have HG2 := Lib.hid ((HG.out.alloc (.cells #[.int .u8 1] 5)).alloc (.cells #[.slice (some ⟨Z0.heap.size, 0, none⟩) 1 1, .slice (some ⟨g, 1 + a * 32, none⟩) 32 32, .slice (some ⟨g, 1 + b * 32, none⟩) 32 32] 45))
  have HT2 := Lib.hid ((HT.out.alloc (.cells #[.int .u8 1] 5)).alloc (.cells #[.slice (some ⟨Z0.heap.size, 0, none⟩) 1 1, .slice (some ⟨g, 1 + a * 32, none⟩) 32 32, .slice (some ⟨g, 1 + b * 32, none⟩) 32 32] 45))
  have HLS := Lib.hid hls
  clear hls
  refine held_one (i := 19) (by kernel_rfl) rfl (fun K hK => ?_)
  go_simp
  refine (sum_any _ _ _ HLS.out HF.out (by simp) HG2.out).mono ?_
  rintro e Z1 ⟨rfl, hb1⟩
  have hS1 := hS2.trans (grown_of_below hb1 (some g))
  refine hK.out _ _ hS1 (fun _ => ?_)
  clear hK K
  try simp only [Act.put, List.setIfInBounds_toArray, List.set_cons_zero, List.set_cons_succ]
  have HT3 := Lib.hid (HT2.out.past hb1)
  clear hb1 HLS HG2 HT2
  generalize hR : rowB (shaN ([[1], H a, H b].flatten)) = R at *
  have ER := Lib.hid hR
  clear hR
  refine' wpAnyH_take (i := 22) (oi := ⟨some 26, _, _, _, _, _⟩) (v := _) rfl (by kernel_rfl) (by kernel_rfl) (by kernel_rfl) (fun _ _ _ h => h) (Or.inl ⟨by rfl, ?y22⟩) hS1 ?r22
  case y22 => (intro w' hSw; go_simp; rw [if_pos BN.out]; try rfl)
  try simp only [Act.put, List.setIfInBounds_toArray, List.set_cons_zero, List.set_cons_succ]
  have hth : Z1.there g (1 + n * 32) R.size := by rw [← ER.out, rowB_size, HL.out]; exact HT3.out.there _ _ (by omega)
  have hi : (Tryd.prog.info? 39).map (·.size) = some R.size := by rw [← ER.out]; exact rowB_info HL.out
  have hone : R.all (·.oneCell') = true := by rw [← ER.out]; exact rowB_one _
  refine held_one (i := 23) (by kernel_rfl) rfl (fun K hK => ?_)
  rw [if_pos (by rfl)]
  refine wp_store_mid 39 _ _ rfl g (1 + n * 32) R rfl rfl hth hi hone ?_
  have hS4 := hS1.trans (grown_setCells g R.toList (1 + n * 32) Z1)
  refine hK.out _ _ hS4 (fun _ => ?_)
  clear hK K
  try simp only [Act.put, List.setIfInBounds_toArray, List.set_cons_zero, List.set_cons_succ]
  refine wpAnyH_done (by kernel_rfl) ?_ _
  have hE : Tr (Z1.setCells g (1 + n * 32) R.toList) g (anew H n) := by
    rw [← ER.out, rowB_list, HE.out]
    exact HT3.out.set n (by omega) HL.out
  exact bodyPost_end (results_none rfl _ _ _) rfl ⟨rfl, hE, HD.out.trans hS4⟩
end Go.Proofs.YtdbhffkfkklehaaDoor

/-
  The walks of Root, Node, Leaves, Copy of a tree.
-/
namespace Go.Proofs.YtdbhffkfkklehaaDoor
open Go.RowKit
set_option linter.unusedVariables false
set_option linter.unusedSimpArgs false
set_option maxRecDepth 100000

/-- A hash's result in a cell, stored. -/
theorem range_len {H : Nat → List UInt8} (hl : Len H) (n : Nat) (hn : n < 128) : (Tryd.prog.info? 39).map (·.size) = some (hcells (H n)).length := by
  rw [info_h32, hcells_length, hl n hn]

/-- What is known of a hash's cells. -/
theorem hc_facts {x : List UInt8} (hx : x.length = 32) : (Tryd.prog.info? 39).map (·.size) = some (hcells x).length ∧ (Tryd.prog.info? 39).map (·.size) = some (hcells x).toArray.size ∧ (hcells x).toArray.all (·.oneCell') = true ∧ (hcells x).toArray.size = 32 :=
  ⟨by rw [info_h32, hcells_length, hx], by rw [info_h32, hcells_arr, rowB_size, hx], rowB_one x, by rw [hcells_arr, rowB_size, hx]⟩
set_option maxHeartbeats 800000 in
theorem root_tree (w : World) (g : Nat) (H : Nat → List UInt8) (h : Tr w g H) :
    Calls Tryd.prog 22 #[.pointer (some ⟨g, 0, none⟩)] w fun e w' => e = .returned (.agg (rowB (H 1))) ∧ Below w.heap.size w w' := by
  have hB := Blk.new w 39 (rowB (List.replicate 32 0))
  have hbw : Below w.heap.size w (w.alloc (.cells (rowB (List.replicate 32 0)) 39)) := (Below.refl _ _).alloc (Nat.le_refl _) _
  have hZ : (rowB (List.replicate 32 0)).size = 32 := by rw [rowB_size, List.length_replicate]
  have hT := h.alloc (.cells (rowB (List.replicate 32 0)) 39)
  go_enter Tryd.func22, Tryd.ntmps22
  go_upto_region 1 with (fail)
  change Code.wp _ _ _ _ (w.alloc (.cells (rowB (List.replicate 32 0)) 39))
  generalize w.alloc (.cells (rowB (List.replicate 32 0)) 39) = W0 at hB hbw hT ⊢
  generalize rowB (List.replicate 32 0) = Z at hB hZ
  go_wp2_with fail
  refine (none_tree W0 hT).mono ?_
  rintro e w1 ⟨rfl, rfl⟩
  have hR := hT.range 1 (by decide)
  obtain ⟨hil, hi, h1, hs1⟩ := hc_facts (hT.len 1 (by decide))
  have ET := Lib.hid (hcells_arr (H 1))
  generalize hcells (H 1) = C at hR hil hi h1 hs1 ET
  have hth : W0.there w.heap.size 0 C.toArray.size := by rw [hs1, ← hZ]; exact hB.there
  go_wp2_with (first | (refine wpList_load_mid rfl 39 _ rfl g 33 rfl C _ hR Tryd.underlying39 rfl hil ?_) | (refine wpList_store_mid rfl 39 _ _ rfl w.heap.size 0 C.toArray rfl rfl hth hi h1 ?_))
  have hE : Blk (W0.setCells w.heap.size 0 C.toArray.toList) w.heap.size 39 C.toArray := hB.setRow (by rw [hs1, hZ])
  have hbE := Below.only hbw (grown_setCells w.heap.size C.toArray.toList 0 W0) (Nat.le_refl _) hbw.size
  exact bodyPost_ret (v := .agg C.toArray) (results_cell_row rfl _ _ w.heap.size 39 C.toArray (0, 0) _ rfl hE Tryd.underlying39 rfl hi) rfl ⟨by rw [ET.out], hbE⟩
set_option maxHeartbeats 800000 in
theorem node_tree (w : World) (g : Nat) (H : Nat → List UInt8) (h : Tr w g H) (n : Nat) (hn1 : 1 ≤ n) (hn : n < 128) :
    Calls Tryd.prog 20 #[.pointer (some ⟨g, 0, none⟩), .int .i64 (n : Int)] w fun e w' => e = .returned (.tuple #[.agg (rowB (H n)), .int .i64 0]) ∧ Below w.heap.size w w' := by
  have hB := Blk.new w 39 (rowB (List.replicate 32 0))
  have hbw : Below w.heap.size w (w.alloc (.cells (rowB (List.replicate 32 0)) 39)) := (Below.refl _ _).alloc (Nat.le_refl _) _
  have hZ : (rowB (List.replicate 32 0)).size = 32 := by rw [rowB_size, List.length_replicate]
  have hT := h.alloc (.cells (rowB (List.replicate 32 0)) 39)
  go_enter Tryd.func20, Tryd.ntmps20
  go_upto_region 1 with (fail)
  change Code.wp _ _ _ _ (w.alloc (.cells (rowB (List.replicate 32 0)) 39))
  generalize w.alloc (.cells (rowB (List.replicate 32 0)) 39) = W0 at hB hbw hT ⊢
  generalize rowB (List.replicate 32 0) = Z at hB hZ
  go_wp2_with fail
  refine (none_tree W0 hT).mono ?_
  rintro e w1 ⟨rfl, rfl⟩
  have hR := hT.range n hn
  obtain ⟨hil, hi, h1, hs1⟩ := hc_facts (hT.len n hn)
  have ET := Lib.hid (hcells_arr (H n))
  generalize hcells (H n) = C at hR hil hi h1 hs1 ET
  have hth : W0.there w.heap.size 0 C.toArray.size := by rw [hs1, ← hZ]; exact hB.there
  go_wp2_with (first | (refine wpList_load_mid rfl 39 _ rfl g (1 + n * 32) rfl C _ hR Tryd.underlying39 rfl hil ?_) | (refine wpList_store_mid rfl 39 _ _ rfl w.heap.size 0 C.toArray rfl rfl hth hi h1 ?_))
  have hE : Blk (W0.setCells w.heap.size 0 C.toArray.toList) w.heap.size 39 C.toArray := hB.setRow (by rw [hs1, hZ])
  have hbE := Below.only hbw (grown_setCells w.heap.size C.toArray.toList 0 W0) (Nat.le_refl _) hbw.size
  trace_state
  exact bodyPost_ret (v := .tuple #[.agg C.toArray, .int .i64 0]) (results_row_and rfl _ _ w.heap.size 39 C.toArray (0, 0) _ _ rfl rfl hE Tryd.underlying39 rfl hi) rfl ⟨by rw [ET.out], hbE⟩
set_option maxHeartbeats 800000 in
theorem node_out (w : World) (g : Nat) (H : Nat → List UInt8) (h : Tr w g H) (n : Int) (hn : n < 1 ∨ 128 ≤ n) :
    Calls Tryd.prog 20 #[.pointer (some ⟨g, 0, none⟩), .int .i64 n] w fun e w' => e = .returned (.tuple #[.agg (rowB zero32), .int .i64 2]) ∧ Below w.heap.size w w' := by
  have hi := rowB_info zero32_length
  have h1 := rowB_one zero32
  have hB := Blk.new w 39 (rowB (List.replicate 32 0))
  have hbw : Below w.heap.size w (w.alloc (.cells (rowB (List.replicate 32 0)) 39)) := (Below.refl _ _).alloc (Nat.le_refl _) _
  have hZ : (rowB (List.replicate 32 0)).size = 32 := by rw [rowB_size, List.length_replicate]
  have hT := h.alloc (.cells (rowB (List.replicate 32 0)) 39)
  go_enter Tryd.func20, Tryd.ntmps20
  go_upto_region 1 with (fail)
  change Code.wp _ _ _ _ (w.alloc (.cells (rowB (List.replicate 32 0)) 39))
  generalize w.alloc (.cells (rowB (List.replicate 32 0)) 39) = W0 at hB hbw hT ⊢
  change Blk W0 w.heap.size _ (rowB zero32) at hB
  generalize hZZ : rowB zero32 = Z at hB hi h1
  have EZ := Lib.hid hZZ
  clear hZZ hZ
  go_wp2_with fail
  refine (none_tree W0 hT).mono ?_
  rintro e w1 ⟨rfl, rfl⟩
  have hth : W0.there w.heap.size 0 Z.size := hB.there
  have hE : Blk (W0.setCells w.heap.size 0 Z.toList) w.heap.size 39 Z := hB.setRow rfl
  have hbE := Below.only hbw (grown_setCells w.heap.size Z.toList 0 W0) (Nat.le_refl _) hbw.size
  rcases hn with hn | hn
  · go_wp2_with (refine wpList_store_mid rfl 39 _ _ rfl w.heap.size 0 Z rfl (by rw [← EZ.out]; rfl) hth hi h1 ?_)
    exact bodyPost_ret (v := .tuple #[.agg Z, .int .i64 2]) (results_row_and rfl _ _ w.heap.size 39 Z (0, 0) _ _ rfl rfl hE Tryd.underlying39 rfl hi) rfl ⟨by rw [EZ.out], hbE⟩
  · have hn' : ¬ n < 1 := by omega
    go_wp2_with (refine wpList_store_mid rfl 39 _ _ rfl w.heap.size 0 Z rfl (by rw [← EZ.out]; rfl) hth hi h1 ?_)
    exact bodyPost_ret (v := .tuple #[.agg Z, .int .i64 2]) (results_row_and rfl _ _ w.heap.size 39 Z (0, 0) _ _ rfl rfl hE Tryd.underlying39 rfl hi) rfl ⟨by rw [EZ.out], hbE⟩
theorem node_no (w : World) (p : Value) (h : NoTr w p) (n : Int) :
    Calls Tryd.prog 20 #[p, .int .i64 n] w fun e w' => e = .returned (.tuple #[.agg (rowB zero32), .int .i64 1]) ∧ Below w.heap.size w w' := by
  have hi := rowB_info zero32_length
  have h1 := rowB_one zero32
  have hsh : ∃ q, p = .pointer q := by rcases h with rfl | ⟨g, rfl, _⟩ <;> exact ⟨_, rfl⟩
  obtain ⟨q, rfl⟩ := hsh
  have hB := Blk.new w 39 (rowB (List.replicate 32 0))
  have hbw : Below w.heap.size w (w.alloc (.cells (rowB (List.replicate 32 0)) 39)) := (Below.refl _ _).alloc (Nat.le_refl _) _
  have hZ : (rowB (List.replicate 32 0)).size = 32 := by rw [rowB_size, List.length_replicate]
  have hT := h.below hbw
  go_enter Tryd.func20, Tryd.ntmps20
  go_upto_region 1 with (fail)
  change Code.wp _ _ _ _ (w.alloc (.cells (rowB (List.replicate 32 0)) 39))
  generalize w.alloc (.cells (rowB (List.replicate 32 0)) 39) = W0 at hB hbw hT ⊢
  change Blk W0 w.heap.size _ (rowB zero32) at hB
  generalize hZZ : rowB zero32 = Z at hB hi h1
  have EZ := Lib.hid hZZ
  clear hZZ hZ
  go_wp2_with fail
  refine (none_no W0 _ hT).mono ?_
  rintro e w1 ⟨rfl, rfl⟩
  have hth : W0.there w.heap.size 0 Z.size := hB.there
  have hE : Blk (W0.setCells w.heap.size 0 Z.toList) w.heap.size 39 Z := hB.setRow rfl
  have hbE := Below.only hbw (grown_setCells w.heap.size Z.toList 0 W0) (Nat.le_refl _) hbw.size
  go_wp2_with (refine wpList_store_mid rfl 39 _ _ rfl w.heap.size 0 Z rfl (by rw [← EZ.out]; rfl) hth hi h1 ?_)
  exact bodyPost_ret (v := .tuple #[.agg Z, .int .i64 1]) (results_row_and rfl _ _ w.heap.size 39 Z (0, 0) _ _ rfl rfl hE Tryd.underlying39 rfl hi) rfl ⟨by rw [EZ.out], hbE⟩
theorem root_no (w : World) (p : Value) (h : NoTr w p) :
    Calls Tryd.prog 22 #[p] w fun e w' => e = .returned (.agg (rowB zero32)) ∧ Below w.heap.size w w' := by
  have hi := rowB_info zero32_length
  have h1 := rowB_one zero32
  have hsh : ∃ q, p = .pointer q := by rcases h with rfl | ⟨g, rfl, _⟩ <;> exact ⟨_, rfl⟩
  obtain ⟨q, rfl⟩ := hsh
  have hB := Blk.new w 39 (rowB (List.replicate 32 0))
  have hbw : Below w.heap.size w (w.alloc (.cells (rowB (List.replicate 32 0)) 39)) := (Below.refl _ _).alloc (Nat.le_refl _) _
  have hZ : (rowB (List.replicate 32 0)).size = 32 := by rw [rowB_size, List.length_replicate]
  have hT := h.below hbw
  go_enter Tryd.func22, Tryd.ntmps22
  go_upto_region 1 with (fail)
  change Code.wp _ _ _ _ (w.alloc (.cells (rowB (List.replicate 32 0)) 39))
  generalize w.alloc (.cells (rowB (List.replicate 32 0)) 39) = W0 at hB hbw hT ⊢
  change Blk W0 w.heap.size _ (rowB zero32) at hB
  generalize hZZ : rowB zero32 = Z at hB hi h1
  have EZ := Lib.hid hZZ
  clear hZZ hZ
  go_wp2_with fail
  refine (none_no W0 _ hT).mono ?_
  rintro e w1 ⟨rfl, rfl⟩
  have hth : W0.there w.heap.size 0 Z.size := hB.there
  have hE : Blk (W0.setCells w.heap.size 0 Z.toList) w.heap.size 39 Z := hB.setRow rfl
  have hbE := Below.only hbw (grown_setCells w.heap.size Z.toList 0 W0) (Nat.le_refl _) hbw.size
  go_wp2_with (refine wpList_store_mid rfl 39 _ _ rfl w.heap.size 0 Z rfl (by rw [← EZ.out]; rfl) hth hi h1 ?_)
  exact bodyPost_ret (v := .agg Z) (results_cell_row rfl _ _ w.heap.size 39 Z (0, 0) _ rfl hE Tryd.underlying39 rfl hi) rfl ⟨by rw [EZ.out], hbE⟩
end Go.Proofs.YtdbhffkfkklehaaDoor

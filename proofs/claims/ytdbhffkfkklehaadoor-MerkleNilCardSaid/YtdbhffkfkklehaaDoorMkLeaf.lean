/-
  The walks of merkle.Leaf and of the document's Leaf.
-/
import Derived.Test.YtdbhffkfkklehaaDoorMkTree
import Derived.Test.YtdbhffkfkklehaaDoorShaSumW
import Derived.Test.YtdbhffkfkklehaaDoorShaRefSum
namespace Go.Proofs.YtdbhffkfkklehaaDoor
open Go.RowKit
set_option linter.unusedVariables false
set_option linter.unusedSimpArgs false

def zero32 : List UInt8 := List.replicate 32 0
theorem zero32_length : zero32.length = 32 := rfl
theorem shaN_len32 (b : List UInt8) : (shaN b).length = 32 := St.bytes_length _
theorem wpList_build_to {P : Program} {ops : Array Oper} {rest : List Oper} {o : Oper} {a : Act} {w : World} {Q : Exit → Act → World → Prop} (hgd : o.guard = none) (t : TypeId) (parts : Array (Nat × Operand)) (ho : o.op = .build t parts)
    (cells : Array Value) (hc : P.built t (parts.map fun (i, x) => (i, a.eval x)).toList = some cells) (h : wpList P ops Q rest (a.put o.dst (.agg cells)) w) : wpList P ops Q (o :: rest) a w :=
  wpList_plain hgd fun _ hK => wp_build t parts ho (by rw [hc]; rfl) (by rw [hc]; exact hK _ _ h)
/-- A zero hash, built. -/
theorem build32 : Tryd.prog.built 39 [] = some (rowB zero32) := by kernel_rfl
theorem Build32 : Hid (Tryd.prog.built 39 [] = some (rowB zero32)) := Lib.hid build32

set_option maxHeartbeats 800000 in
theorem leaf_any (b : Nat) (hb : b < 64) (v : Value) (l : List UInt8) (w : World) (hs : Sl w v l) (hl : l.length ≤ 900000) (hg : Gl w) :
    Calls Tryd.prog 26 #[.int .i64 (b : Int), v] w fun e w' => e = .returned (.tuple #[.agg (rowB (leafN b l)), .int .i64 0]) ∧ Below w.heap.size w w' := by
  have hB := Blk.new w 39 (rowB (List.replicate 32 0))
  have hbw : Below w.heap.size w (w.alloc (.cells (rowB (List.replicate 32 0)) 39)) := (Below.refl _ _).alloc (Nat.le_refl _) _
  have hZ : (rowB (List.replicate 32 0)).size = 32 := by rw [rowB_size, List.length_replicate]
  have hs0 := hs.below hbw
  have hg0 := hg.below hbw
  obtain ⟨A, n, c, rfl⟩ := hs.shape
  go_enter Tryd.func26, Tryd.ntmps26
  go_upto_region 1 with (fail)
  change Code.wp _ _ _ _ (w.alloc (.cells (rowB (List.replicate 32 0)) 39))
  generalize w.alloc (.cells (rowB (List.replicate 32 0)) 39) = W0 at hB hbw hs0 hg0 ⊢
  generalize rowB (List.replicate 32 0) = Z at hB hZ
  have Hu := Lib.hid (show (b : Int) = (((UInt8.ofNat b).toNat : Nat) : Int) by simp; omega)
  have hsz := hbw.size
  have EL := Lib.hid (show leafN b l = shaN ([[0, UInt8.ofNat b], l].flatten) by simp [leafN])
  have hll := shaN_len32 ([[0, UInt8.ofNat b], l].flatten)
  have hfl : ([[0, UInt8.ofNat b], l].flatten).length ≤ 1000000 := by simp; omega
  go_wp2_with fail
  have hls := Sls.two (W0.alloc (.cells #[.int .u8 0, .int .u8 (b : Int)] 5)) 45 _ _ [0, UInt8.ofNat b] l (Sl.pair W0 5 0 (b : Int) 0 (UInt8.ofNat b) rfl Hu.out) (hs0.alloc _)
  rw [show (W0.alloc (.cells #[.int .u8 0, .int .u8 (b : Int)] 5)).heap.size = W0.heap.size + 1 by simp] at hls
  refine (sum_any _ _ _ hls hfl (by simp) ((hg0.alloc _).alloc _)).mono ?_
  rintro e w1 ⟨rfl, hb1⟩
  have hB1 := ((hB.alloc (.cells #[.int .u8 0, .int .u8 (b : Int)] 5)).alloc (.cells #[.slice (some ⟨W0.heap.size, 0, none⟩) 2 2, .slice A n c] 45))
  have hB2 := hB1.below hb1 hB1.lt
  have hb2 : Below w.heap.size w w1 := ((hbw.alloc hsz _).alloc (by simp; omega) _).trans (hb1.mono (by simp; omega))
  have hi := rowB_info hll
  have h1 := rowB_one (shaN ([[0, UInt8.ofNat b], l].flatten))
  have hs1 := rowB_size (shaN ([[0, UInt8.ofNat b], l].flatten))
  rw [hll] at hs1
  clear hls hb1 hB1 hB hll hfl Hu
  generalize hT : rowB (shaN ([[0, UInt8.ofNat b], l].flatten)) = T at hi h1 hs1 ⊢
  have ET := Lib.hid hT
  clear hT
  have hth : w1.there w.heap.size 0 T.size := by rw [hs1, ← hZ]; exact hB2.there
  go_wp2_with (refine wpList_store_mid rfl 39 _ _ rfl w.heap.size 0 T rfl rfl hth hi h1 ?_)
  have hE : Blk (w1.setCells w.heap.size 0 T.toList) w.heap.size 39 T := hB2.setRow (by rw [hs1, hZ])
  have hbE := Below.only hb2 (grown_setCells w.heap.size T.toList 0 w1) (Nat.le_refl _) hb2.size
  exact bodyPost_ret (v := .tuple #[.agg T, .int .i64 0]) (results_row_and rfl _ _ w.heap.size 39 T (0, 0) _ _ rfl rfl hE Tryd.underlying39 rfl hi) rfl ⟨by rw [EL.out, ET.out], hbE⟩
theorem leaf_no (b : Int) (hb : b < 0 ∨ 64 ≤ b) (v : Value) (w : World) (hsh : ∃ A n c, v = .slice A n c) :
    Calls Tryd.prog 26 #[.int .i64 b, v] w fun e w' => e = .returned (.tuple #[.agg (rowB zero32), .int .i64 2]) ∧ Below w.heap.size w w' := by
  have hB := Blk.new w 39 (rowB (List.replicate 32 0))
  have hbw : Below w.heap.size w (w.alloc (.cells (rowB (List.replicate 32 0)) 39)) := (Below.refl _ _).alloc (Nat.le_refl _) _
  have hi := rowB_info zero32_length
  have h1 := rowB_one zero32
  have hs1 := rowB_size zero32
  rw [zero32_length] at hs1
  obtain ⟨A, n, c, rfl⟩ := hsh
  go_enter Tryd.func26, Tryd.ntmps26
  go_upto_region 1 with (fail)
  change Code.wp _ _ _ _ (w.alloc (.cells (rowB (List.replicate 32 0)) 39))
  generalize w.alloc (.cells (rowB (List.replicate 32 0)) 39) = W0 at hB hbw ⊢
  change Blk W0 w.heap.size _ (rowB zero32) at hB
  generalize hZZ : rowB zero32 = Z at hB hi h1 hs1
  have EZ := Lib.hid hZZ
  clear hZZ
  have hth : W0.there w.heap.size 0 Z.size := hB.there
  have hE : Blk (W0.setCells w.heap.size 0 Z.toList) w.heap.size 39 Z := hB.setRow rfl
  have hbE := Below.only hbw (grown_setCells w.heap.size Z.toList 0 W0) (Nat.le_refl _) hbw.size
  rcases hb with hb | hb
  · go_wp2_with (refine wpList_store_mid rfl 39 _ _ rfl w.heap.size 0 Z rfl (by rw [← EZ.out]; rfl) hth hi h1 ?_)
    exact bodyPost_ret (v := .tuple #[.agg Z, .int .i64 2]) (results_row_and rfl _ _ w.heap.size 39 Z (0, 0) _ _ rfl rfl hE Tryd.underlying39 rfl hi) rfl ⟨by rw [EZ.out], hbE⟩
  · have hb' : ¬ b < 0 := by omega
    go_wp2_with (refine wpList_store_mid rfl 39 _ _ rfl w.heap.size 0 Z rfl (by rw [← EZ.out]; rfl) hth hi h1 ?_)
    exact bodyPost_ret (v := .tuple #[.agg Z, .int .i64 2]) (results_row_and rfl _ _ w.heap.size 39 Z (0, 0) _ _ rfl rfl hE Tryd.underlying39 rfl hi) rfl ⟨by rw [EZ.out], hbE⟩

set_option maxHeartbeats 800000 in
theorem refLeaf_any (b : Nat) (hb : b < 64) (v : Value) (l : List UInt8) (w : World) (hs : Sl w v l) (hl : l.length ≤ 900000) :
    Calls Tryd.prog 27 #[.int .i64 (b : Int), v] w fun e w' => e = .returned (.agg (rowB (leafN b l))) ∧ Below w.heap.size w w' := by
  have hB := Blk.new w 39 (rowB (List.replicate 32 0))
  have hbw : Below w.heap.size w (w.alloc (.cells (rowB (List.replicate 32 0)) 39)) := (Below.refl _ _).alloc (Nat.le_refl _) _
  have hZ : (rowB (List.replicate 32 0)).size = 32 := by rw [rowB_size, List.length_replicate]
  have hs0 := hs.below hbw
  obtain ⟨i0, hi0, hz0, hz1, hz2⟩ := info_parts info_u8
  obtain ⟨A, n, c, rfl⟩ := hs.shape
  go_enter Tryd.func27, Tryd.ntmps27
  go_upto_region 1 with (fail)
  change Code.wp _ _ _ _ (w.alloc (.cells (rowB (List.replicate 32 0)) 39))
  generalize w.alloc (.cells (rowB (List.replicate 32 0)) 39) = W0 at hB hbw hs0 ⊢
  generalize rowB (List.replicate 32 0) = Z at hB hZ
  have Hu := Lib.hid (show (b : Int) = (((UInt8.ofNat b).toNat : Nat) : Int) by simp; omega)
  have hsz := hbw.size
  have EL := Lib.hid (show leafN b l = shaN (0 :: UInt8.ofNat b :: l) from rfl)
  have hll := shaN_len32 (0 :: UInt8.ofNat b :: l)
  have hfl : (0 :: UInt8.ofNat b :: l).length ≤ 1000000 := by simp; omega
  have ho : Own (W0.alloc (.cells #[.int .u8 0, .int .u8 (b : Int)] 5)) W0.heap.size 5 (.slice (some ⟨W0.heap.size, 0, none⟩) 2 2) [0, UInt8.ofNat b] :=
    Own.of_new W0 W0.heap.size 5 _ [0, UInt8.ofNat b] 2 (Nat.le_refl _) (by simp only [bv, List.map_cons, List.map_nil]; rw [← Hu.out]; rfl) rfl (by simp)
  have hl2 : [0, UInt8.ofNat b].length + l.length ≤ 1000000000 := by simp; omega
  have hB1 := hB.alloc (.cells #[.int .u8 0, .int .u8 (b : Int)] 5)
  have hb1 : Below w.heap.size w (W0.alloc (.cells #[.int .u8 0, .int .u8 (b : Int)] 5)) := hbw.alloc hsz _
  go_wp2_with (at_builtin; refine wpList_append_bytes _ rfl _ _ 45 rfl W0.heap.size 5 i0 Tryd.underlying45 hi0 hz0 hz1 hz2 _ [0, UInt8.ofNat b] rfl ho _ l rfl (hs0.alloc _) hl2 (by simp) ?_)
  intro v2 w2 ho2 hb2
  replace hB := hB1.below hb2 (by have := hB.lt; omega)
  replace hb1 := hb1.trans (hb2.mono hsz)
  generalize 0 :: UInt8.ofNat b :: l = m at EL hll hfl ho2
  clear ho hB1 Hu hb2
  have hs2 := ho2.sl
  obtain ⟨A2, n2, c2, rfl⟩ := hs2.shape
  clear ho2
  go_wp2_with fail
  refine (refSum_any _ m _ hs2 hfl).mono ?_
  rintro e w3 ⟨rfl, hb3⟩
  replace hB := hB.below hb3 hB.lt
  replace hb1 := hb1.trans (hb3.mono hb1.size)
  have hi := rowB_info hll
  have h1 := rowB_one (shaN m)
  have hs1 := rowB_size (shaN m)
  rw [hll] at hs1
  clear hb3 hs2
  generalize hT : rowB (shaN m) = T at hi h1 hs1 ⊢
  have ET := Lib.hid hT
  clear hT
  have hth : w3.there w.heap.size 0 T.size := by rw [hs1, ← hZ]; exact hB.there
  go_wp2_with (refine wpList_store_mid rfl 39 _ _ rfl w.heap.size 0 T rfl rfl hth hi h1 ?_)
  have hE : Blk (w3.setCells w.heap.size 0 T.toList) w.heap.size 39 T := hB.setRow (by rw [hs1, hZ])
  have hbE := Below.only hb1 (grown_setCells w.heap.size T.toList 0 w3) (Nat.le_refl _) hb1.size
  exact bodyPost_ret (v := .agg T) (results_cell_row rfl _ _ w.heap.size 39 T (0, 0) _ rfl hE Tryd.underlying39 rfl hi) rfl ⟨by rw [EL.out, ET.out], hbE⟩
end Go.Proofs.YtdbhffkfkklehaaDoor

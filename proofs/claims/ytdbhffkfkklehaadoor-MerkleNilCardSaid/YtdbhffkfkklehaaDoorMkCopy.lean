/-
  The walk of Copy of a tree.
-/
import Derived.Test.YtdbhffkfkklehaaDoorMkCop
namespace Go.Proofs.YtdbhffkfkklehaaDoor
open Go.RowKit
set_option linter.unusedVariables false
set_option linter.unusedSimpArgs false
set_option maxRecDepth 100000

theorem fill_fold (off : Nat) : ∀ (C : List Value) (k : Nat) (cs : Array Value), off + k + C.length ≤ cs.size → ∀ i,
    ((C.zipIdx k).foldl (fun (cs : Array Value) (p : Value × Nat) => cs.setIfInBounds (off + p.2) p.1) cs)[i]? = if off + k ≤ i ∧ i < off + k + C.length then C[i - (off + k)]? else cs[i]?
  | [], k, cs, h, i => by rw [if_neg (by intro hh; have := hh.2; simp at this; omega)]; rfl
  | c :: C, k, cs, h, i => by
    simp only [List.length_cons] at h
    rw [List.zipIdx_cons, List.foldl_cons, fill_fold off C (k + 1) _ (by simp; omega) i]
    simp only [List.length_cons]
    by_cases e : i = off + k
    · subst e
      rw [if_neg (by omega), if_pos (by omega), Array.getElem?_setIfInBounds_self_of_lt (by omega), Nat.sub_self]; rfl
    · by_cases e2 : off + (k + 1) ≤ i ∧ i < off + (k + 1) + C.length
      · rw [if_pos e2, if_pos (by omega), show i - (off + k) = (i - (off + (k + 1))) + 1 by omega, List.getElem?_cons_succ]
      · rw [if_neg e2, if_neg (by omega), Array.getElem?_setIfInBounds_ne (by omega)]
def zeroT : Array Value := (Value.bool false :: List.replicate 4096 (.int .u8 0)).toArray
theorem tree_zero : (Tryd.prog.info? 43).map (fun i => i.zero) = some (some (.agg zeroT)) := by kernel_rfl
theorem tree_places : (Tryd.prog.underlying 43).map (fun d => match d with | .struct fields => fields.toList.mapM (fun f => (Tryd.prog.info? f.type).map fun i => (f.offset, i.size)) | _ => none) = some (some [(0, 1), (1, 4096)]) := by kernel_rfl
theorem zeroT_size : zeroT.size = 4097 := by simp [zeroT]
theorem built_tree (parts : List (Nat × Value)) : Tryd.prog.built 43 parts = Instr.fill (fun x => ([(0, 1), (1, 4096)] : List (Nat × Nat)).toArray[x]?) zeroT parts := by
  unfold Program.built
  obtain ⟨it, hi, hz⟩ := Option.map_eq_some_iff.1 tree_zero
  obtain ⟨d, hd, hp⟩ := Option.map_eq_some_iff.1 tree_places
  rw [hi, hd]
  cases d <;> simp only at hp <;> try (cases hp; done)
  simp only [hz, hp]
  rfl
theorem built_new : Tryd.prog.built 43 [(0, .bool true)] = some (treeRow true (fun _ => zero32)) := by
  rw [built_tree]
  kernel_rfl
theorem built_zero : Tryd.prog.built 43 [] = some (treeRow false (fun _ => zero32)) := by
  rw [built_tree]
  kernel_rfl
theorem fill_step (place : Nat → Option (Nat × Nat)) (cells : Array Value) (i : Nat) (v : Value) (rest : List (Nat × Value)) (off size : Nat) (hp : place i = some (off, size)) (h1 : v.cells.size = size) (h2 : off + size ≤ cells.size) :
    Instr.fill place cells ((i, v) :: rest) = Instr.fill place (v.cells.zipIdx.foldl (fun cs (p : Value × Nat) => cs.setIfInBounds (off + p.2) p.1) cells) rest := by
  rw [Instr.fill, hp]
  dsimp only
  rw [if_neg (by simp [h1]; omega)]
theorem built_all (C : List Value) (hC : C.length = 4096) : Tryd.prog.built 43 [(0, .bool true), (1, .agg C.toArray)] = some (Value.bool true :: C).toArray := by
  rw [built_tree, fill_step _ _ 0 _ _ 0 1 rfl rfl (by rw [zeroT_size]; omega)]
  have e : (Value.cells (.bool true)).zipIdx.foldl (fun (cs : Array Value) (p : Value × Nat) => cs.setIfInBounds (0 + p.2) p.1) zeroT = zeroT.setIfInBounds 0 (.bool true) := by
    simp [Value.cells]
  rw [e]
  generalize hz : zeroT.setIfInBounds 0 (.bool true) = Z
  have hzs : Z.size = 4097 := by rw [← hz, Array.size_setIfInBounds, zeroT_size]
  have hz0 : Z[0]? = some (.bool true) := by rw [← hz, Array.getElem?_setIfInBounds_self_of_lt (by rw [zeroT_size]; omega)]
  clear hz e
  rw [fill_step _ _ 1 _ _ 1 4096 rfl (by simp [Value.cells, hC]) (by rw [hzs]; omega)]
  show some _ = some _
  congr 1
  rw [show Value.cells (.agg C.toArray) = C.toArray from rfl]
  rw [← Array.foldl_toList, Array.toList_zipIdx]
  apply Array.ext_getElem?
  intro i
  rw [fill_fold 1 C 0 Z (by rw [hzs, hC]; omega) i, hC]
  rcases Nat.eq_zero_or_pos i with rfl | hp
  · rw [if_neg (by omega), hz0]; rfl
  · by_cases hi : i < 4097
    · rw [if_pos (by omega), List.getElem?_toArray]
      obtain ⟨j, rfl⟩ : ∃ j, i = j + 1 := ⟨i - 1, by omega⟩
      rw [List.getElem?_cons_succ, show j + 1 - (1 + 0) = j by omega]
    · rw [if_neg (by omega), Array.getElem?_eq_none (by omega), Array.getElem?_eq_none (by simp [hC]; omega)]
theorem info_nodes : (Tryd.prog.info? 41).map (·.size) = some 4096 := by kernel_rfl
theorem Tr.cells {w : World} {g : Nat} {H : Nat → List UInt8} (h : Tr w g H) : w.rangeAt g 1 (hcs (nodesL H)) := by
  intro j v hv
  rw [h.row.cell, treeRow, List.getElem?_toArray, show 1 + j = j + 1 by omega, List.getElem?_cons_succ, hv]

set_option maxHeartbeats 1600000 in
theorem copy_tree (w : World) (g : Nat) (H : Nat → List UInt8) (h : Tr w g H) :
    Calls Tryd.prog 13 #[.pointer (some ⟨g, 0, none⟩)] w fun e w' => ∃ g', e = .returned (.pointer (some ⟨g', 0, none⟩)) ∧ w.heap.size ≤ g' ∧ Tr w' g' H ∧ Below w.heap.size w w' := by
  go_enter Tryd.func13, Tryd.ntmps13
  go_wp2_with fail
  refine (none_tree w h).mono ?_
  rintro e w1 ⟨rfl, rfl⟩
  have hR := h.cells
  have hC : (hcs (nodesL H)).length = 4096 := by rw [hcs_length _ h.len.all, nodesL_length]
  have hil : (Tryd.prog.info? 41).map (·.size) = some (hcs (nodesL H)).length := by rw [info_nodes, hC]
  have HT := Lib.hid (show Tr (w.alloc (.cells (Value.bool true :: hcs (nodesL H)).toArray 43)) w.heap.size H from ⟨h.len, Blk.new w _ _⟩)
  generalize hcs (nodesL H) = C at hR hC hil HT
  have HBU := Lib.hid (built_all C hC)
  go_wp2_with (first | (refine wpList_load_mid rfl 41 _ rfl g 1 rfl C _ hR Tryd.underlying41 rfl hil ?_) | (refine wpList_build_to rfl 43 _ rfl (Value.bool true :: C).toArray ?hbc ?_; case hbc => exact Eq.trans (by kernel_rfl) HBU.out))
  go_ret
  exact ⟨_, rfl, Nat.le_refl _, HT.out, (Below.refl _ _).alloc (Nat.le_refl _) _⟩
end Go.Proofs.YtdbhffkfkklehaaDoor

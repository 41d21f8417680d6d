/-
  The walk of slices.Insert at dots: one dot into a row of the call's own.
-/
import Derived.Test.YtldfaaahmpncbaaGreatCtxIns
import Derived.Shelf.Spec.SlicesInsertGrow
namespace Go.Proofs.YtldfaaahmpncbaaGreat
open Go.RowKit
open CtxM
open Go.Lib
set_option linter.unusedVariables false
set_option linter.unusedSimpArgs false

theorem sizeOf_dot (w : World) : (Go.sizeOf 41).run Tryz.prog w = .ok 2 w := Tryz.sizeOf41 w

set_option maxHeartbeats 4000000 in
set_option maxRecDepth 100000 in
/-- There is room, and the place is not the end: in place. -/
theorem insert_shift (g cap : Nat) (cur : Array Value) (X : List Dt) (i vb vc : Nat) (d : Dt) (w : World) (hi : i < X.length) (hroom : X.length + 1 ≤ cap) (hc63 : cap ≤ 9223372036854775807) (hB : Blk w g 41 cur) (hsz : cur.size = cap * 2) (htk : cur.toList.take (X.length * 2) = dvs X)
    (hvb : vb ≠ g) (hV : Blk w vb 41 #[.int .i64 d.1, .int .u64 (d.2 : Int)]) (hl : X.length ≤ 100000) :
    Calls Tryz.prog 85 #[.slice (some ⟨g, 0, none⟩) X.length cap, .int .i64 (i : Int), .slice (some ⟨vb, 0, none⟩) 1 vc] w fun e w' =>
      e = .returned (.slice (some ⟨g, 0, none⟩) (X.length + 1) cap) ∧ w' = (w.drew.setCells g ((i + 1) * 2) (dvs (X.drop i))).setCells g (i * 2) (dv d) := by
  obtain ⟨i0, hi0, hz0, hz1, hz2⟩ := info_parts info_dot
  have hs2 : (Tryz.prog.info? 41).map (·.size) = some 2 := by rw [hi0]; simp [hz1]
  have hsa : w.shape? vb = some (41, 2) := by unfold World.shape?; rw [show w.heap[vb]? = _ from hV]; rfl
  have hsb : w.shape? g = some (41, cap * 2) := by unfold World.shape?; rw [show w.heap[g]? = _ from hB]; simp [hsz]
  have hov : ∀ lb cb, (callFunc 112 #[.slice (some ⟨vb, 0, none⟩) 1 vc, .slice (some ⟨g, (i + 1) * 2, none⟩) lb cb]).run Tryz.prog w = .ok (.value (.bool false)) w := fun lb cb => by
    rw [run_callFunc_extern Tryz.func112 (by kernel_rfl) (by kernel_rfl) (by kernel_rfl) (e := Extern.SlicesOverlaps.overlaps #[30, 30] #[4]) (by kernel_rfl),
      Lib.run_overlaps_apart w 30 4 41 Tryz.underlying30 2 sizeOf_dot ⟨vb, 0, none⟩ ⟨g, (i + 1) * 2, none⟩ 1 vc lb cb hvb _ _ _ _ hsa hsb (by omega) (hV.frozen _) (hV.frozen _)]
    rfl
  have hcg : ∀ j v, (dvs X)[j]? = some v → w.cell? ⟨g, j, none⟩ = some v := fun j v hj => by
    have hjl := (List.getElem?_eq_some_iff.1 hj).1
    rw [dvs_length] at hjl
    rw [hB.cell, ← Array.getElem?_toList]
    rw [← htk, List.getElem?_take, if_pos hjl] at hj
    exact hj
  have hdl := dvs_length (X.drop i)
  rw [List.length_drop] at hdl
  have mixed : Tryz.prog.follows .mixedOrders = true := by kernel_rfl
  have hcp1 : ∀ ty dc sc, (Builtin.copy_ #[30, 30] ty #[.slice (some ⟨g, (i + 1) * 2, none⟩) (X.length - i) dc, .slice (some ⟨g, i * 2, none⟩) (X.length + 1 - i) sc]).run Tryz.prog w.drew = .ok (goInt ((X.length - i : Nat) : Int)) (w.drew.setCells g ((i + 1) * 2) (dvs (X.drop i))) := fun ty dc sc =>
    run_copy_two w.drew _ _ ty 41 g ((i + 1) * 2) (X.length - i) dc ⟨g, i * 2, none⟩ (X.length + 1 - i) sc (X.length - i) (dvs (X.drop i)) Tryz.underlying30 hs2 (by simp only [Nat.min_def]; split <;> omega) hdl
      (fun j v hj => by
        rw [add_plain]
        refine hcg _ _ ?_
        rw [← dvs_drop, List.getElem?_drop] at hj
        exact hj)
      (fun j hj => by
        show (w.cell? _).isSome = true
        rw [hB.cell, Array.getElem?_eq_getElem (by omega)]; rfl) (fun j hj => hB.frozen _) (dvs_one _)
  obtain ⟨W1, hW1⟩ : ∃ W1, W1 = w.drew.setCells g ((i + 1) * 2) (dvs (X.drop i)) := ⟨_, rfl⟩
  have hB1 : Blk W1 g 41 (lay cur.toList ((i + 1) * 2) (dvs (X.drop i))).toArray := by
    rw [hW1]; exact Blk.lay_ (w := w.drew) hB _ _ (by omega)
  have hV1 : Blk W1 vb 41 #[.int .i64 d.1, .int .u64 (d.2 : Int)] := by
    rw [hW1]; exact Blk.grown (w := w.drew) hV (grown_setCells g _ _ _) (by intro e; injection e with e; exact hvb e)
  have hcl : cur.toList.length = cap * 2 := by rw [Array.length_toList]; exact hsz
  have hly := lay_length (l := cur.toList) (o := (i + 1) * 2) (vs := dvs (X.drop i)) (by omega)
  have hcp2 : ∀ ty dc, (Builtin.copy_ #[30, 30] ty #[.slice (some ⟨g, i * 2, none⟩) (X.length + 1 - i) dc, .slice (some ⟨vb, 0, none⟩) 1 vc]).run Tryz.prog W1 = .ok (goInt ((1 : Nat) : Int)) (W1.setCells g (i * 2) (dv d)) := fun ty dc =>
    run_copy_two W1 _ _ ty 41 g (i * 2) (X.length + 1 - i) dc ⟨vb, 0, none⟩ 1 vc 1 (dv d) Tryz.underlying30 hs2 (by simp only [Nat.min_def]; split <;> omega) rfl
      (fun j v hj => by
        rw [add_plain, Nat.zero_add, hV1.cell]
        show (dv d).toArray[j]? = _
        rw [List.getElem?_toArray]
        exact hj)
      (fun j hj => by
        have : j < 2 := hj
        rw [hB1.cell, Array.getElem?_eq_getElem (by rw [List.size_toArray]; omega)]; rfl) (fun j hj => hB1.frozen _) (fun v hv => by simp [dv] at hv; rcases hv with rfl | rfl <;> rfl)
  rw [← hW1] at hcp1
  have hw1 : IntKind.i64.wrap ((i : Int) + 1) = (i : Int) + 1 := by rw [IntKind.wrap_i64]; omega
  have hb1 : (0 : Int) ≤ (i : Int) + 1 := by omega
  have hin : i ≤ X.length := by omega
  have hb3 : (i : Int) ≤ (X.length : Int) + 1 := by omega
  have hb5 : (i : Int) + 1 ≤ (X.length : Int) + 1 := by omega
  have h1 : ¬ ((i : Int) = (X.length : Int)) := by omega
  have h3 : ¬ (cap = i + 1) := by omega
  have h4 : ¬ (cap = i) := by omega
  have h6 : ((i : Int) + 1).toNat = i + 1 := by omega
  have h7 : ((X.length : Int) + 1).toNat = X.length + 1 := by omega
  clear hcg hdl htk
  subst hW1
  go_enter Tryz.func85, Tryz.ntmps85
  go_wp2_with (simp only [hov])
  go_region_law_o (refine step_copy_runI rfl _ _ 30 30 rfl _ _ (by simp [Act.eval, Act.put]) (by simp [Act.eval, Act.put]) (hcp1 _ _ _) ?_)
  go_wp2_with (at_builtin; refine wpList_copy_runI _ rfl _ _ 30 30 rfl _ _ rfl rfl (hcp2 _ _) ?_)
  go_ret
  exact ⟨rfl, rfl⟩
end Go.Proofs.YtldfaaahmpncbaaGreat

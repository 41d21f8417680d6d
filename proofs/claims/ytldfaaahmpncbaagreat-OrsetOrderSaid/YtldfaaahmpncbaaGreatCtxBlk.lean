/-
  Blocks that are written: a whole row laid over one, a context's vector and exceptions stored; results that are a row in a cell and a slot.
-/
import Derived.Test.YtldfaaahmpncbaaGreatCtxApp
import Derived.Laws.Rows
import Derived.Laws.ResultCell
namespace Go.Proofs.YtldfaaahmpncbaaGreat
open Go.RowKit
open CtxM
set_option linter.unusedVariables false
set_option linter.unusedSimpArgs false


theorem grown_refl (w : World) (row : Option Nat) : w.grownBy w row := World.grownBy.refl w row
theorem grown_setCell (w : World) (g i : Nat) (v : Value) : w.grownBy (w.setCell ⟨g, i, none⟩ v) (some g) :=
  ⟨rfl, rfl, rfl, by simp, fun k hk hne => Below.heap_setCell w ⟨g, i, none⟩ v k (fun e => hne (by rw [e]))⟩
theorem grown_setCells (g : Nat) : ∀ (vs : List Value) (i : Nat) (w : World), w.grownBy (w.setCells g i vs) (some g)
  | [], _, w => grown_refl w _
  | v :: vs, i, w => (grown_setCell w g i v).trans (grown_setCells g vs (i + 1) _)
theorem Below.only {B g : Nat} {a w w' : World} (h : Below B a w) (hgr : w.grownBy w' (some g)) (hg : B ≤ g) (hB : B ≤ w.heap.size) : Below B a w' :=
  h.grown hgr hB (fun k hk => by injection hk with hk; omega)

/-- A whole row laid over a block. -/
theorem Blk.setAll {g : Nat} {t : TypeId} : ∀ (vs : List Value) (i : Nat) (w : World) (cs : Array Value), Blk w g t cs → ∃ ds, Blk (w.setCells g i vs) g t ds ∧ ds.size = cs.size ∧ ∀ j, j < cs.size → ds[j]? = if i ≤ j ∧ j < i + vs.length then vs[j - i]? else cs[j]?
  | [], i, w, cs, h => ⟨cs, h, rfl, fun j hj => by rw [if_neg (by intro hh; have := hh.2; simp at this; omega)]⟩
  | v :: vs, i, w, cs, h => by
    obtain ⟨ds, h1, h2, h3⟩ := Blk.setAll (t := t) vs (i + 1) (w.setCell ⟨g, i, none⟩ v) _ (h.set_ i v)
    refine ⟨ds, h1, by simpa using h2, fun j hj => ?_⟩
    rw [h3 j (by simpa using hj)]
    by_cases e : j = i
    · subst e
      rw [if_neg (by omega), if_pos (by simp), Array.getElem?_setIfInBounds_self_of_lt hj, Nat.sub_self]; rfl
    · by_cases e2 : i + 1 ≤ j ∧ j < i + 1 + vs.length
      · rw [if_pos e2, if_pos (by simp; omega)]
        have : j - i = (j - (i + 1)) + 1 := by omega
        rw [this, List.getElem?_cons_succ]
      · rw [if_neg e2, if_neg (by simp; omega), Array.getElem?_setIfInBounds_ne (by omega)]
theorem Blk.setRow {w : World} {g : Nat} {t : TypeId} {cs ds : Array Value} (h : Blk w g t cs) (hs : ds.size = cs.size) : Blk (w.setCells g 0 ds.toList) g t ds := by
  obtain ⟨es, h1, h2, h3⟩ := Blk.setAll (t := t) ds.toList 0 w cs h
  have : es = ds := by
    apply Array.ext_getElem?
    intro j
    by_cases hj : j < cs.size
    · rw [h3 j hj, if_pos (by simp; omega)]; simp
    · rw [Array.getElem?_eq_none (by omega), Array.getElem?_eq_none (by omega)]
  rw [← this]; exact this ▸ h1
theorem Blk.there {w : World} {g : Nat} {t : TypeId} {cs : Array Value} (h : Blk w g t cs) : w.there g 0 cs.size := fun j hj => ⟨by rw [Nat.zero_add, h.cell, Array.getElem?_eq_getElem hj]; rfl, h.frozen _⟩

theorem results_row_tmp {P : Program} {fn : Func} {p u : Tmp} {ty : TypeId} (h : fn.results = #[.cell p ty, .tmp u]) (tmps : Array Value) (w : World) (g : Nat) (t : TypeId) (cs : Array Value) (fr : Nat × Nat) (d : TypeDesc)
    (v : Value) (hp : tmps.getD p undef = .pointer (some ⟨g, 0, none⟩)) (hv : tmps.getD u undef = v) (hg : w.heap[g]? = some (.cells cs t fr))
    (hu : P.underlying ty = some d) (hd : (match d with | .struct _ | .array _ _ => true | _ => false) = true) (hi : (P.info? ty).map (·.size) = some cs.size) :
    (results fn tmps).run P w = .ok (.tuple #[.agg cs, v]) w := by
  rw [results_cell_tmp h, hp, hv]
  simp [asAddr, run_loadVar_row w g t ty cs fr d hg hu hd hi]

def uqs (U : List Nat) : Array Value := (U.map uq).toArray
theorem uqs_size (U : List Nat) : (uqs U).size = U.length := by simp [uqs]
theorem uqs_list (U : List Nat) : (uqs U).toList = U.map uq := rfl
theorem uqs_get (U : List Nat) (k : Nat) (h : k < U.length) : (uqs U)[k]? = some (.int .u64 (U.getD k 0 : Int)) := by
  unfold uqs
  rw [List.getElem?_toArray, List.getElem?_map, List.getD_eq_getElem?_getD, List.getElem?_eq_getElem h]; rfl
theorem uqs_set (U : List Nat) (k n : Nat) : (uqs U).setIfInBounds k (.int .u64 (n : Int)) = uqs (U.set k n) := by
  unfold uqs
  rw [List.setIfInBounds_toArray, List.map_set]; rfl
theorem info_vec : (Tryz.prog.info? 97).map (·.size) = some 16 := by kernel_rfl
theorem uqs_info {U : List Nat} (h : U.length = 16) : (Tryz.prog.info? 97).map (·.size) = some (uqs U).size := by rw [info_vec, uqs_size, h]
theorem uqs_one (U : List Nat) : (uqs U).all (·.oneCell') = true := all_oneCell_toArray fun v hv => by
  obtain ⟨n, _, rfl⟩ := List.mem_map.1 hv; rfl

/-- A context's vector is stored. -/
theorem blk_setVec {w : World} {g : Nat} {t : TypeId} {V U : List Nat} {v : Value} (h : Blk w g t (cxc V v)) (hV : V.length = 16) (hU : U.length = 16) : Blk (w.setCells g 1 (uqs U).toList) g t (cxc U v) := by
  obtain ⟨es, h1, h2, h3⟩ := Blk.setAll (t := t) (uqs U).toList 1 w _ h
  have hs := cxc_size hV v
  have : es = cxc U v := by
    apply Array.ext_getElem?
    intro j
    by_cases hj : j < 18
    · rw [h3 j (by omega), uqs_list, List.length_map, hU]
      unfold cxc
      simp only [List.getElem?_toArray]
      rcases Nat.eq_zero_or_pos j with h0 | h0
      · subst h0; rw [if_neg (by omega)]; rfl
      · obtain ⟨k, rfl⟩ : ∃ k, j = k + 1 := ⟨j - 1, by omega⟩
        rw [Nat.add_sub_cancel, List.getElem?_cons_succ, List.getElem?_cons_succ]
        by_cases hk : k < 16
        · rw [if_pos (by omega), List.getElem?_append_left (by simpa [hU] using hk)]
        · obtain rfl : k = 16 := by omega
          rw [if_neg (by omega), List.getElem?_append_right (by simp [hV]), List.getElem?_append_right (by simp [hU])]
          simp [hV, hU]
    · rw [Array.getElem?_eq_none (by omega), Array.getElem?_eq_none (by rw [cxc_size hU]; omega)]
  rw [← this]; exact h1
theorem blk_setExtra {w : World} {g : Nat} {t : TypeId} {V : List Nat} {v : Value} (h : Blk w g t (cxc V v)) (hV : V.length = 16) (u : Value) : Blk (w.setCell ⟨g, 17, none⟩ u) g t (cxc V u) := by
  have := h.set_ 17 u
  have e : (cxc V v).setIfInBounds 17 u = cxc V u := by
    unfold cxc
    rw [List.setIfInBounds_toArray]
    congr 1
    rw [List.set_cons_succ, List.set_append, if_neg (by simp [hV])]
    simp [hV]
  rw [e] at this
  exact this
theorem blk_setOne {w : World} {g : Nat} {t : TypeId} {V : List Nat} {v : Value} (h : Blk w g t (cxc V v)) (k n : Nat) (hk : k < V.length) : Blk (w.setCell ⟨g, 1 + k, none⟩ (.int .u64 (n : Int))) g t (cxc (V.set k n) v) := by
  have := h.set_ (1 + k) (.int .u64 (n : Int))
  have e : (cxc V v).setIfInBounds (1 + k) (.int .u64 (n : Int)) = cxc (V.set k n) v := by
    unfold cxc
    rw [List.setIfInBounds_toArray]
    congr 1
    rw [show 1 + k = k + 1 by omega, List.set_cons_succ, List.set_append, if_pos (by simpa using hk), List.map_set]
    rfl
  rw [e] at this
  exact this
theorem blk_thereVec {w : World} {g : Nat} {t : TypeId} {V : List Nat} {v : Value} (h : Blk w g t (cxc V v)) (hV : V.length = 16) {U : List Nat} (hU : U.length = 16) : w.there g 1 (uqs U).size := by
  intro j hj
  rw [uqs_size, hU] at hj
  refine ⟨?_, h.frozen _⟩
  rw [h.cell, Array.getElem?_eq_getElem (by rw [cxc_size hV]; omega)]; rfl
end Go.Proofs.YtldfaaahmpncbaaGreat

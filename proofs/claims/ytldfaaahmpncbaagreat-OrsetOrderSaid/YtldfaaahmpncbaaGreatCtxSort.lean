/-
  The library's sort at dots: the row holds the same dots, in order.
-/
import Derived.Test.YtldfaaahmpncbaaGreatCtxSortLay
import Derived.Test.YtldfaaahmpncbaaGreatCtxUniq
import Derived.Test.YtldfaaahmpncbaaGreatCtxTurn
import Derived.Shelf.SlSortCmp.NoneTotal
namespace Go.Proofs.YtldfaaahmpncbaaGreat
open Go.RowKit Go.Sort
open CtxM
set_option linter.unusedVariables false
set_option linter.unusedSimpArgs false
set_option maxRecDepth 20000

theorem swo_dot : SWO (ltOf cD) where
  irrefl x := by
    have : cD x x = 0 := (cD_eq x x).2 rfl
    simp [ltOf, this]
  trans x y z h1 h2 := by
    simp only [ltOf, decide_eq_true_iff] at *
    exact (cD_lt x z).2 (((cD_lt x y).1 h1).trans ((cD_lt y z).1 h2))
  ntrans x y z h1 h2 := by
    simp only [ltOf, decide_eq_false_iff_not, cD_lt] at *
    intro h
    rcases Lt.tri x y with a | a | a
    · exact h1 a
    · subst a; exact h2 h
    · exact h2 (a.trans h)
theorem cmp_dot (blk off size : Nat) (w : World) : CmpLays Tryz.prog 111 #[] dv 2 cD blk off size w := by
  intro m os dk _ x y
  exact inTurn_any x y _

/-- What a row holds when its cells are others. -/
theorem OwnD.put {w : World} {base g cap n : Nat} {L : List Dt} (h : OwnD w base (.slice (some ⟨g, 0, none⟩) n cap) L) (d : Array Dt) (hd : d.size = L.length) (m : Nat) (os : Array Obj) :
    HoldsK dv 2 w g 0 L.toArray ∧ OwnD (sortWorldK dv 2 w g 0 m d os) base (.slice (some ⟨g, 0, none⟩) n cap) d.toList ∧ w.grownBy (sortWorldK dv 2 w g 0 m d os) (some g) := by
  have hlt := h.lt g rfl
  have hall := h.thereAll
  have hsd := h.sd
  rcases h.2 with ⟨h2, _⟩ | ⟨g', cap', cur, hv, hg, hh, hnc, hcm, hs, ht⟩
  · cases h2
  · injection hv with e1 e2 e3
    injection e1 with e1
    injection e1 with e1
    subst e1; subst e2; subst e3
    have hB : Blk w g 41 cur := hh
    have hcell : ∀ (j : Nat) (hj : j < L.length * 2), cur[j]? = (dvs L)[j]? := by
      intro j hj
      rw [← ht, List.getElem?_take, if_pos hj, Array.getElem?_toList]
    have hflat : ∀ (M : Array Dt) (j : Nat), j < M.size * 2 → (dvs M.toList)[j]? = some (flatK dv 2 M)[j]! := by
      intro M j hj
      rw [get_flatK _ _ _ _ hj]
      obtain ⟨k, hk | hk⟩ : ∃ k, j = k * 2 ∨ j = k * 2 + 1 := ⟨j / 2, by omega⟩
      · subst hk
        rw [(dvs_get M.toList k (by have := Array.length_toList (xs := M); omega)).1, show k * 2 / 2 = k by omega, Nat.mul_mod_left, getElem!_pos M k (by omega)]
        rfl
      · subst hk
        rw [(dvs_get M.toList k (by have := Array.length_toList (xs := M); omega)).2, show (k * 2 + 1) / 2 = k by omega, show (k * 2 + 1) % 2 = 1 by omega, getElem!_pos M k (by omega)]
        rfl
    have hH : HoldsK dv 2 w g 0 L.toArray := by
      intro j hj
      rw [size_flatK, List.size_toArray] at hj
      refine ⟨?_, by rw [Nat.zero_add]; exact (hall j hj).2⟩
      rw [Nat.zero_add, hB.cell, hcell j hj]
      exact hflat L.toArray j (by simpa using hj)
    refine ⟨hH, ?_, ?_⟩
    · have hblk : (sortWorldK dv 2 w g 0 m d os).heap[g]? = some (.cells (putCells id 0 (flatK dv 2 d) cur) 41 (0, 0)) := by
        unfold sortWorldK grow putRowK putRow mapBlock
        rw [Array.getElem?_append_left (by simpa using hlt.2), Array.getElem?_modify, if_pos rfl]
        show Option.map _ (w.heap[g]?) = _
        rw [hh]; rfl
      have hdl : d.toList.length = L.length := (Array.length_toList (xs := d)).trans hd
      refine ⟨dvs_length _, .inr ⟨g, cap, _, by rw [hdl], hg, hblk, by rw [hdl]; exact hnc, hcm, by simp [putCells, hs], ?_⟩⟩
      rw [hdl]
      apply List.ext_getElem?
      intro j
      rw [List.getElem?_take]
      by_cases hj : j < L.length * 2
      · rw [if_pos hj, hflat d j (by rw [hd]; exact hj), Array.getElem?_toList, putCells, Array.getElem?_mapIdx, Array.getElem?_eq_getElem (by omega)]
        simp only [Option.map_some, Nat.zero_add, size_flatK, hd, Nat.zero_le, true_and, hj, if_true, Nat.sub_zero, id]
      · rw [if_neg hj, List.getElem?_eq_none (by rw [dvs_length, hdl]; omega)]
    · refine ⟨rfl, rfl, rfl, ?_, fun k hk hn => ?_⟩
      · unfold sortWorldK
        rw [size_grow, size_putRowK]
        exact Nat.le_add_right _ _
      · unfold sortWorldK
        rw [heap_grow_old _ _ (by rw [size_putRowK]; exact hk)]
        unfold putRowK putRow mapBlock
        show (w.heap.modify g _)[k]? = _
        rw [Array.getElem?_modify, if_neg (fun e => hn (by rw [e]))]

set_option maxHeartbeats 1000000 in
theorem sort_any (v : Value) (L : List Dt) (base : Nat) (w : World) (ho : OwnD w base v L) (hl : L.length ≤ 100000) :
    Calls Tryz.prog 100 #[v, .func (.func 111) #[] #[]] w fun e w' => e = .returned (.tuple #[]) ∧ ∃ M, OwnD w' base v M ∧ Ord M ∧ M.length = L.length ∧ (∀ d, d ∈ M ↔ d ∈ L) ∧ w.grownBy w' v.ownBlock := by
  have ho2 := ho
  rcases ho.2 with ⟨rfl, h0⟩ | ⟨g, cap, cur, rfl, hg, hh, _⟩
  · obtain rfl : L = [] := List.eq_nil_of_length_eq_zero h0
    refine (AnyF.slices_SortFunc_none { Tryz.sortD with } none 0 _ w).mono ?_
    rintro e w' ⟨rfl, rfl⟩
    exact ⟨rfl, [], OwnD.nil, List.Pairwise.nil, rfl, fun d => Iff.rfl, World.grownBy.refl _ _⟩
  · have hlt := ho.lt g rfl
    have hH := (ho.put L.toArray (by simp) 0 #[]).1
    have eg : ∀ args w, (callFunc 111 args).run Tryz.prog w = .ok (.enter 111 args) w := enters_of Tryz.func111 (by kernel_rfl) rfl
    have hcon := AnyQ.slices_SortFunc Tryz.sortD 2 Tryz.isAgg41 Tryz.sizeOf41 dv (fun _ => rfl) (fun x u hu => by simp [dv] at hu; rcases hu with rfl | rfl <;> rfl) cD swo_dot 111 #[] g 0 cap L.toArray w eg (cmp_dot g 0 _ w) hH hlt.2 (by simp; omega)
    refine hcon.mono ?_
    rintro e w' ⟨rfl, d', n, os, hp, hs, rfl⟩
    have hd : d'.size = L.length := by simpa using hp.1
    obtain ⟨_, h2, h3⟩ := ho.put d' hd n os
    refine ⟨rfl, d'.toList, h2, ?_, (Array.length_toList (xs := d')).trans hd, fun d => ?_, h3⟩
    · refine List.pairwise_iff_getElem.2 fun i j hi hj hij => ?_
      have hi' : i < d'.size := by simpa using hi
      have hj' : j < d'.size := by simpa using hj
      have := hs i j (Nat.zero_le _) hij (by rw [List.size_toArray, ← hd]; exact hj')
      rw [getElem!_pos d' i hi', getElem!_pos d' j hj'] at this
      simp only [ltOf, decide_eq_false_iff_not, cD_lt] at this
      simpa using this
    · have h5 := hp.2.2.mem_iff (a := d)
      have e1 : d'.extract 0 L.toArray.size = d' := by rw [List.size_toArray, ← hd]; simp
      have e2 : L.toArray.extract 0 L.toArray.size = L.toArray := by simp
      rw [e1, e2] at h5
      simpa using h5
end Go.Proofs.YtldfaaahmpncbaaGreat

/-
  The walk of slices.Compact at dots: of a list in order each dot once.
-/
import Derived.Test.YtldfaaahmpncbaaGreatCtxIns
import Derived.Test.YtldfaaahmpncbaaGreatCtxEq
import Derived.Test.YtldfaaahmpncbaaGreatCtxRefA
namespace Go.Proofs.YtldfaaahmpncbaaGreat
open Go.RowKit
open CtxM
set_option linter.unusedVariables false
set_option linter.unusedSimpArgs false
set_option maxRecDepth 20000

/-- No later one stands ahead of an earlier one. -/
def Ord (L : List Dt) : Prop := L.Pairwise fun a b => ¬ Lt b a
/-- Of the first m dots each once. -/
structure Uq (L : List Dt) (m : Nat) (P : List Dt) : Prop where
  rise : Rise P
  mem : ∀ d, d ∈ P ↔ d ∈ L.take m
  len : P.length ≤ m
theorem ord_lt {L : List Dt} (h : Ord L) {i j : Nat} (hij : i < j) (hj : j < L.length) : ¬ Lt L[j] (L[i]'(by omega)) := (List.pairwise_iff_getElem.1 h) i j (by omega) hj hij
theorem Uq.skip {L P : List Dt} {m : Nat} (h : Uq L m P) (hm : m < L.length) (h0 : 0 < m) (he : L[m] = L[m - 1]'(by omega)) : Uq L (m + 1) P := by
  refine ⟨h.rise, fun d => ?_, by have := h.len; omega⟩
  rw [h.mem, List.take_succ_eq_append_getElem hm, List.mem_append, List.mem_singleton]
  constructor
  · exact .inl
  · rintro (h1 | h1)
    · exact h1
    · rw [h1, he]
      exact List.mem_take_iff_getElem.2 ⟨m - 1, by omega, rfl⟩
theorem Uq.keep {L P : List Dt} {m : Nat} (h : Uq L m P) (ho : Ord L) (hm : m < L.length) (h0 : 0 < m) (he : L[m] ≠ L[m - 1]'(by omega)) : Uq L (m + 1) (P ++ [L[m]]) := by
  refine ⟨?_, fun d => ?_, by have := h.len; simp; omega⟩
  · unfold Rise
    rw [List.pairwise_append]
    refine ⟨h.rise, List.pairwise_singleton _ _, fun a ha b hb => ?_⟩
    rw [List.mem_singleton] at hb
    subst hb
    obtain ⟨i, hi, rfl⟩ := List.mem_take_iff_getElem.1 ((h.mem a).1 ha)
    have hi1 : i < m := by omega
    have h1 : Lt (L[m - 1]'(by omega)) L[m] := by
      rcases Lt.tri (L[m - 1]'(by omega)) L[m] with x | x | x
      · exact x
      · exact absurd x.symm he
      · exact absurd x (ord_lt ho (by omega) hm)
    rcases Nat.lt_or_ge i (m - 1) with hlt | hge
    · rcases Lt.tri L[i] (L[m - 1]'(by omega)) with x | x | x
      · exact x.trans h1
      · rw [x]; exact h1
      · exact absurd x (ord_lt ho hlt (by omega))
    · have : i = m - 1 := by omega
      subst this
      exact h1
  · rw [List.mem_append, List.mem_singleton, h.mem, List.take_succ_eq_append_getElem hm, List.mem_append, List.mem_singleton]
theorem uq_all {L : List Dt} (ho : Ord L) {k : Nat} (hk : k ≤ L.length) (h : ∀ j (h1 : j < L.length), 1 ≤ j → j < k → L[j] ≠ L[j - 1]) : Uq L k (L.take k) := by
  induction k with
  | zero => exact ⟨by simp [Rise], by simp, by simp⟩
  | succ k ih =>
    have ih := ih (by omega) (fun j h1 h2 h3 => h j h1 h2 (by omega))
    have hkl : k < L.length := by omega
    rcases Nat.eq_zero_or_pos k with rfl | h0
    · refine ⟨?_, fun d => Iff.rfl, by simp; omega⟩
      rw [List.take_succ_eq_append_getElem hkl]
      simp [Rise]
    · have := ih.keep ho hkl h0 (h k hkl h0 (by omega))
      rw [List.take_succ_eq_append_getElem hkl]
      exact this

/-- A dot of a row set. -/
theorem OwnD.set {w : World} {base g cap n : Nat} {L : List Dt} (h : OwnD w base (.slice (some ⟨g, 0, none⟩) n cap) L) (i : Nat) (hi : i < L.length) (d : Dt) :
    OwnD (w.setCells g (i * 2) [.int .i64 d.1, .int .u64 (d.2 : Int)]) base (.slice (some ⟨g, 0, none⟩) n cap) (L.set i d) := by
  rcases h.2 with ⟨h2, _⟩ | ⟨g', cap', cur, hv, hg, hh, hnc, hcm, hs, ht⟩
  · cases h2
  · injection hv with e1 e2 e3
    injection e1 with e1
    injection e1 with e1
    subst e1; subst e2; subst e3
    have hB : Blk w g 41 cur := hh
    have hB2 := hB.lay_ (i * 2) [.int .i64 d.1, .int .u64 (d.2 : Int)] (by simp; omega)
    refine ⟨dvs_length _, .inr ⟨g, cap, _, by rw [List.length_set], hg, hB2, by rw [List.length_set]; exact hnc, hcm, ?_, ?_⟩⟩
    · rw [List.size_toArray, lay_length (by simp; omega), Array.length_toList, hs]
    · rw [List.length_set]
      have e : dvs (L.set i d) = lay (dvs L) (i * 2) (dv d) := by
        rw [List.set_eq_take_append_cons_drop, if_pos hi, dvs_append, ← dvs_take]
        show (dvs L).take (i * 2) ++ (dv d ++ dvs (L.drop (i + 1))) = _
        rw [← dvs_drop, lay, List.append_assoc, show i * 2 + (dv d).length = (i + 1) * 2 by simp [dv]; omega]
      rw [e, ← ht]
      have hcl : cur.toList.length = cap * 2 := by rw [Array.length_toList, hs]
      show (lay cur.toList (i * 2) (dv d)).take (L.length * 2) = lay (cur.toList.take (L.length * 2)) (i * 2) (dv d)
      unfold lay
      have hdl : (dv d).length = 2 := rfl
      rw [List.take_append, List.take_append, List.length_append, List.length_take, hdl, hcl, List.take_take, List.take_take, List.take_drop]
      rw [show min (L.length * 2) (i * 2) = i * 2 by omega, show min (i * 2) (L.length * 2) = i * 2 by omega]
      rw [List.take_of_length_le (l := dv d) (by rw [hdl]; omega)]
      rw [show i * 2 + 2 + (L.length * 2 - (min (i * 2) (cap * 2) + 2)) = L.length * 2 by omega]
theorem OwnD.cut {w : World} {base g cap n : Nat} {L : List Dt} (h : OwnD w base (.slice (some ⟨g, 0, none⟩) n cap) L) (k : Nat) (hk : k ≤ L.length) : OwnD w base (.slice (some ⟨g, 0, none⟩) k cap) (L.take k) := by
  rcases h.2 with ⟨h2, _⟩ | ⟨g', cap', cur, hv, hg, hh, hnc, hcm, hs, ht⟩
  · cases h2
  · injection hv with e1 e2 e3
    injection e1 with e1
    injection e1 with e1
    subst e1; subst e2; subst e3
    have hkl : (L.take k).length = k := by rw [List.length_take]; omega
    refine ⟨dvs_length _, .inr ⟨g, cap, cur, by rw [hkl], hg, hh, by rw [hkl]; omega, hcm, hs, ?_⟩⟩
    rw [hkl, ← dvs_take, ← ht, List.take_take, show min (k * 2) (L.length * 2) = k * 2 by omega]
theorem OwnD.there {w : World} {base g cap n : Nat} {L : List Dt} (h : OwnD w base (.slice (some ⟨g, 0, none⟩) n cap) L) (i : Nat) (hi : i < L.length) : w.there g (i * 2) 2 := by
  rcases h.2 with ⟨h2, _⟩ | ⟨g', cap', cur, hv, hg, hh, hnc, hcm, hs, ht⟩
  · cases h2
  · injection hv with e1 e2 e3
    injection e1 with e1
    injection e1 with e1
    subst e1; subst e2; subst e3
    have hB : Blk w g 41 cur := hh
    intro j hj
    exact ⟨by rw [hB.cell, Array.getElem?_eq_getElem (by omega)]; rfl, hB.frozen _⟩
theorem OwnD.thereAll {w : World} {base g cap n : Nat} {L : List Dt} (h : OwnD w base (.slice (some ⟨g, 0, none⟩) n cap) L) (j : Nat) (hj : j < L.length * 2) : (w.cell? ⟨g, j, none⟩).isSome = true ∧ w.frozen? ⟨g, j, none⟩ = false := by
  rcases h.2 with ⟨h2, _⟩ | ⟨g', cap', cur, hv, hg, hh, hnc, hcm, hs, ht⟩
  · cases h2
  · injection hv with e1 e2 e3
    injection e1 with e1
    injection e1 with e1
    subst e1; subst e2; subst e3
    have hB : Blk w g 41 cur := hh
    exact ⟨by rw [hB.cell, Array.getElem?_eq_getElem (by omega)]; rfl, hB.frozen _⟩
def zds (n : Nat) : List Value := dvs (List.replicate n ((0 : Int), 0))
theorem zero_list (n : Nat) : (Builtin.zeroCells (Value.agg #[.int .i64 0, .int .u64 0]).cells n).toList = zds n := by
  unfold Builtin.zeroCells zds
  apply List.ext_getElem?
  intro j
  rw [Array.toList_map, Array.toList_range, List.getElem?_map]
  have hsz : (Value.agg #[.int .i64 0, .int .u64 0]).cells.size = 2 := rfl
  rw [hsz]
  by_cases hj : j < n * 2
  · rw [List.getElem?_range hj]
    obtain ⟨k, hk | hk⟩ : ∃ k, j = k * 2 ∨ j = k * 2 + 1 := ⟨j / 2, by omega⟩
    · subst hk
      have := (dvs_get (List.replicate n ((0 : Int), 0)) k (by rw [List.length_replicate]; omega)).1
      rw [this, Option.map_some, Nat.mul_mod_left]
      simp; rfl
    · subst hk
      have := (dvs_get (List.replicate n ((0 : Int), 0)) k (by rw [List.length_replicate]; omega)).2
      rw [this, Option.map_some, show (k * 2 + 1) % 2 = 1 by omega]
      simp; rfl
  · rw [List.getElem?_eq_none (by rw [List.length_range]; omega), List.getElem?_eq_none (by rw [dvs_length, List.length_replicate]; omega)]
    rfl
theorem run_clear_dots {P : Program} (w : World) (t e ty : TypeId) (ht : P.underlying t = some (.slice e)) (hv : ∀ w, (zeroValue e).run P w = .ok (.agg #[.int .i64 0, .int .u64 0]) w) (b o n c : Nat) (hn : 0 < n)
    (hc : ∀ j, j < n * 2 → (w.cell? ⟨b, o + j, none⟩).isSome = true) (hf : ∀ j, j < n * 2 → w.frozen? ⟨b, o + j, none⟩ = false) :
    (Builtin.clear_ #[t] ty #[.slice (some ⟨b, o, none⟩) n c]).run P w = .ok (.tuple #[]) (w.setCells b o (zds n)) := by
  have hl : (zds n).length = n * 2 := by unfold zds; rw [dvs_length, List.length_replicate]
  have hst := run_storeCells_cells (P := P) b o (zds n) 0 w (by rw [hl]; simpa using hc) (by rw [hl]; simpa using hf) (dvs_one _)
  simp only [Nat.add_zero] at hst
  obtain ⟨m, rfl⟩ : ∃ m, n = m + 1 := ⟨n - 1, by omega⟩
  simp only [Builtin.clear_, List.getElem?_toArray, List.getElem?_cons_zero, Sem.run_bind, run_underlying ht, Result.andThen_ok, hv, zero_list, hst, Sem.run_pure]

theorem zds_set {w : World} {base g cap n : Nat} {L : List Dt} (h : OwnD w base (.slice (some ⟨g, 0, none⟩) n cap) L) (k m : Nat) (hk : k + m = L.length) :
    OwnD (w.setCells g (k * 2) (zds m)) base (.slice (some ⟨g, 0, none⟩) k cap) (L.take k) := by
  rcases h.2 with ⟨h2, _⟩ | ⟨g', cap', cur, hv, hg, hh, hnc, hcm, hs, ht⟩
  · cases h2
  · injection hv with e1 e2 e3
    injection e1 with e1
    injection e1 with e1
    subst e1; subst e2; subst e3
    have hB : Blk w g 41 cur := hh
    have hz : (zds m).length = m * 2 := by unfold zds; rw [dvs_length, List.length_replicate]
    have hB2 := hB.lay_ (k * 2) (zds m) (by rw [hz]; omega)
    have hkl : (L.take k).length = k := by rw [List.length_take]; omega
    have hcl : cur.toList.length = cap * 2 := by rw [Array.length_toList, hs]
    refine ⟨dvs_length _, .inr ⟨g, cap, _, by rw [hkl], hg, hB2, by rw [hkl]; omega, hcm, ?_, ?_⟩⟩
    · rw [List.size_toArray, lay_length (by rw [hz]; omega), hcl]
    · rw [hkl, ← dvs_take, ← ht, List.take_take, show min (k * 2) (L.length * 2) = k * 2 by omega]
      show (lay cur.toList (k * 2) (zds m)).take (k * 2) = _
      unfold lay
      rw [List.append_assoc, List.take_append_of_le_length (by rw [List.length_take]; omega), List.take_take, Nat.min_self]

theorem grown_drewN (w : World) (n : Nat) (row : Option Nat) : w.grownBy (w.drewN n) row := ⟨rfl, rfl, rfl, Nat.le_refl _, fun _ _ _ => rfl⟩
theorem grown_then {a b c : World} {row : Option Nat} (h : a.grownBy b row) (k : b.grownBy c row) : a.grownBy c row :=
  ⟨k.os.trans h.os, k.tape.trans h.tape, k.output.trans h.output, Nat.le_trans h.size k.size, fun i hi hn => (k.block i (Nat.lt_of_lt_of_le hi h.size) hn).trans (h.block i hi hn)⟩

end Go.Proofs.YtldfaaahmpncbaaGreat

/-
  The walk of ctx's ofRegion.
-/
import Derived.Test.YtldfaaahmpncbaaGreatCtxSearch
namespace Go.Proofs.YtldfaaahmpncbaaGreat
open Go.RowKit
open CtxM
set_option linter.unusedVariables false
set_option linter.unusedSimpArgs false

theorem rise_cut : ∀ {L : List Dt} (hr : Rise L) (d : Dt), (L.filter fun x => decide (Lt x d)) = L.take (cnt L d) ∧ (L.filter fun x => decide (¬ Lt x d)) = L.drop (cnt L d)
  | [], _, d => by simp [cnt]
  | a :: L, hr, d => by
    obtain ⟨h1, h2⟩ := List.pairwise_cons.1 hr
    obtain ⟨i1, i2⟩ := rise_cut h2 d
    by_cases h : Lt a d
    · have e : cnt (a :: L) d = cnt L d + 1 := by unfold cnt; rw [List.filter_cons_of_pos (by simpa using h), List.length_cons]
      rw [e, List.filter_cons_of_pos (by simpa using h), List.filter_cons_of_neg (by simpa using h), List.take_succ_cons, List.drop_succ_cons, i1, i2]
      exact ⟨rfl, rfl⟩
    · have e0 : (L.filter fun x => decide (Lt x d)) = [] := by
        rw [List.filter_eq_nil_iff]
        intro x hx hxd
        exact h ((h1 x hx).trans (by simpa using hxd))
      have e : cnt (a :: L) d = 0 := by unfold cnt; rw [List.filter_cons_of_neg (by simpa using h), e0]; rfl
      have e1 : cnt L d = 0 := by unfold cnt; rw [e0]; rfl
      rw [e1] at i2
      rw [e, List.filter_cons_of_neg (by simpa using h), List.filter_cons_of_pos (by simpa using h), e0, i2]
      exact ⟨rfl, rfl⟩
theorem lt_zero (x : Dt) (r : Int) : Lt x (r, 0) ↔ x.1 < r := by unfold Lt; simp
theorem cnt_le (L : List Dt) (d : Dt) : cnt L d ≤ L.length := by unfold cnt; exact List.length_filter_le _ _
theorem cnt_mono (L : List Dt) (r : Int) : cnt L (r, 0) ≤ cnt L (r + 1, 0) := by
  unfold cnt
  rw [← List.countP_eq_length_filter, ← List.countP_eq_length_filter]
  exact List.countP_mono_left fun x _ h => by
    rw [decide_eq_true_iff, lt_zero] at *
    omega
theorem region_cut {L : List Dt} (hr : Rise L) (r : Int) : ((L.take (cnt L (r + 1, 0))).drop (cnt L (r, 0))) = L.filter fun x => decide (x.1 = r) := by
  rw [← (rise_cut hr (r + 1, 0)).1]
  have h2 : Rise (L.filter fun x => decide (Lt x (r + 1, 0))) := List.Pairwise.filter _ hr
  have e : cnt L (r, 0) = cnt (L.filter fun x => decide (Lt x (r + 1, 0))) (r, 0) := by
    unfold cnt
    rw [List.filter_filter]
    congr 1
    refine List.filter_congr fun x _ => ?_
    rw [Bool.eq_iff_iff, Bool.and_eq_true]
    simp only [decide_eq_true_iff, lt_zero]
    omega
  rw [e, ← (rise_cut h2 (r, 0)).2, List.filter_filter]
  refine List.filter_congr fun x _ => ?_
  rw [Bool.eq_iff_iff, Bool.and_eq_true]
  simp only [decide_eq_true_iff, lt_zero]
  omega

set_option maxHeartbeats 400000 in
theorem ofRegion_any (v : Value) (L : List Dt) (r : Int) (w : World) (hs : Sd w v L) (hl : L.length ≤ 100000) (hr : Rise L) (h0 : -1000 ≤ r) (h1 : r ≤ 1000) :
    Calls Tryz.prog 109 #[v, .int .i64 r] w fun e w' => ∃ v', e = .returned v' ∧ (∀ W, Sd W v L → Sd W v' (L.filter fun x => decide (x.1 = r))) ∧ Grw w w' := by
  have hb1 := fun W (hg : Grw w W) => search_any v L (r, 0) W (hs.below hg.below) hl hr
  have hb2 := fun W (hg : Grw w W) => search_any v L (r + 1, 0) W (hs.below hg.below) hl hr
  have hcut := region_cut hr r
  have hm := cnt_mono L r
  have hle := cnt_le L (r + 1, 0)
  have H := Lib.hid hcut
  clear hcut
  generalize cnt L (r, 0) = i at hb1 H hm
  generalize cnt L (r + 1, 0) = j at hb2 H hm hle
  generalize decide ((r, 0) ∈ L) = p1 at hb1
  generalize decide ((r + 1, 0) ∈ L) = p2 at hb2
  obtain ⟨A, c, rfl, hc, ha⟩ := id hs
  have HS := Lib.hid hs
  have HA := Lib.hid ha
  clear hs ha
  go_enter Tryz.func109, Tryz.ntmps109
  go_wp2_with fail
  refine (hb1 _ (Grw.refl w)).mono ?_
  rintro e w1 ⟨rfl, hg1⟩
  go_wp2_with fail
  refine (hb2 _ hg1).mono ?_
  rintro e w2 ⟨rfl, hg2⟩
  clear hb1 hb2
  go_wp2
  · go_ret
    have hcut := H.out
    have hij : i = j := by omega
    subst hij
    refine ⟨_, rfl, fun W hs => ?_, hg1.trans hg2⟩
    rw [← hcut, List.drop_of_length_le (by rw [List.length_take]; omega), Nat.sub_self]
    exact Sd.nil _ _
  · go_ret
    have hcut := H.out
    refine ⟨_, rfl, fun W hs => ?_, hg1.trans hg2⟩
    rw [← hcut]
    refine hs.sub i j hm hle _ (fun b o e _ => ?_) (by omega)
    subst e
    exact congrArg some (add_plain b o (i * 2))
end Go.Proofs.YtldfaaahmpncbaaGreat

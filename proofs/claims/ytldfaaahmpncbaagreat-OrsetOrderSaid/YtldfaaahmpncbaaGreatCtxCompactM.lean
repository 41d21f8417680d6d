/-
  What ctx's compact makes, region by region, as plain functions.
-/
import Derived.Test.YtldfaaahmpncbaaGreatCtxMath
namespace Go.Proofs.YtldfaaahmpncbaaGreat.CtxM
set_option linter.unusedVariables false
set_option linter.unusedSimpArgs false

theorem filter_step {L : List Dt} (h : Rise L) (r : Int) : (L.filter fun x => decide (x.1 ≤ r + 1)) = (L.filter fun x => decide (x.1 ≤ r)) ++ L.filter fun x => decide (x.1 = r + 1) := by
  induction L with
  | nil => rfl
  | cons a L ih =>
    obtain ⟨h1, h2⟩ := List.pairwise_cons.1 h
    have ih := ih h2
    by_cases ha : a.1 ≤ r
    · rw [List.filter_cons_of_pos (by simp; omega), List.filter_cons_of_pos (by simpa using ha), List.filter_cons_of_neg (by simp; omega), ih]; rfl
    · have e0 : (L.filter fun x => decide (x.1 ≤ r)) = [] := by
        rw [List.filter_eq_nil_iff]
        intro x hx
        have := h1 x hx
        unfold Lt at this
        simp; omega
      rw [e0, List.nil_append] at ih
      by_cases hb : a.1 = r + 1
      · rw [List.filter_cons_of_pos (by simp; omega), List.filter_cons_of_neg (by simpa using ha), List.filter_cons_of_pos (by simpa using hb), ih, e0]; rfl
      · rw [List.filter_cons_of_neg (by simp; omega), List.filter_cons_of_neg (by simpa using ha), List.filter_cons_of_neg (by simpa using hb), ih, e0]; rfl

/-- The first i numbers of W, V's behind them. -/
def Mix (W V U : List Nat) (i : Nat) : Prop := U.length = 16 ∧ ∀ k : Nat, k < 16 → U.getD k 0 = if k < i then W.getD k 0 else V.getD k 0
theorem Mix.start {V : List Nat} (hV : V.length = 16) (W : List Nat) : Mix W V V 0 := ⟨hV, fun k _ => by rw [if_neg (by omega)]⟩
theorem Mix.last {W V U : List Nat} (h : Mix W V U 16) (hW : W.length = 16) : U = W := by
  refine List.ext_getElem (by rw [h.1, hW]) fun k h1 h2 => ?_
  have := h.2 k (by rw [h.1] at h1; exact h1)
  rw [if_pos (by rw [h.1] at h1; exact h1)] at this
  simpa [List.getD_eq_getElem?_getD, List.getElem?_eq_getElem h1, List.getElem?_eq_getElem h2] using this
theorem Mix.next {W V U : List Nat} {i : Nat} (h : Mix W V U i) (hi : i < 16) : Mix W V (U.set i (W.getD i 0)) (i + 1) := by
  refine ⟨by rw [List.length_set]; exact h.1, fun k hk => ?_⟩
  rw [List.getD_eq_getElem?_getD, List.getElem?_set]
  by_cases e : i = k
  · subst e
    rw [if_pos rfl, if_pos (by rw [h.1]; exact hi), if_pos (by omega)]; rfl
  · rw [if_neg e, ← List.getD_eq_getElem?_getD, h.2 k hk]
    by_cases hki : k < i
    · rw [if_pos hki, if_pos (by omega)]
    · rw [if_neg hki, if_neg (by omega)]
theorem Mix.get {W V U : List Nat} {i : Nat} (h : Mix W V U i) (hi : i < 16) : U.getD i 0 = at_ V ((i : Int) + 1) := by
  rw [h.2 i hi, if_neg (by omega), at_, show ((i : Int) + 1 - 1).toNat = i by omega]

theorem fr_break {n : Nat} {M : List Dt} (hM : M.Pairwise fun a b => a.2 < b.2) {d : Dt} {M' : List Dt} (e : M = d :: M') (h : n + 1 < d.2) : fr n M = (n, M) := by
  subst e
  refine fr_all _ _ fun x hx => ?_
  rcases List.mem_cons.1 hx with y | y
  · subst y; exact h
  · have := (List.pairwise_cons.1 hM).1 x y; omega
theorem fr_up {n : Nat} {d : Dt} {M : List Dt} (h : d.2 = n + 1) : fr n (d :: M) = fr (n + 1) M := by rw [fr, if_pos h]
theorem fr_by {n : Nat} {d : Dt} {M : List Dt} (h : d.2 ≤ n) : fr n (d :: M) = fr n M := by rw [fr, if_neg (by omega), if_neg (by omega)]
end Go.Proofs.YtldfaaahmpncbaaGreat.CtxM

/-
  Contexts as sets: the same dots in any order; who covers whom. Plain.
-/
import Derived.Test.YtoglhpcboonpeaaCtxCovers
namespace Go.Proofs.Ytoglhpcboonpeaa
open CtxM
set_option linter.unusedVariables false

/-- Only which dots there are matters. -/
theorem addAll_same {L M : List Dt} (h : ∀ d, d ∈ L ↔ d ∈ M) : addAll (zeros, []) L = addAll (zeros, []) M := by
  have a := addAll_spec L (zeros, []) fit_zero
  have b := addAll_spec M (zeros, []) fit_zero
  have e := fit_ext a.1 b.1 (fun x => by rw [a.2, b.2, h])
  exact Prod.ext e.1 e.2
theorem addAll_in (L : List Dt) (x : Dt) : In (addAll (zeros, []) L).1 (addAll (zeros, []) L).2 x ↔ May x ∧ x ∈ L := by
  rw [(addAll_spec L (zeros, []) fit_zero).2]
  constructor
  · rintro (h | h)
    · exact absurd h (in_zero x)
    · exact h
  · exact .inr
theorem addAll_fit (L : List Dt) : Fit (addAll (zeros, []) L).1 (addAll (zeros, []) L).2 := (addAll_spec L (zeros, []) fit_zero).1
theorem at_maxV (V W : List Nat) (r : Int) (h1 : 1 ≤ r) (h2 : r ≤ 16) : at_ (maxV V W) r = max (at_ V r) (at_ W r) := by
  unfold at_
  exact maxV_getD V W _ (by omega)
/-- Covers: all of the one are in the other. -/
theorem covB_iff {V V' : List Nat} {X X' : List Dt} (h : Fit V X) (k : Fit V' X') : covB V X V' X' = true ↔ ∀ e, In V' X' e → In V X e := by
  constructor
  · intro hc e he
    have hm : maxV V V' = V := by
      by_cases hm : maxV V V' = V
      · exact hm
      · rw [covB_not hm] at hc; cases hc
    rw [covB_of hm, Bool.not_eq_true', decide_eq_false_iff_not] at hc
    rcases he.2 with hx | hx
    · by_cases hi : In V X e
      · exact hi
      · exact absurd ⟨e, hx, hi⟩ hc
    · refine ⟨he.1, .inr ?_⟩
      have hr := he.1
      have := at_maxV V V' e.1 (by unfold May at hr; omega) (by unfold May at hr; omega)
      rw [hm] at this
      omega
  · intro hs
    have hm : maxV V V' = V := vec_ext (maxV_length _ _) h.len fun r h1 h2 => by
      rw [at_maxV V V' r h1 h2]
      have := fit_at k h hs r h1 h2
      omega
    rw [covB_of hm, Bool.not_eq_true', decide_eq_false_iff_not]
    rintro ⟨d, hd, hn⟩
    exact hn (hs d ⟨k.may d hd, .inl hd⟩)
/-- Covers of what was added: each dot of the list that may be is in it. -/
theorem cov_list {V : List Nat} {X : List Dt} (h : Fit V X) (M : List Dt) : covB V X (addAll (zeros, []) M).1 (addAll (zeros, []) M).2 = decide (∀ d ∈ M, In V X d ∨ ¬ May d) := by
  rw [Bool.eq_iff_iff, covB_iff h (addAll_fit M), decide_eq_true_iff]
  constructor
  · intro hs d hd
    by_cases hM : May d
    · exact .inl (hs d ((addAll_in M d).2 ⟨hM, hd⟩))
    · exact .inr hM
  · intro hs e he
    have := (addAll_in M e).1 he
    rcases hs e this.2 with h1 | h1
    · exact h1
    · exact absurd this.1 h1
end Go.Proofs.Ytoglhpcboonpeaa

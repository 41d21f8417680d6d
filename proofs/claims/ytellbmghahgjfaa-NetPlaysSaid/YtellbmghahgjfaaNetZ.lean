/-
  The first place of a pair among what is in flight.
-/
import Derived.Test.YtellbmghahgjfaaNetV
namespace Go.Proofs.Ytellbmghahgjfaa
open NetM
set_option linter.unusedVariables false
set_option linter.unusedSimpArgs false

/-- Behind k looks: f flights stand ahead of the pair q. -/
structure Ahead (V : List (Fl Pl)) (q : Pr) (k f : Nat) : Prop where
  fk : f ≤ k
  lt : ∀ j (h : j < V.length), j < f → Lt V[j].p q
  ge : ∀ j (h : j < V.length), f ≤ j → j < k → ¬ Lt V[j].p q
theorem Ahead.zero (V : List (Fl Pl)) (q : Pr) : Ahead V q 0 0 := ⟨Nat.le_refl _, fun j _ h => absurd h (by omega), fun j _ _ h => absurd h (by omega)⟩
theorem sorted_at {V : List (Fl Pl)} (h : Sorted V) {i j : Nat} (hij : i < j) (hj : j < V.length) : Le (V[i]'(by omega)).p V[j].p :=
  List.pairwise_iff_getElem.1 h i j (by omega) hj hij
theorem Ahead.yes {V : List (Fl Pl)} {q : Pr} {k f : Nat} (h : Ahead V q k f) (hs : Sorted V) (hk : k < V.length) (hl : Lt V[k].p q) : Ahead V q (k + 1) (k + 1) := by
  refine ⟨Nat.le_refl _, fun j hj hjk => ?_, fun j _ h1 h2 => absurd h1 (by omega)⟩
  rcases Nat.lt_or_ge j k with h1 | h1
  · exact (sorted_at hs h1 hk).of_lt hl
  · obtain rfl : j = k := (by omega)
    exact hl
theorem Ahead.no {V : List (Fl Pl)} {q : Pr} {k f : Nat} (h : Ahead V q k f) (hk : k < V.length) (hl : ¬ Lt V[k].p q) : Ahead V q (k + 1) f := by
  refine ⟨by have := h.fk; omega, h.lt, fun j hj h1 h2 => ?_⟩
  rcases Nat.lt_or_ge j k with h3 | h3
  · exact h.ge j hj h1 h3
  · obtain rfl : j = k := (by omega)
    exact hl
theorem Ahead.end_ {V : List (Fl Pl)} {q : Pr} {k f : Nat} (h : Ahead V q k f) (hs : Sorted V) (hk : k < V.length) (hq : V[k].p = q) : (V[f]'(by have := h.fk; omega)).p = q ∧ nth V f q = 0 := by
  have hfk := h.fk
  constructor
  · rcases Nat.lt_or_ge f k with h1 | h1
    · have h2 := h.ge f (by omega) (Nat.le_refl _) h1
      have h3 := sorted_at hs h1 hk
      rw [hq] at h3
      refine Le.anti h3 ?_
      have h4 : ∀ a b : Pr, ¬ Lt a b → Le b a := fun a b h => by unfold Lt at h; unfold Le; omega
      exact h4 _ _ h2
    · obtain rfl : f = k := (by omega)
      exact hq
  · exact nth_first fun j hj hjf e => (h.lt j hj hjf).ne e
end Go.Proofs.Ytellbmghahgjfaa

/-
  Joins of contexts as sets: whatever way they are reckoned, the compact form of all that is in both. Plain.
-/
import Derived.Test.YtoglhpcboonpeaaCtxOrdM
namespace Go.Proofs.Ytoglhpcboonpeaa
open CtxM
set_option linter.unusedVariables false

theorem maxV_le {V W : List Nat} (h : ∀ n ∈ V, n ≤ top) (k : ∀ n ∈ W, n ≤ top) : ∀ n ∈ maxV V W, n ≤ top := by
  intro n hn
  unfold maxV at hn
  obtain ⟨i, _, rfl⟩ := List.mem_map.1 hn
  have a : ∀ (Z : List Nat), (∀ n ∈ Z, n ≤ top) → Z.getD i 0 ≤ top := by
    intro Z hZ
    rw [List.getD_eq_getElem?_getD]
    cases hg : Z[i]? with
    | none => simp
    | some x => exact hZ x (List.mem_of_getElem? hg)
  exact Nat.max_le.2 ⟨a V h, a W k⟩
theorem in_maxV {V W : List Nat} {L : List Dt} (d : Dt) : In (maxV V W) L d ↔ May d ∧ (d ∈ L ∨ d.2 ≤ at_ V d.1 ∨ d.2 ≤ at_ W d.1) := by
  unfold In
  have hx : ∀ a b : Nat, d.2 ≤ max a b ↔ d.2 ≤ a ∨ d.2 ≤ b := fun a b => by omega
  constructor
  · rintro ⟨hm, h⟩
    refine ⟨hm, ?_⟩
    rw [at_maxV V W d.1 hm.1 hm.2.1, hx] at h
    exact h
  · rintro ⟨hm, h⟩
    refine ⟨hm, ?_⟩
    rw [at_maxV V W d.1 hm.1 hm.2.1, hx]
    exact h
/-- Rising dots that are all of both exceptions. -/
theorem join_cp {V V' : List Nat} {X X' L : List Dt} {U : List Nat × List Dt} (h : Fit V X) (k : Fit V' X') (hr : Rise L) (hL : ∀ d, d ∈ L ↔ d ∈ X ∨ d ∈ X') (hF : Fit U.1 U.2) (hI : ∀ d, In U.1 U.2 d ↔ In V X d ∨ In V' X' d) :
    cp (maxV V V') L = U := by
  obtain ⟨a, b⟩ := cp_spec (maxV_length V V') (maxV_le h.le k.le) hr (fun d hd => ((hL d).1 hd).elim (h.may d) (k.may d))
  have e := fit_ext a hF (fun d => by
    rw [b d, hI d, in_maxV, hL d]
    unfold In
    constructor
    · rintro ⟨hm, (h1 | h1) | h1 | h1⟩
      · exact .inl ⟨hm, .inl h1⟩
      · exact .inr ⟨hm, .inl h1⟩
      · exact .inl ⟨hm, .inr h1⟩
      · exact .inr ⟨hm, .inr h1⟩
    · rintro (⟨hm, h1 | h1⟩ | ⟨hm, h1 | h1⟩)
      · exact ⟨hm, .inl (.inl h1)⟩
      · exact ⟨hm, .inr (.inl h1)⟩
      · exact ⟨hm, .inl (.inr h1)⟩
      · exact ⟨hm, .inr (.inr h1)⟩)
  exact Prod.ext e.1 e.2
/-- The greater vector first, then dot by dot. -/
theorem join_add {V V' : List Nat} {X X' : List Dt} {U : List Nat × List Dt} (h : Fit V X) (k : Fit V' X') (hF : Fit U.1 U.2) (hI : ∀ d, In U.1 U.2 d ↔ In V X d ∨ In V' X' d) :
    Fit (cp (maxV V V') X).1 (cp (maxV V V') X).2 ∧ addAll (cp (maxV V V') X) X' = U := by
  obtain ⟨a, b⟩ := cp_spec (maxV_length V V') (maxV_le h.le k.le) h.rise h.may
  refine ⟨a, ?_⟩
  obtain ⟨a2, b2⟩ := addAll_spec X' (cp (maxV V V') X) a
  have e := fit_ext a2 hF (fun d => by
    rw [b2 d, hI d, b d, in_maxV]
    unfold In
    constructor
    · rintro (⟨hm, h1 | h1 | h1⟩ | ⟨hm, h1⟩)
      · exact .inl ⟨hm, .inl h1⟩
      · exact .inl ⟨hm, .inr h1⟩
      · exact .inr ⟨hm, .inr h1⟩
      · exact .inr ⟨hm, .inl h1⟩
    · rintro (⟨hm, h1 | h1⟩ | ⟨hm, h1 | h1⟩)
      · exact .inl ⟨hm, .inl h1⟩
      · exact .inl ⟨hm, .inr (.inl h1)⟩
      · exact .inr ⟨hm, h1⟩
      · exact .inl ⟨hm, .inr (.inr h1)⟩)
  exact Prod.ext e.1 e.2
/-- The union of two lists' contexts is that of both lists. -/
theorem union_list (L M : List Dt) (d : Dt) : In (addAll (zeros, []) (L ++ M)).1 (addAll (zeros, []) (L ++ M)).2 d ↔ In (addAll (zeros, []) L).1 (addAll (zeros, []) L).2 d ∨ In (addAll (zeros, []) M).1 (addAll (zeros, []) M).2 d := by
  rw [addAll_in, addAll_in, addAll_in, List.mem_append]
  constructor
  · rintro ⟨h, h1 | h1⟩
    · exact .inl ⟨h, h1⟩
    · exact .inr ⟨h, h1⟩
  · rintro (⟨h, h1⟩ | ⟨h, h1⟩)
    · exact ⟨h, .inl h1⟩
    · exact ⟨h, .inr h1⟩
/-- The union is the one of them just where that one covers the other. -/
theorem covB_union {S T U : List Nat × List Dt} (h : Fit S.1 S.2) (k : Fit T.1 T.2) (hF : Fit U.1 U.2) (hI : ∀ d, In U.1 U.2 d ↔ In S.1 S.2 d ∨ In T.1 T.2 d) :
    covB S.1 S.2 T.1 T.2 = decide (U.1 = S.1 ∧ U.2 = S.2) := by
  rw [Bool.eq_iff_iff, covB_iff h k, decide_eq_true_iff]
  constructor
  · intro hs
    exact fit_ext hF h (fun d => ⟨fun hd => ((hI d).1 hd).elim id (hs d), fun hd => (hI d).2 (.inl hd)⟩)
  · rintro ⟨e1, e2⟩ d hd
    have := (hI d).2 (.inr hd)
    rw [e1, e2] at this
    exact this
end Go.Proofs.Ytoglhpcboonpeaa

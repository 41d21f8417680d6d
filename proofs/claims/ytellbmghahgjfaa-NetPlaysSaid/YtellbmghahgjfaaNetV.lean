/-
  What is in flight, and what was sent: line by line the same.
-/
import Derived.Test.YtellbmghahgjfaaNetL
namespace Go.Proofs.Ytellbmghahgjfaa
open NetM
set_option linter.unusedVariables false
set_option linter.unusedSimpArgs false

/-- Line by line the same bytes. -/
structure Alike (V S : List (Fl Pl)) : Prop where
  line : ∀ q, (lineOf V q).map Prod.snd = (lineOf S q).map Prod.snd
  len : V.length = S.length
theorem Alike.nil : Alike [] [] := ⟨fun _ => rfl, rfl⟩
theorem Alike.put {V S : List (Fl Pl)} (h : Alike V S) (hs : Sorted V) (q : Pr) (s s' : Sv) (bs : List UInt8) : Alike (lay V ⟨q, (s, bs)⟩) (S ++ [⟨q, (s', bs)⟩]) := by
  refine ⟨fun r => ?_, by rw [lay_len, List.length_append, h.len]; rfl⟩
  rw [lay_line hs, lineOf_append, lineOf_cons, lineOf_nil]
  simp only
  by_cases e : q = r
  · rw [if_pos e, if_pos e, List.map_append, List.map_append, h.line r]
    rfl
  · rw [if_neg e, if_neg e, List.append_nil]
    exact h.line r
theorem nth_first {S : List (Fl Pl)} {i : Nat} {q : Pr} (hj : ∀ j (h : j < S.length), j < i → S[j].p ≠ q) : nth S i q = 0 := by
  unfold nth
  rw [lineOf_none]
  · rfl
  · intro f hf
    obtain ⟨j, hjl, rfl⟩ := List.mem_iff_getElem.1 hf
    rw [List.length_take] at hjl
    rw [List.getElem_take]
    exact hj j (by omega) (by omega)
/-- The first of a line in flight is the first sent of it; both taken away, all is alike. -/
theorem Alike.there {V S : List (Fl Pl)} (h : Alike V S) (f : Nat) (hf : f < V.length) {i : Nat} (hi : i ≤ S.length) (hj : ∀ j (h : j < S.length), j < i → S[j].p ≠ V[f].p) : i = S.length → False := by
  rintro rfl
  have e : lineOf S V[f].p = [] := lineOf_none fun g hg => by
    obtain ⟨j, hjl, rfl⟩ := List.mem_iff_getElem.1 hg
    exact hj j hjl hjl
  have e2 := h.line V[f].p
  rw [e] at e2
  have e3 := line_mem (List.getElem_mem hf)
  have : lineOf V V[f].p = [] := by simpa using e2
  rw [this] at e3
  cases e3
theorem Alike.first {V S : List (Fl Pl)} (h : Alike V S) (f : Nat) (hf : f < V.length) (h0 : nth V f V[f].p = 0) {i : Nat} (hi : i < S.length) (hp : S[i].p = V[f].p) (hj : ∀ j (h : j < S.length), j < i → S[j].p ≠ V[f].p) :
    S[i].x.2 = V[f].x.2 ∧ Alike (V.eraseIdx f) (S.eraseIdx i) := by
  have n0 : nth S i S[i].p = 0 := by rw [hp]; exact nth_first hj
  have a1 := nth_at V f hf
  have a2 := nth_at S i hi
  rw [h0] at a1
  rw [n0, hp] at a2
  have e := congrArg (fun l => l[0]?) (h.line V[f].p)
  simp only [List.getElem?_map, a1, a2, Option.map_some, Option.some.injEq] at e
  refine ⟨e.symm, fun r => ?_, by rw [List.length_eraseIdx_of_lt hf, List.length_eraseIdx_of_lt hi, h.len]⟩
  rw [erase_line V f hf r, erase_line S i hi r]
  by_cases er : V[f].p = r
  · rw [if_pos er, if_pos (hp.trans er)]
    subst er
    rw [h0, ← hp, n0, hp]
    have := h.line V[f].p
    revert this
    generalize lineOf V V[f].p = A
    generalize lineOf S V[f].p = B
    intro this
    cases A <;> cases B <;> simp_all
  · rw [if_neg er, if_neg (fun x => er (hp.symm.trans x))]
    exact h.line r
theorem nth_nought (V : List (Fl Pl)) (q : Pr) : nth V 0 q = 0 := rfl
end Go.Proofs.Ytellbmghahgjfaa

/-
  Adding a dot: the two ways in which ctx does it come to the one compact form.
-/
import Derived.Test.YtldfaaahmpncbaaGreatCtxSearch
namespace Go.Proofs.YtldfaaahmpncbaaGreat
open CtxM
set_option linter.unusedVariables false
set_option linter.unusedSimpArgs false

theorem set_le {V : List Nat} {n : Nat} (h : ∀ m ∈ V, m ≤ top) (hn : n ≤ top) (k : Nat) : ∀ m ∈ V.set k n, m ≤ top := by
  intro m hm
  rcases List.mem_or_eq_of_mem_set hm with h1 | h1
  · exact h m h1
  · omega
theorem next_eq {V : List Nat} {X : List Dt} {d : Dt} (h : Fit V X) (hd : May d) (he : d.2 = at_ V d.1 + 1) : cp (V.set (d.1 - 1).toNat d.2) X = addF (V, X) d := by
  have hlen : (V.set (d.1 - 1).toNat d.2).length = 16 := by rw [List.length_set]; exact h.len
  obtain ⟨a, b⟩ := cp_spec hlen (set_le h.le hd.2.2.2 _) h.rise h.may
  obtain ⟨a', b'⟩ := addF_spec (S := (V, X)) h hd
  have := fit_ext a a' fun x => by
    rw [b x, b' x]
    constructor
    · rintro ⟨h1, h2⟩
      rcases h2 with h2 | h2
      · exact .inl ⟨h1, .inl h2⟩
      · rw [at_set V d.1 x.1 d.2 hd.1 h1.1 (by rw [h.len]; exact hd.2.1)] at h2
        by_cases e : x.1 = d.1
        · rw [if_pos e] at h2
          by_cases e2 : x.2 = d.2
          · exact .inr (Prod.ext e e2)
          · exact .inl ⟨h1, .inr (show x.2 ≤ at_ V x.1 by rw [e]; omega)⟩
        · rw [if_neg e] at h2
          exact .inl ⟨h1, .inr h2⟩
    · rintro (⟨h1, h2⟩ | h2)
      · refine ⟨h1, ?_⟩
        rcases h2 with h2 | h2
        · exact .inl h2
        · refine .inr ?_
          rw [at_set V d.1 x.1 d.2 hd.1 h1.1 (by rw [h.len]; exact hd.2.1)]
          by_cases e : x.1 = d.1
          · have h2 : x.2 ≤ at_ V x.1 := h2
            rw [if_pos e]; rw [e] at h2; omega
          · rw [if_neg e]; exact h2
      · subst h2
        refine ⟨hd, .inr ?_⟩
        rw [at_set V x.1 x.1 x.2 hd.1 hd.1 (by rw [h.len]; exact hd.2.1), if_pos rfl]
        exact Nat.le_refl _
  exact Prod.ext this.1 this.2
theorem ins_fit {V : List Nat} {X : List Dt} {d : Dt} (h : Fit V X) (hd : May d) (hn : ¬ In V X d) (he : d.2 ≠ at_ V d.1 + 1) : Fit V (ins X d) := by
  have hx : d ∉ X := fun hx => hn ⟨hd, .inl hx⟩
  have hv : at_ V d.1 + 1 < d.2 := by
    have : ¬ d.2 ≤ at_ V d.1 := fun hv => hn ⟨hd, .inr hv⟩
    omega
  exact ⟨h.len, h.le, rise_ins h.rise hx, fun x hm => by rcases mem_ins.1 hm with e | e; exact e ▸ hd; exact h.may x e, fun x hm => by rcases mem_ins.1 hm with e | e; exact e ▸ hv; exact h.beyond x e⟩
theorem cp_id {V : List Nat} {X : List Dt} (h : Fit V X) : cp V X = (V, X) := by
  obtain ⟨a, b⟩ := cp_spec h.len h.le h.rise h.may
  have := fit_ext a h b
  exact Prod.ext this.1 this.2
theorem ins_eq {V : List Nat} {X : List Dt} {d : Dt} (h : Fit V X) (hd : May d) (hn : ¬ In V X d) (he : d.2 ≠ at_ V d.1 + 1) : addF (V, X) d = (V, ins X d) := by
  unfold addF
  rw [if_neg hn]
  exact cp_id (ins_fit h hd hn he)
theorem next_not {V : List Nat} {X : List Dt} {d : Dt} (h : Fit V X) (he : d.2 = at_ V d.1 + 1) : ¬ In V X d := by
  have := not_next h d.1
  rw [← he] at this
  exact this
theorem rise_cut2 : ∀ {L : List Dt} (hr : Rise L) (d : Dt), (L.filter fun x => decide (Lt x d)) = L.take (cnt L d) ∧ (L.filter fun x => decide (¬ Lt x d)) = L.drop (cnt L d)
  | [], _, d => by simp [cnt]
  | a :: L, hr, d => by
    obtain ⟨h1, h2⟩ := List.pairwise_cons.1 hr
    obtain ⟨i1, i2⟩ := rise_cut2 h2 d
    by_cases h : Lt a d
    · have e : cnt (a :: L) d = cnt L d + 1 := by unfold cnt; rw [List.filter_cons_of_pos (by simpa using h), List.length_cons]
      rw [e, List.filter_cons_of_pos (by simpa using h), List.filter_cons_of_neg (by simpa using h), List.take_succ_cons, List.drop_succ_cons, i1, i2]
      exact ⟨rfl, rfl⟩
    · have e0 : (L.filter fun x => decide (Lt x d)) = [] := by
        rw [List.filter_eq_nil_iff]
        intro x hx hxd
        exact h ((h1 x hx).trans (by simpa using hxd))
      have e : cnt (a :: L) d = 0 := by unfold cnt; rw [List.filter_cons_of_neg (by simpa using h), e0]; rfl
      have e1 : cnt L d = 0 := by unfold cnt; rw [e0]; rfl
      rw [e1] at i2
      rw [e, List.filter_cons_of_neg (by simpa using h), List.filter_cons_of_pos (by simpa using h), e0, i2]
      exact ⟨rfl, rfl⟩
theorem ins_at {X : List Dt} (hr : Rise X) (d : Dt) : X.take (cnt X d) ++ d :: X.drop (cnt X d) = ins X d := by
  unfold ins
  rw [(rise_cut2 hr d).1, (rise_cut2 hr d).2]
theorem cnt_at (L : List Dt) (d : Dt) : cnt L d ≤ L.length := by unfold cnt; exact List.length_filter_le _ _
end Go.Proofs.YtldfaaahmpncbaaGreat

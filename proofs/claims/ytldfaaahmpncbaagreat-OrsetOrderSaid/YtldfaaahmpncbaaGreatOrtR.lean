/-
  What was seen tells all, in whatever order it was seen, and whatever was collected: plainly.
-/
import Derived.Test.YtldfaaahmpncbaaGreatOrtAD
namespace Go.Proofs.YtldfaaahmpncbaaGreat
open CtxM
set_option linter.unusedVariables false
set_option linter.unusedSimpArgs false
set_option maxRecDepth 20000
/-- Each dot comes live with one key alone. -/
def One (l : List It) : Prop := ∀ x ∈ l, ∀ y ∈ l, x.d = y.d → x.g = false → y.g = false → x = y
/-- The state, by the items that were seen. -/
structure Inv (D : St) (s : List It) : Prop where
  good : Good D
  seen : ∀ d, In D.S.1 D.S.2 d ↔ ∃ x ∈ s, x.d = d
  live : ∀ i : It, i.g = false → (i ∈ D.I ↔ (i ∈ s ∧ ¬ ∃ y ∈ s, y.d = i.d ∧ y.g = true))
theorem Inv.zero : Inv kn0 [] := ⟨Good.zero, fun d => iff_of_false (in_zero d) (by simp), fun i _ => by simp [kn0]⟩
theorem Inv.step {l : List It} (hU : One l) {D : St} {s : List It} (h : Inv D s) (hs : ∀ x ∈ s, x ∈ l) {x : It} (hx : x ∈ l) (hb : itB x = true) : Inv (seeD D x) (x :: s) := by
  refine ⟨h.good.see hb, fun d => ?_, fun i hi => ?_⟩
  · rw [seeD_in h.good hb, h.seen]
    simp only [List.mem_cons, exists_eq_or_imp]
    constructor
    · rintro (h1 | h1)
      · exact .inr h1
      · exact .inl h1.symm
    · rintro (h1 | h1)
      · exact .inr h1.symm
      · exact .inl h1
  · unfold seeD
    by_cases hc : chg D x = true
    · rw [if_pos hc]
      show i ∈ putI D.I x ↔ _
      rw [mem_putI]
      cases hg : x.g with
      | false =>
        have hn : ¬ ∃ y ∈ s, y.d = x.d := by
          unfold chg at hc
          rw [hg, Bool.and_false, Bool.false_or, Bool.not_eq_true', decide_eq_false_iff_not, h.seen] at hc
          exact hc
        constructor
        · rintro (rfl | ⟨h1, h2⟩)
          · refine ⟨by simp, ?_⟩
            rintro ⟨y, hy, e, hyg⟩
            rcases List.mem_cons.1 hy with rfl | hy
            · rw [hg] at hyg; cases hyg
            · exact hn ⟨y, hy, e⟩
          · obtain ⟨h3, h4⟩ := (h.live i hi).1 h1
            refine ⟨by simp [h3], ?_⟩
            rintro ⟨y, hy, e, hyg⟩
            rcases List.mem_cons.1 hy with rfl | hy
            · rw [hg] at hyg; cases hyg
            · exact h4 ⟨y, hy, e, hyg⟩
        · rintro ⟨h1, h2⟩
          rcases List.mem_cons.1 h1 with rfl | h1
          · exact .inl rfl
          · refine .inr ⟨(h.live i hi).2 ⟨h1, fun ⟨y, hy, e⟩ => h2 ⟨y, by simp [hy], e⟩⟩, fun e => hn ⟨i, h1, e⟩⟩
      | true =>
        constructor
        · rintro (rfl | ⟨h1, h2⟩)
          · rw [hg] at hi; cases hi
          · obtain ⟨h3, h4⟩ := (h.live i hi).1 h1
            refine ⟨by simp [h3], ?_⟩
            rintro ⟨y, hy, e, hyg⟩
            rcases List.mem_cons.1 hy with rfl | hy
            · exact h2 e.symm
            · exact h4 ⟨y, hy, e, hyg⟩
        · rintro ⟨h1, h2⟩
          rcases List.mem_cons.1 h1 with rfl | h1
          · rw [hg] at hi; cases hi
          · exact .inr ⟨(h.live i hi).2 ⟨h1, fun ⟨y, hy, e⟩ => h2 ⟨y, by simp [hy], e⟩⟩, fun e => h2 ⟨x, by simp, e.symm, hg⟩⟩
    · rw [if_neg hc]
      unfold chg at hc
      rw [Bool.or_eq_true, not_or, Bool.and_eq_true, Bool.not_eq_true', decide_eq_false_iff_not, Decidable.not_not] at hc
      obtain ⟨hc1, hc2⟩ := hc
      rw [h.live i hi]
      constructor
      · rintro ⟨h1, h2⟩
        refine ⟨by simp [h1], ?_⟩
        rintro ⟨y, hy, e, hyg⟩
        rcases List.mem_cons.1 hy with rfl | hy
        · exact hc1 ⟨liveAt_iff.2 ⟨i, (h.live i hi).2 ⟨h1, h2⟩, e.symm, hi⟩, hyg⟩
        · exact h2 ⟨y, hy, e, hyg⟩
      · rintro ⟨h1, h2⟩
        have h2' : ¬ ∃ y ∈ s, y.d = i.d ∧ y.g = true := fun ⟨y, hy, e⟩ => h2 ⟨y, by simp [hy], e⟩
        refine ⟨?_, h2'⟩
        rcases List.mem_cons.1 h1 with rfl | h1
        · obtain ⟨y, hy, e⟩ := (h.seen _).1 hc2
          have hyg : y.g = false := by
            cases hyg : y.g with
            | false => rfl
            | true => exact absurd ⟨y, hy, e, hyg⟩ h2'
          rw [hU i hx y (hs y hy) e.symm hi hyg]
          exact hy
        · exact h1
theorem Inv.steps {l : List It} (hU : One l) (hb : ∀ x ∈ l, itB x = true) : ∀ {L : List It} {D : St} {s : List It}, Inv D s → (∀ x ∈ s, x ∈ l) → (∀ x ∈ L, x ∈ l) → Inv (seeDs D L).1 (L.reverse ++ s)
  | [], D, s, h, _, _ => by simpa [seeDs] using h
  | x :: L, D, s, h, hs, hL => by
    have hx := hL x (by simp)
    have := Inv.steps hU hb (L := L) (h.step hU hs hx (hb x hx)) (fun y hy => by
      rcases List.mem_cons.1 hy with rfl | hy
      · exact hx
      · exact hs y hy) (fun y hy => hL y (by simp [hy]))
    show Inv (seeDs (seeD D x) L).1 _
    rw [List.reverse_cons, List.append_assoc]
    exact this
theorem Inv.col {D : St} {s : List It} (h : Inv D s) {d : Dt} (hg : goneAt D.I d = true) : Inv ⟨D.S, colI D.I d⟩ s := by
  refine ⟨h.good.col d, h.seen, fun i hi => ?_⟩
  rw [← h.live i hi]
  show i ∈ colI D.I d ↔ _
  unfold colI
  rw [List.mem_filter]
  refine ⟨fun h => h.1, fun h1 => ⟨h1, ?_⟩⟩
  simp only [Bool.not_eq_true', decide_eq_false_iff_not]
  intro e
  obtain ⟨j, hj, e2, h2⟩ := goneAt_iff.1 hg
  have := h.good.uniq h1 hj (e.trans e2.symm)
  rw [this, h2] at hi
  cases hi
theorem Inv.perm {D : St} {s s' : List It} (h : Inv D s) (hs : ∀ x, x ∈ s ↔ x ∈ s') : Inv D s' :=
  ⟨h.good, fun d => by rw [h.seen]; simp only [hs], fun i hi => by rw [h.live i hi, hs]; simp only [hs]⟩
section
variable {A B : St} {s : List It} (hA : Inv A s) (hB : Inv B s)
include hA hB
theorem Inv.sameS : A.S = B.S := by
  have := fit_ext hA.good.fit hB.good.fit fun d => by rw [hA.seen, hB.seen]
  exact Prod.ext this.1 this.2
theorem Inv.sameLive (d : Dt) : liveAt A.I d = liveAt B.I d := by
  rw [Bool.eq_iff_iff, liveAt_iff, liveAt_iff]
  constructor
  · rintro ⟨i, h1, h2, h3⟩; exact ⟨i, (hB.live i h3).2 ((hA.live i h3).1 h1), h2, h3⟩
  · rintro ⟨i, h1, h2, h3⟩; exact ⟨i, (hA.live i h3).2 ((hB.live i h3).1 h1), h2, h3⟩
theorem Inv.sameKey (d : Dt) : keyI A.I d = keyI B.I d := by
  cases hl : liveAt A.I d with
  | false => rw [keyI_none hl, keyI_none (by rw [← hA.sameLive hB]; exact hl)]
  | true =>
    obtain ⟨i, h1, rfl, h3⟩ := liveAt_iff.1 hl
    rw [keyI_of h1 h3 fun a ha b hb => hA.good.uniq ha hb, keyI_of ((hB.live i h3).2 ((hA.live i h3).1 h1)) h3 fun a ha b hb => hB.good.uniq ha hb]
theorem Inv.sameKeys {M N : List Ky} (hM : KeysI A.I M) (hN : KeysI B.I N) : M = N := by
  refine hM.uniq ⟨hN.rise, fun k => ?_⟩
  rw [hN.mem]
  constructor
  · rintro ⟨i, h1, h2, h3⟩; exact ⟨i, (hA.live i h2).2 ((hB.live i h2).1 h1), h2, h3⟩
  · rintro ⟨i, h1, h2, h3⟩; exact ⟨i, (hB.live i h2).2 ((hA.live i h2).1 h1), h2, h3⟩
end
theorem seeDs_one {D : St} (hG : Good D) {x : It} (hb : itB x = true) : (seeDs D [x]).1.I.length ≤ D.I.length + 1 ∧ (seeDs D [x]).1.S.2.length ≤ D.S.2.length + 1 := by
  have := seeDs_len (L := [x]) hG (by simpa using hb)
  have h2 : ([x].filter fun x => !decide (In D.S.1 D.S.2 x.d)).length ≤ 1 := List.length_filter_le _ _
  omega
end Go.Proofs.YtldfaaahmpncbaaGreat

/-
  A copy that grows, file by file, in whatever order: the plain side.
-/
import Derived.Test.YtdbkhigocjmfoaaDskSame
import Derived.Test.YtdbkhigocjmfoaaDskRoom
import Derived.Test.YtdbkhigocjmfoaaDskApp1
namespace Go.Proofs.Ytdbkhigocjmfoaa
open Go.RowKit Go.Maps
open DskM
set_option linter.unusedVariables false
set_option linter.unusedSimpArgs false
set_option maxRecDepth 20000

theorem ins_low {f : Fo} : ∀ {L : List Fo}, (∀ y ∈ L, Lt f.nm y.nm) → ins f L = f :: L
  | [], _ => rfl
  | y :: L, h => by
    unfold ins
    exact if_pos (h y (List.mem_cons_self ..))
theorem ins_filter : ∀ {L : List Fo} {f : Fo} {q q' : Fo → Bool}, Rise L → f ∈ L → q f = false → q' f = true → (∀ x ∈ L, x.nm ≠ f.nm → q' x = q x) → ins f (L.filter q) = L.filter q'
  | [], _, _, _, _, hf, _, _, _ => by cases hf
  | x :: L, f, q, q', hr, hf, h0, h1, hh => by
    obtain ⟨hx, hL⟩ := List.pairwise_cons.1 hr
    rcases List.mem_cons.1 hf with e | hf
    · subst e
      rw [List.filter_cons_of_neg (by simp [h0]), List.filter_cons_of_pos h1]
      rw [ins_low (fun y hy => hx y (List.mem_filter.1 hy).1)]
      congr 1
      exact List.filter_congr fun y hy => (hh y (List.mem_cons_of_mem _ hy) (hx y hy).ne.symm).symm
    · have ih := ins_filter hL hf h0 h1 (fun y hy => hh y (List.mem_cons_of_mem _ hy))
      have hlt := hx f hf
      have e := hh x (List.mem_cons_self ..) hlt.ne
      have hnb : bytesBefore f.nm x.nm = false := by
        have := hlt.asymm
        cases hb : bytesBefore f.nm x.nm
        · rfl
        · exact absurd hb this
      by_cases hq : q x = true
      · rw [List.filter_cons_of_pos hq, List.filter_cons_of_pos (by rw [e]; exact hq)]
        unfold ins
        rw [if_neg (by rw [hnb]; simp), ih]
      · rw [List.filter_cons_of_neg hq, List.filter_cons_of_neg (by rw [e]; exact hq)]
        exact ih
/-- The files that have come. -/
def cameL (L : List Fo) (left : Lit → Bool) : List Fo := L.filter fun f => !left (.string f.nm)
theorem cameL_none {L : List Fo} {left : Lit → Bool} (h : ∀ f ∈ L, left (.string f.nm) = true) : cameL L left = [] := by
  unfold cameL
  exact List.filter_eq_nil_iff.2 (fun f hf => by simp [h f hf])
theorem cameL_all {L : List Fo} {left : Lit → Bool} (h : ∀ kl, left kl = false) : cameL L left = L := by
  unfold cameL
  exact List.filter_eq_self.2 (fun f hf => by simp [h])
theorem cameL_step {L : List Fo} {left : Lit → Bool} {f : Fo} (hr : Rise L) (hf : f ∈ L) (hl : left (.string f.nm) = true) : ins f (cameL L left) = cameL L (fun z => left z && !z.sameKey (.string f.nm)) := by
  refine ins_filter hr hf (by simp [hl]) ?_ (fun x hx hne => ?_)
  · have : (Lit.string f.nm).sameKey (.string f.nm) = true := by show (f.nm == f.nm) = true; simp
    simp [this]
  · have : (Lit.string x.nm).sameKey (.string f.nm) = false := by
      show (x.nm == f.nm) = false
      exact beq_eq_false_iff_ne.2 hne
    simp [this]
theorem cameL_lacks {L : List Fo} {left : Lit → Bool} {f : Fo} (hl : left (.string f.nm) = true) : ∀ y ∈ cameL L left, y.nm ≠ f.nm := fun y hy e => by
  have h := (List.mem_filter.1 hy).2
  rw [e, hl] at h
  cases h
theorem total_came (L : List Fo) (left : Lit → Bool) : total (cameL L left) = came L left := rfl
theorem plain_total {L L' : List Fo} (e : plain L = plain L') : total L = total L' := by rw [← total_plain, ← total_plain, e]
theorem plain_length {L L' : List Fo} (e : plain L = plain L') : L.length = L'.length := by rw [← plain_len, ← plain_len, e]
theorem plain_names {L L' : List Fo} (e : plain L = plain L') {n : Nm} (h : ∀ y ∈ L', y.nm ≠ n) : ∀ y ∈ L, y.nm ≠ n := fun y hy e2 => by
  have h1 : y.p ∈ plain L := List.mem_map.2 ⟨y, hy, rfl⟩
  rw [e] at h1
  obtain ⟨z, hz, hzy⟩ := List.mem_map.1 h1
  refine h z hz ?_
  have : z.p.1 = y.p.1 := by rw [hzy]
  exact this.trans e2
end Go.Proofs.Ytdbkhigocjmfoaa

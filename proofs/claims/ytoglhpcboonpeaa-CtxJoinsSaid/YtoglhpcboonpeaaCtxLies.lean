/-
  Several contexts and plain sets that lie apart from one another: what each call leaves of them.
-/
import Derived.Test.YtoglhpcboonpeaaCtxLawOf2
import Derived.Test.YtoglhpcboonpeaaCtxRefJ
import Derived.Test.YtoglhpcboonpeaaCtxJoin
namespace Go.Proofs.Ytoglhpcboonpeaa
open Go.RowKit
open CtxM
set_option linter.unusedVariables false
set_option linter.unusedSimpArgs false
set_option maxRecDepth 20000

theorem nodup_at {l : List Nat} (h : l.Nodup) {i j : Nat} (hi : i < l.length) (hj : j < l.length) (e : l[i] = l[j]) : i = j := by
  have hp := List.pairwise_iff_getElem.1 h
  rcases Nat.lt_trichotomy i j with h1 | h1 | h1
  · exact absurd e (hp i j hi hj h1)
  · exact h1
  · exact absurd e.symm (hp j i hj hi h1)
/-- A context (k) or a plain set, at its block, with its dots. -/
structure Ob where
  k : Bool
  g : Nat
  S : List Nat × List Dt
def Ob.At (o : Ob) (w : World) (v : Value) : Prop := match o.k with
  | true => Cx w o.g v o.S.1 o.S.2
  | false => Sx w o.g v o.S.1 o.S.2
theorem Ob.At.kept {o : Ob} {S : Nat → Prop} {w w' : World} {v : Value} (h : o.At w v) (k : Keep S w w') (hn : ∀ i, Foot o.g v i → ¬ S i) : o.At w' v := by
  unfold Ob.At at h ⊢
  cases hk : o.k
  · rw [hk] at h; exact Sx.kept h k hn
  · rw [hk] at h; exact Cx.kept h k hn
theorem Ob.At.lt {o : Ob} {w : World} {v : Value} (h : o.At w v) : ∀ i, Foot o.g v i → i < w.heap.size := by
  unfold Ob.At at h
  cases hk : o.k
  · rw [hk] at h; exact Sx.lt h
  · rw [hk] at h; exact Cx.lt h
structure Lies (w : World) (B : Nat) (os : List Ob) : Prop where
  nodup : (os.map Ob.g).Nodup
  is : ∀ o ∈ os, ∃ v, o.At w v ∧ (∀ j, Foot o.g v j → B ≤ j) ∧ ∀ o' ∈ os, v.ownBlock ≠ some o'.g
theorem Lies.nil {w : World} {B : Nat} : Lies w B [] := ⟨by simp, by simp⟩
theorem Lies.below {w w' : World} {B : Nat} {os : List Ob} (h : Lies w B os) (hb : Below w.heap.size w w') : Lies w' B os :=
  ⟨h.nodup, fun o ho => by
    obtain ⟨v, a, b, c⟩ := h.is o ho
    exact ⟨v, a.kept (S := fun _ => False) (.of_below hb) (fun _ _ h => h), b, c⟩⟩
theorem Lies.old {w : World} {B : Nat} {os : List Ob} (h : Lies w B os) : ∀ o ∈ os, o.g < w.heap.size := fun o ho => by
  obtain ⟨v, a, _⟩ := h.is o ho
  exact a.lt o.g (.inl rfl)
theorem Lies.cx {w : World} {B : Nat} {os : List Ob} (h : Lies w B os) {g : Nat} {S : List Nat × List Dt} (ho : ⟨true, g, S⟩ ∈ os) : ∃ v, Cx w g v S.1 S.2 := by
  obtain ⟨v, a, _⟩ := h.is _ ho
  exact ⟨v, a⟩
theorem Lies.sx {w : World} {B : Nat} {os : List Ob} (h : Lies w B os) {g : Nat} {S : List Nat × List Dt} (ho : ⟨false, g, S⟩ ∈ os) : ∃ v, Sx w g v S.1 S.2 := by
  obtain ⟨v, a, _⟩ := h.is _ ho
  exact ⟨v, a⟩
/-- A new one. -/
theorem Lies.add {w w' : World} {B : Nat} {os : List Ob} (h : Lies w B os) (hb : Below w.heap.size w w') (hB : B ≤ w.heap.size) (o : Ob) (v : Value) (hv : o.At w' v) (hf : ∀ j, Foot o.g v j → w.heap.size ≤ j) (hne : v.ownBlock ≠ some o.g) : Lies w' B (os ++ [o]) := by
  have h' := h.below hb
  refine ⟨?_, fun p hp => ?_⟩
  · rw [List.map_append, List.nodup_append]
    refine ⟨h.nodup, by simp, fun a ha b hb e => ?_⟩
    obtain ⟨p, hp, rfl⟩ := List.mem_map.1 ha
    simp only [List.map_cons, List.map_nil, List.mem_singleton] at hb
    have h1 := h.old p hp
    have h2 := hf o.g (.inl rfl)
    omega
  · rcases List.mem_append.1 hp with hp | hp
    · obtain ⟨u, a, b, c⟩ := h.is p hp
      obtain ⟨u', a', _⟩ := h'.is p hp
      refine ⟨u, a.kept (S := fun _ => False) (.of_below hb) (fun _ _ h => h), b, fun q hq => ?_⟩
      rcases List.mem_append.1 hq with hq | hq
      · exact c q hq
      · rw [List.mem_singleton] at hq
        subst hq
        intro e
        have h1 := a.lt _ (.inr e)
        have h2 := hf q.g (.inl rfl)
        omega
    · rw [List.mem_singleton] at hp
      subst hp
      refine ⟨v, hv, fun j hj => Nat.le_trans hB (hf j hj), fun q hq => ?_⟩
      rcases List.mem_append.1 hq with hq | hq
      · intro e
        have h1 := h.old q hq
        have h2 := hf _ (.inr e)
        omega
      · rw [List.mem_singleton] at hq
        subst hq
        exact hne
/-- Two new ones. -/
theorem Lies.twin {w w' : World} {B g h : Nat} {os : List Ob} {S : List Nat × List Dt} (hl : Lies w B os) (hb : Below w.heap.size w w') (hB : B ≤ w.heap.size) (t : Twin w' w.heap.size g h S) : Lies w' B (os ++ [⟨true, g, S⟩, ⟨false, h, S⟩]) := by
  obtain ⟨v, u, hc, hs, hd, hlo, hlu⟩ := t.is
  have hgh : g ≠ h := fun e => hd g (.inl rfl) (.inl e)
  have hvh : v.ownBlock ≠ some h := fun e => hd h (.inr e) (.inl rfl)
  have hug : u.ownBlock ≠ some g := fun e => hd g (.inl rfl) (.inr e)
  refine ⟨?_, fun p hp => ?_⟩
  · rw [List.map_append, List.nodup_append]
    refine ⟨hl.nodup, by simp [hgh], fun a ha b hb e => ?_⟩
    obtain ⟨p, hp, rfl⟩ := List.mem_map.1 ha
    have h1 := hl.old p hp
    have h2 := hlo g (.inl rfl)
    have h3 := hlu h (.inl rfl)
    simp only [List.map_cons, List.map_nil, List.mem_cons, List.not_mem_nil, or_false] at hb
    rcases hb with hb | hb <;> omega
  · have hnew : ∀ (z : Value), (∀ i, z.ownBlock = some i → w.heap.size ≤ i) → z.ownBlock ≠ some g → z.ownBlock ≠ some h → ∀ q ∈ os ++ [⟨true, g, S⟩, ⟨false, h, S⟩], z.ownBlock ≠ some q.g := by
      intro z hz h1 h2 q hq
      rcases List.mem_append.1 hq with hq | hq
      · intro e
        have h3 := hl.old q hq
        have h4 := hz _ e
        omega
      · simp only [List.mem_cons, List.not_mem_nil, or_false] at hq
        rcases hq with rfl | rfl
        · exact h1
        · exact h2
    rcases List.mem_append.1 hp with hp | hp
    · obtain ⟨z, a, b, c⟩ := hl.is p hp
      refine ⟨z, a.kept (S := fun _ => False) (.of_below hb) (fun _ _ h => h), b, fun q hq => ?_⟩
      rcases List.mem_append.1 hq with hq | hq
      · exact c q hq
      · intro e
        have h1 := a.lt _ (.inr e)
        have h2 := hlo g (.inl rfl)
        have h3 := hlu h (.inl rfl)
        simp only [List.mem_cons, List.not_mem_nil, or_false] at hq
        rcases hq with rfl | rfl
        · have : g < w.heap.size := h1
          omega
        · have : h < w.heap.size := h1
          omega
    · simp only [List.mem_cons, List.not_mem_nil, or_false] at hp
      rcases hp with rfl | rfl
      · exact ⟨v, hc, fun j hj => Nat.le_trans hB (hlo j hj), hnew v (fun i hi => hlo i (.inr hi)) hc.ne hvh⟩
      · exact ⟨u, hs, fun j hj => Nat.le_trans hB (hlu j hj), hnew u (fun i hi => hlu i (.inr hi)) hug hs.ne⟩
/-- One of them has other dots. -/
theorem Lies.turn {w w' : World} {B : Nat} {os : List Ob} (h : Lies w B os) (hB : B ≤ w.heap.size) (i : Nat) (hi : i < os.length) (o : Ob) (hg : o.g = os[i].g) (v : Value) (hv : o.At w' v) (hf : ∀ j, v.ownBlock = some j → w.heap.size ≤ j) (hk : Keep (fun i => i = o.g) w w') : Lies w' B (os.set i o) := by
  have hmap : (os.set i o).map Ob.g = os.map Ob.g := by
    rw [List.map_set, hg, ← List.getElem_map Ob.g (h := by simpa using hi), List.set_getElem_self]
  have hmem : ∀ q ∈ os.set i o, ∃ q' ∈ os, q'.g = q.g := by
    intro q hq
    have : q.g ∈ (os.set i o).map Ob.g := List.mem_map.2 ⟨q, hq, rfl⟩
    rw [hmap] at this
    obtain ⟨q', h1, h2⟩ := List.mem_map.1 this
    exact ⟨q', h1, h2⟩
  refine ⟨by rw [hmap]; exact h.nodup, fun p hp => ?_⟩
  obtain ⟨n, hn, rfl⟩ := List.getElem_of_mem hp
  rw [List.length_set] at hn
  by_cases e : i = n
  · subst e
    rw [List.getElem_set_self]
    refine ⟨v, hv, ?_, fun q hq e => ?_⟩
    · rintro j (rfl | hj)
      · obtain ⟨z, a, b, _⟩ := h.is os[i] (List.getElem_mem hi)
        rw [hg]; exact b _ (.inl rfl)
      · exact Nat.le_trans hB (hf j hj)
    · obtain ⟨q', h1, h2⟩ := hmem q hq
      have h3 := h.old q' h1
      have h4 := hf _ e
      omega
  · rw [List.getElem_set_ne e]
    obtain ⟨z, a, b, c⟩ := h.is os[n] (List.getElem_mem hn)
    have hne : os[n].g ≠ o.g := by
      intro e2
      have hnd := h.nodup
      have h1 : (os.map Ob.g)[n]'(by simpa using hn) = (os.map Ob.g)[i]'(by simpa using hi) := by simp [e2, hg]
      exact e (nodup_at hnd _ _ h1).symm
    refine ⟨z, a.kept hk (fun j hj e2 => ?_), b, fun q hq => ?_⟩
    · rcases hj with hj | hj
      · exact hne (hj.symm.trans e2)
      · exact c os[i] (List.getElem_mem hi) (by rw [← hg, ← e2]; exact hj)
    · obtain ⟨q', h1, h2⟩ := hmem q hq
      rw [← h2]; exact c q' h1

section
variable {w0 w : World} {B : Nat} {os : List Ob}
/-- The program's Join. -/
theorem lies_join (h : Lies w B os) (hb : Below B w0 w) (hB : B ≤ w.heap.size) (i j : Nat) (g g' : Nat) (S T U : List Nat × List Dt) (hi : os[i]? = some ⟨true, g, S⟩) (hj : os[j]? = some ⟨true, g', T⟩)
    (hF : Fit U.1 U.2) (hI : ∀ d, In U.1 U.2 d ↔ In S.1 S.2 d ∨ In T.1 T.2 d) (hl : S.2.length ≤ 4096) (hl' : T.2.length ≤ 4096) (hU : U.2.length ≤ 4096) :
    Calls Try.prog 28 #[.pointer (some ⟨g, 0, none⟩), .pointer (some ⟨g', 0, none⟩)] w fun e w' => e = .returned (.int .i64 0) ∧ Lies w' B (os.set i ⟨true, g, U⟩) ∧ Below B w0 w' ∧ B ≤ w'.heap.size := by
  obtain ⟨hi1, hi2⟩ := List.getElem?_eq_some_iff.1 hi
  obtain ⟨v, hc⟩ := h.cx (List.mem_of_getElem? hi)
  obtain ⟨u, ho⟩ := h.cx (List.mem_of_getElem? hj)
  obtain ⟨_, _, hlo, _⟩ := h.is _ (List.mem_of_getElem? hi)
  have hgB : B ≤ g := hlo g (.inl rfl)
  refine (join_any g g' v u S.1 T.1 S.2 T.2 U w hc ho hF hI hl hl').mono ?_
  rintro e w' ⟨h1, _⟩
  obtain ⟨rfl, v', hc', hk, hn⟩ := h1 hU
  exact ⟨rfl, h.turn hB i hi1 ⟨true, g, U⟩ (by rw [hi2]) v' hc' hn hk, Keep.below hb hk hB (fun i hi => by omega), Nat.le_trans hB hk.size⟩
/-- The document's. -/
theorem lies_refJoin (h : Lies w B os) (hb : Below B w0 w) (hB : B ≤ w.heap.size) (i j : Nat) (hij : i ≠ j) (g g' : Nat) (S T U : List Nat × List Dt) (hi : os[i]? = some ⟨false, g, S⟩) (hj : os[j]? = some ⟨false, g', T⟩)
    (hF : Fit U.1 U.2) (hI : ∀ d, In U.1 U.2 d ↔ In S.1 S.2 d ∨ In T.1 T.2 d) (hl : S.2.length ≤ 4000) (hl' : T.2.length ≤ 4000) :
    Calls Try.prog 30 #[.pointer (some ⟨g, 0, none⟩), .pointer (some ⟨g', 0, none⟩)] w fun e w' => e = .returned (.tuple #[]) ∧ Lies w' B (os.set i ⟨false, g, U⟩) ∧ Below B w0 w' ∧ B ≤ w'.heap.size := by
  obtain ⟨hi1, hi2⟩ := List.getElem?_eq_some_iff.1 hi
  obtain ⟨hj1, hj2⟩ := List.getElem?_eq_some_iff.1 hj
  obtain ⟨v, hc⟩ := h.sx (List.mem_of_getElem? hi)
  obtain ⟨_, _, hlo, _⟩ := h.is _ (List.mem_of_getElem? hi)
  have hgB : B ≤ g := hlo g (.inl rfl)
  obtain ⟨u, ho, _, hu⟩ := h.is _ (List.mem_of_getElem? hj)
  have hne : g' ≠ g := by
    intro e
    have h1 : (os.map Ob.g)[j]'(by simpa using hj1) = (os.map Ob.g)[i]'(by simpa using hi1) := by simp [hi2, hj2, e]
    exact hij (nodup_at h.nodup _ _ h1).symm
  refine (refJoin_any g g' v u S.1 T.1 S.2 T.2 U w hc ho hne (hu _ (List.mem_of_getElem? hi)) hF hI hl hl').mono ?_
  rintro e w' ⟨rfl, v', hc', hk, hn⟩
  exact ⟨rfl, h.turn hB i hi1 ⟨false, g, U⟩ (by rw [hi2]) v' hc' hn hk, Keep.below hb hk hB (fun i hi => by omega), Nat.le_trans hB hk.size⟩
theorem lies_copy (h : Lies w B os) (hb : Below B w0 w) (hB : B ≤ w.heap.size) (i : Nat) (g : Nat) (S : List Nat × List Dt) (hi : os[i]? = some ⟨true, g, S⟩) (hl : S.2.length ≤ 100000) :
    Calls Try.prog 27 #[.pointer (some ⟨g, 0, none⟩)] w fun e w' => ∃ g', e = .returned (.pointer (some ⟨g', 0, none⟩)) ∧ Lies w' B (os ++ [⟨true, g', S⟩]) ∧ Below B w0 w' ∧ B ≤ w'.heap.size := by
  obtain ⟨v, hc⟩ := h.cx (List.mem_of_getElem? hi)
  refine (copy_any g v S.1 S.2 w hc hl).mono ?_
  rintro e w' ⟨g', v', rfl, hc', hf, hb'⟩
  exact ⟨g', rfl, h.add hb' hB ⟨true, g', S⟩ v' hc' hf hc'.ne, hb.trans (hb'.mono hB), Nat.le_trans hB hb'.size⟩
theorem lies_refCopy (h : Lies w B os) (hb : Below B w0 w) (hB : B ≤ w.heap.size) (i : Nat) (g : Nat) (S : List Nat × List Dt) (hi : os[i]? = some ⟨false, g, S⟩) (hl : S.2.length ≤ 100000) :
    Calls Try.prog 29 #[.pointer (some ⟨g, 0, none⟩)] w fun e w' => ∃ g', e = .returned (.pointer (some ⟨g', 0, none⟩)) ∧ Lies w' B (os ++ [⟨false, g', S⟩]) ∧ Below B w0 w' ∧ B ≤ w'.heap.size := by
  obtain ⟨v, hc⟩ := h.sx (List.mem_of_getElem? hi)
  refine (refCopy_any g v S.1 S.2 w hc hl).mono ?_
  rintro e w' ⟨g', v', rfl, hc', hf, hb'⟩
  exact ⟨g', rfl, h.add hb' hB ⟨false, g', S⟩ v' hc' hf hc'.ne, hb.trans (hb'.mono hB), Nat.le_trans hB hb'.size⟩
theorem lies_covers (h : Lies w B os) (hb : Below B w0 w) (hB : B ≤ w.heap.size) (i j : Nat) (g g' : Nat) (S T : List Nat × List Dt) (hi : os[i]? = some ⟨true, g, S⟩) (hj : os[j]? = some ⟨true, g', T⟩) (hl : S.2.length ≤ 100000) (hl' : T.2.length ≤ 100000) :
    Calls Try.prog 23 #[.pointer (some ⟨g, 0, none⟩), .pointer (some ⟨g', 0, none⟩)] w fun e w' => e = .returned (.bool (covB S.1 S.2 T.1 T.2)) ∧ Lies w' B os ∧ Below B w0 w' ∧ B ≤ w'.heap.size := by
  obtain ⟨v, hc⟩ := h.cx (List.mem_of_getElem? hi)
  obtain ⟨u, ho⟩ := h.cx (List.mem_of_getElem? hj)
  refine (covers_any g g' v u S.1 T.1 S.2 T.2 w hc ho hl hl').mono ?_
  rintro e w' ⟨rfl, hb'⟩
  exact ⟨rfl, h.below hb', hb.trans (hb'.mono hB), Nat.le_trans hB hb'.size⟩
theorem lies_same (h : Lies w B os) (hb : Below B w0 w) (hB : B ≤ w.heap.size) (i j : Nat) (g g' : Nat) (S T : List Nat × List Dt) (hi : os[i]? = some ⟨true, g, S⟩) (hj : os[j]? = some ⟨true, g', T⟩) (hl : S.2.length ≤ 100000) (hl' : T.2.length ≤ 100000) (q : Bool) (hq : q = decide (S = T)) :
    Calls Try.prog 25 #[.pointer (some ⟨g, 0, none⟩), .pointer (some ⟨g', 0, none⟩)] w fun e w' => e = .returned (.bool q) ∧ Lies w' B os ∧ Below B w0 w' ∧ B ≤ w'.heap.size := by
  obtain ⟨v, hc⟩ := h.cx (List.mem_of_getElem? hi)
  obtain ⟨u, ho⟩ := h.cx (List.mem_of_getElem? hj)
  refine (same_any g g' v u S.1 T.1 S.2 T.2 w hc ho hl hl').mono ?_
  rintro e w' ⟨rfl, hb'⟩
  exact ⟨ret_bool (by rw [hq]; exact decide_eq_decide.2 Prod.ext_iff.symm), h.below hb', hb.trans (hb'.mono hB), Nat.le_trans hB hb'.size⟩
theorem lies_refCovers (h : Lies w B os) (hb : Below B w0 w) (hB : B ≤ w.heap.size) (i j : Nat) (g g' : Nat) (S T U : List Nat × List Dt) (hi : os[i]? = some ⟨false, g, S⟩) (hj : os[j]? = some ⟨false, g', T⟩)
    (hF : Fit U.1 U.2) (hI : ∀ d, In U.1 U.2 d ↔ In S.1 S.2 d ∨ In T.1 T.2 d) (hl : S.2.length ≤ 4000) (hl' : T.2.length ≤ 4000) (hU : U.2.length ≤ 100000) :
    Calls Try.prog 24 #[.pointer (some ⟨g, 0, none⟩), .pointer (some ⟨g', 0, none⟩)] w fun e w' => e = .returned (.bool (covB S.1 S.2 T.1 T.2)) ∧ Lies w' B os ∧ Below B w0 w' ∧ B ≤ w'.heap.size := by
  obtain ⟨v, hc⟩ := h.sx (List.mem_of_getElem? hi)
  obtain ⟨u, ho⟩ := h.sx (List.mem_of_getElem? hj)
  refine (refCovers_any g g' v u S T U w hc ho hF hI hl hl' hU).mono ?_
  rintro e w' ⟨rfl, hb'⟩
  exact ⟨rfl, h.below hb', hb.trans (hb'.mono hB), Nat.le_trans hB hb'.size⟩
theorem lies_refSame (h : Lies w B os) (hb : Below B w0 w) (hB : B ≤ w.heap.size) (i j : Nat) (g g' : Nat) (S T : List Nat × List Dt) (hi : os[i]? = some ⟨false, g, S⟩) (hj : os[j]? = some ⟨false, g', T⟩) (hl : S.2.length ≤ 100000) (hl' : T.2.length ≤ 100000) (q : Bool) (hq : q = decide (S = T)) :
    Calls Try.prog 26 #[.pointer (some ⟨g, 0, none⟩), .pointer (some ⟨g', 0, none⟩)] w fun e w' => e = .returned (.bool q) ∧ Lies w' B os ∧ Below B w0 w' ∧ B ≤ w'.heap.size := by
  obtain ⟨v, hc⟩ := h.sx (List.mem_of_getElem? hi)
  obtain ⟨u, ho⟩ := h.sx (List.mem_of_getElem? hj)
  refine (refSame_any g g' v u S.1 T.1 S.2 T.2 w hc ho hl hl').mono ?_
  rintro e w' ⟨rfl, hb'⟩
  exact ⟨ret_bool (by rw [hq]; exact decide_eq_decide.2 Prod.ext_iff.symm), h.below hb', hb.trans (hb'.mono hB), Nat.le_trans hB hb'.size⟩
theorem lies_alike (h : Lies w B os) (hb : Below B w0 w) (hB : B ≤ w.heap.size) (i j : Nat) (g g' : Nat) (S : List Nat × List Dt) (hi : os[i]? = some ⟨true, g, S⟩) (hj : os[j]? = some ⟨false, g', S⟩) (hl : S.2.length ≤ 100000) :
    Calls Try.prog 15 #[.pointer (some ⟨g, 0, none⟩), .pointer (some ⟨g', 0, none⟩)] w fun e w' => e = .returned (.bool true) ∧ Lies w' B os ∧ Below B w0 w' ∧ B ≤ w'.heap.size := by
  obtain ⟨v, hc⟩ := h.cx (List.mem_of_getElem? hi)
  obtain ⟨u, ho⟩ := h.sx (List.mem_of_getElem? hj)
  refine (same_eq g g' v u S.1 S.2 w hc ho hl).mono ?_
  rintro e w' ⟨rfl, hb'⟩
  exact ⟨rfl, h.below hb', hb.trans (hb'.mono hB), Nat.le_trans hB hb'.size⟩
theorem lies_of (h : Lies w B os) (hb : Below B w0 w) (hB : B ≤ w.heap.size) (vl : Value) (L : List Dt) (hL : Sd w vl L) (hl : L.length ≤ 4000) :
    Calls Try.prog 22 #[vl] w fun e w' => ∃ g g', e = .returned (.tuple #[.pointer (some ⟨g, 0, none⟩), .pointer (some ⟨g', 0, none⟩)]) ∧ Lies w' B (os ++ [⟨true, g, addAll (zeros, []) L⟩, ⟨false, g', addAll (zeros, []) L⟩]) ∧ Below B w0 w' ∧ B ≤ w'.heap.size := by
  refine (of_twin vl L w hL hl).mono ?_
  rintro e w' ⟨g', rfl, ht, hb'⟩
  exact ⟨_, g', rfl, h.twin hb' hB ht, hb.trans (hb'.mono hB), Nat.le_trans hB hb'.size⟩
end
end Go.Proofs.Ytoglhpcboonpeaa

/-
  Flights plainly: lines of each two ends in one sorted list; laying one more, taking one out, going over all. No program is named here.
-/
import Derived.Test.YtellbmghahgjfaaRows
namespace Go.Proofs.Ytellbmghahgjfaa.NetM
set_option linter.unusedVariables false
set_option linter.unusedSimpArgs false

abbrev Pr := Int × Int
/-- A flight: from which end to which one, what it bears. -/
structure Fl (α : Type) where
  p : Pr
  x : α
def Le (a b : Pr) : Prop := a.1 < b.1 ∨ (a.1 = b.1 ∧ a.2 ≤ b.2)
def Lt (a b : Pr) : Prop := a.1 < b.1 ∨ (a.1 = b.1 ∧ a.2 < b.2)
instance (a b : Pr) : Decidable (Le a b) := by unfold Le; infer_instance
instance (a b : Pr) : Decidable (Lt a b) := by unfold Lt; infer_instance
theorem Le.refl (a : Pr) : Le a a := by unfold Le; omega
theorem Le.trans {a b c : Pr} (h : Le a b) (k : Le b c) : Le a c := by unfold Le at *; omega
theorem Lt.le {a b : Pr} (h : Lt a b) : Le a b := by unfold Lt Le at *; omega
theorem Lt.ne {a b : Pr} (h : Lt a b) : a ≠ b := by rintro rfl; unfold Lt at h; omega
theorem Le.anti {a b : Pr} (h : Le a b) (k : Le b a) : a = b := by unfold Le at *; exact Prod.ext (by omega) (by omega)
theorem not_le {a b : Pr} : ¬ Le a b ↔ Lt b a := by unfold Le Lt; omega
theorem Le.lt_of_ne {a b : Pr} (h : Le a b) (hn : a ≠ b) : Lt a b := by
  by_cases k : Le b a
  · exact absurd (h.anti k) hn
  · exact not_le.1 k
theorem Lt.of_le {a b c : Pr} (h : Lt a b) (k : Le b c) : Lt a c := by unfold Lt Le at *; omega
theorem Le.of_lt {a b c : Pr} (h : Le a b) (k : Lt b c) : Lt a c := by unfold Lt Le at *; omega

theorem nodup_len {α : Type} : ∀ {A B : List α}, A.Nodup → (∀ x ∈ A, x ∈ B) → A.length ≤ B.length
  | [], _, _, _ => Nat.zero_le _
  | a :: A, B, hn, hs => by
    obtain ⟨s, t, rfl⟩ := List.append_of_mem (hs a (by simp))
    have hn' := List.nodup_cons.1 hn
    have := nodup_len (A := A) (B := s ++ t) hn'.2 (fun x hx => by
      have h1 := hs x (by simp [hx])
      rcases List.mem_append.1 h1 with h | h
      · exact List.mem_append.2 (.inl h)
      · rcases List.mem_cons.1 h with rfl | h
        · exact absurd hx hn'.1
        · exact List.mem_append.2 (.inr h))
    simp at this ⊢
    omega
section
variable {α : Type}
def Sorted (L : List (Fl α)) : Prop := L.Pairwise fun f g => Le f.p g.p
/-- What is in flight of two ends, in order. -/
def lineOf (L : List (Fl α)) (p : Pr) : List α := (L.filter fun f => decide (f.p = p)).map Fl.x
/-- Is it at or ahead of these ends? -/
def leB (p : Pr) (g : Fl α) : Bool := decide (Le g.p p)
/-- How many stand at or ahead of these ends. -/
def spotOf (L : List (Fl α)) (p : Pr) : Nat := (L.takeWhile (leB p)).length
/-- One more, the last of its line. -/
def lay (L : List (Fl α)) (f : Fl α) : List (Fl α) := L.takeWhile (leB f.p) ++ f :: L.dropWhile (leB f.p)

theorem lineOf_nil (p : Pr) : lineOf ([] : List (Fl α)) p = [] := rfl
theorem lineOf_cons (f : Fl α) (L : List (Fl α)) (p : Pr) : lineOf (f :: L) p = if f.p = p then f.x :: lineOf L p else lineOf L p := by
  unfold lineOf
  by_cases h : f.p = p <;> simp [List.filter_cons, h]
theorem lineOf_append (L M : List (Fl α)) (p : Pr) : lineOf (L ++ M) p = lineOf L p ++ lineOf M p := by
  unfold lineOf; simp
theorem lineOf_none {L : List (Fl α)} {p : Pr} (h : ∀ f ∈ L, f.p ≠ p) : lineOf L p = [] := by
  unfold lineOf
  rw [List.filter_eq_nil_iff.2 (fun f hf => by simp [h f hf])]; rfl
theorem lineOf_len (L : List (Fl α)) (p : Pr) : (lineOf L p).length ≤ L.length := by
  unfold lineOf; rw [List.length_map]; exact List.length_filter_le _ _
theorem mem_line {L : List (Fl α)} {p : Pr} {x : α} (h : x ∈ lineOf L p) : ⟨p, x⟩ ∈ L := by
  unfold lineOf at h
  obtain ⟨f, hf, rfl⟩ := List.mem_map.1 h
  have h2 := List.mem_filter.1 hf
  have : f.p = p := of_decide_eq_true h2.2
  subst this
  exact h2.1
theorem line_mem {L : List (Fl α)} {f : Fl α} (h : f ∈ L) : f.x ∈ lineOf L f.p := List.mem_map.2 ⟨f, List.mem_filter.2 ⟨h, by simp⟩, rfl⟩

theorem after_gt : ∀ {L : List (Fl α)} {p : Pr}, Sorted L → ∀ g ∈ L.dropWhile (leB p), Lt p g.p
  | [], p, _, g, hg => by cases hg
  | f :: L, p, h, g, hg => by
    have h' := List.pairwise_cons.1 h
    rw [List.dropWhile_cons] at hg
    by_cases hf : Le f.p p
    · rw [if_pos (by simpa [leB] using hf)] at hg
      exact after_gt h'.2 g hg
    · rw [if_neg (by simpa [leB] using hf)] at hg
      have hlt := not_le.1 hf
      rcases List.mem_cons.1 hg with rfl | hg
      · exact hlt
      · exact hlt.of_le (h'.1 g hg)
theorem before_le {L : List (Fl α)} {p : Pr} : ∀ g ∈ L.takeWhile (leB p), Le g.p p := by
  induction L with
  | nil => intro g hg; cases hg
  | cons f L ih =>
    intro g hg
    rw [List.takeWhile_cons] at hg
    by_cases hf : Le f.p p
    · rw [if_pos (by simpa [leB] using hf)] at hg
      rcases List.mem_cons.1 hg with rfl | hg
      · exact hf
      · exact ih g hg
    · rw [if_neg (by simpa [leB] using hf)] at hg
      cases hg
theorem parts (L : List (Fl α)) (p : Pr) : L.takeWhile (leB p) ++ L.dropWhile (leB p) = L := List.takeWhile_append_dropWhile
theorem lay_sorted {L : List (Fl α)} (h : Sorted L) (f : Fl α) : Sorted (lay L f) := by
  have hp := parts L f.p
  have h' : Sorted (L.takeWhile (leB f.p) ++ L.dropWhile (leB f.p)) := by rw [hp]; exact h
  have hh := List.pairwise_append.1 h'
  refine List.pairwise_append.2 ⟨hh.1, List.pairwise_cons.2 ⟨fun g hg => (after_gt h g hg).le, hh.2.1⟩, fun a ha b hb => ?_⟩
  rcases List.mem_cons.1 hb with rfl | hb
  · exact before_le a ha
  · exact hh.2.2 a ha b hb
theorem lay_line {L : List (Fl α)} (h : Sorted L) (f : Fl α) (p : Pr) : lineOf (lay L f) p = if f.p = p then lineOf L p ++ [f.x] else lineOf L p := by
  have e : lineOf L p = lineOf (L.takeWhile (leB f.p)) p ++ lineOf (L.dropWhile (leB f.p)) p := by rw [← lineOf_append, parts]
  unfold lay
  rw [lineOf_append, lineOf_cons]
  by_cases hp : f.p = p
  · have h0 : lineOf (L.dropWhile (leB f.p)) p = [] := lineOf_none fun g hg e => (after_gt h g hg).ne (hp.trans e.symm)
    rw [if_pos hp, if_pos hp, e, h0, List.append_nil]
  · rw [if_neg hp, if_neg hp, e]
theorem mem_lay {L : List (Fl α)} {f g : Fl α} : g ∈ lay L f ↔ g = f ∨ g ∈ L := by
  have hp := parts L f.p
  constructor
  · intro h
    rcases List.mem_append.1 h with h | h
    · exact .inr (by rw [← hp]; exact List.mem_append.2 (.inl h))
    · rcases List.mem_cons.1 h with h | h
      · exact .inl h
      · exact .inr (by rw [← hp]; exact List.mem_append.2 (.inr h))
  · rintro (rfl | h)
    · exact List.mem_append.2 (.inr List.mem_cons_self)
    · rw [← hp] at h
      rcases List.mem_append.1 h with h | h
      · exact List.mem_append.2 (.inl h)
      · exact List.mem_append.2 (.inr (List.mem_cons_of_mem _ h))
theorem lay_len (L : List (Fl α)) (f : Fl α) : (lay L f).length = L.length + 1 := by
  have hp := congrArg List.length (parts L f.p)
  rw [List.length_append] at hp
  unfold lay
  rw [List.length_append, List.length_cons]
  omega
theorem spot_le (L : List (Fl α)) (p : Pr) : spotOf L p ≤ L.length := by
  have hp := congrArg List.length (parts L p)
  rw [List.length_append] at hp
  unfold spotOf
  omega
theorem lay_spot (L : List (Fl α)) (f : Fl α) : lay L f = L.take (spotOf L f.p) ++ f :: L.drop (spotOf L f.p) := by
  have hp := parts L f.p
  obtain ⟨n, hn⟩ : ∃ n, n = spotOf L f.p := ⟨_, rfl⟩
  have hn' : (L.takeWhile (leB f.p)).length = n := hn.symm
  rw [← hn]
  have h1 : L.take n = L.takeWhile (leB f.p) := by
    conv => lhs; rw [← hp]
    exact List.take_left' hn'
  have h2 : L.drop n = L.dropWhile (leB f.p) := by
    conv => lhs; rw [← hp]
    exact List.drop_left' hn'
  rw [h1, h2]; rfl
/-- Taken away where it was laid, all is as it was. -/
theorem lay_erase (L : List (Fl α)) (f : Fl α) : (lay L f).eraseIdx (spotOf L f.p) = L := by
  have hl := spot_le L f.p
  rw [lay_spot, List.eraseIdx_append_of_length_le (by rw [List.length_take]; omega), List.length_take, Nat.min_eq_left hl, Nat.sub_self]
  show L.take _ ++ L.drop _ = L
  exact List.take_append_drop _ _
theorem lay_at (L : List (Fl α)) (f : Fl α) : (lay L f)[spotOf L f.p]? = some f := by
  have hl := spot_le L f.p
  rw [lay_spot, List.getElem?_append_right (by rw [List.length_take]; omega), List.length_take, Nat.min_eq_left hl, Nat.sub_self]; rfl

/-- How many of these ends stand ahead of a place. -/
def nth (L : List (Fl α)) (i : Nat) (p : Pr) : Nat := (lineOf (L.take i) p).length
theorem erase_line : ∀ (L : List (Fl α)) (i : Nat) (hi : i < L.length) (p : Pr), lineOf (L.eraseIdx i) p = if L[i].p = p then (lineOf L p).eraseIdx (nth L i p) else lineOf L p
  | [], i, hi, p => absurd hi (by simp)
  | f :: L, 0, _, p => by
    rw [List.eraseIdx_zero, List.tail_cons, List.getElem_cons_zero]
    by_cases h : f.p = p
    · rw [if_pos h, lineOf_cons, if_pos h]; rfl
    · rw [if_neg h, lineOf_cons, if_neg h]
  | f :: L, i + 1, hi, p => by
    have ih := erase_line L i (by simpa using hi) p
    have e : (f :: L)[i + 1].p = (L[i]'(by simpa using hi)).p := rfl
    rw [List.eraseIdx_cons_succ, lineOf_cons, lineOf_cons, e, ih]
    unfold nth
    rw [List.take_succ_cons, lineOf_cons]
    by_cases h : f.p = p
    · by_cases h2 : (L[i]'(by simpa using hi)).p = p
      · simp only [if_pos h, if_pos h2, List.length_cons, List.eraseIdx_cons_succ]
      · simp only [if_pos h, if_neg h2]
    · simp only [if_neg h]
theorem erase_sorted {L : List (Fl α)} (h : Sorted L) (i : Nat) : Sorted (L.eraseIdx i) := h.sublist (List.eraseIdx_sublist _ _)
theorem nth_at : ∀ (L : List (Fl α)) (i : Nat) (hi : i < L.length), (lineOf L L[i].p)[nth L i L[i].p]? = some L[i].x
  | [], i, hi => absurd hi (by simp)
  | f :: L, 0, _ => by
    show (lineOf (f :: L) f.p)[0]? = some f.x
    rw [lineOf_cons, if_pos rfl]; rfl
  | f :: L, i + 1, hi => by
    have hi' : i < L.length := by simpa using hi
    have ih := nth_at L i hi'
    show (lineOf (f :: L) L[i].p)[(lineOf ((f :: L).take (i + 1)) L[i].p).length]? = some L[i].x
    rw [List.take_succ_cons, lineOf_cons, lineOf_cons]
    by_cases h : f.p = L[i].p
    · rw [if_pos h, if_pos h, List.length_cons, List.getElem?_cons_succ]; exact ih
    · rw [if_neg h, if_neg h]; exact ih
theorem nth_lt (L : List (Fl α)) (i : Nat) (hi : i < L.length) : nth L i L[i].p < (lineOf L L[i].p).length := (List.getElem?_eq_some_iff.1 (nth_at L i hi)).1
/-- Of a sorted list the one ahead is of the same line, or none is. -/
theorem nth_succ {L : List (Fl α)} (h : Sorted L) (i : Nat) (hi : i + 1 < L.length) : nth L (i + 1) L[i + 1].p = if L[i].p = L[i + 1].p then nth L i L[i].p + 1 else 0 := by
  unfold nth
  have e : L.take (i + 1) = L.take i ++ [L[i]] := List.take_succ_eq_append_getElem (by omega)
  by_cases hp : L[i].p = L[i + 1].p
  · rw [if_pos hp, ← hp, e, lineOf_append, List.length_append, lineOf_cons, if_pos rfl]; rfl
  · rw [if_neg hp, lineOf_none]; rfl
    intro f hf he
    obtain ⟨j, hj, rfl⟩ := List.mem_iff_getElem.1 hf
    rw [List.length_take] at hj
    rw [List.getElem_take] at he
    have h1 : Le L[i].p L[i + 1].p := (List.pairwise_iff_getElem.1 h) i (i + 1) (by omega) hi (by omega)
    have h2 : Le L[j].p L[i].p := by
      rcases Nat.lt_or_ge j i with hji | hji
      · exact (List.pairwise_iff_getElem.1 h) j i (by omega) (by omega) hji
      · obtain rfl : j = i := by omega
        exact Le.refl _
    exact hp (h1.anti (he ▸ h2))
theorem nth_zero (L : List (Fl α)) (p : Pr) : nth L 0 p = 0 := rfl

/-- The two ends of a number below 256. -/
def key (n : Nat) : Pr := (((n / 16 : Nat) : Int) + 1, ((n % 16 : Nat) : Int) + 1)
theorem key_lt {m n : Nat} (h : m < n) : Lt (key m) (key n) := by unfold Lt key; simp only; omega
theorem key_at (i j : Nat) (hj : j < 16) : key (16 * i + j) = ((i : Int) + 1, (j : Int) + 1) := by
  unfold key
  rw [show (16 * i + j) / 16 = i by omega, show (16 * i + j) % 16 = j by omega]
/-- All of one line. -/
def ofKey (L : List (Fl α)) (p : Pr) : List (Fl α) := L.filter fun f => decide (f.p = p)
theorem ofKey_line (L : List (Fl α)) (p : Pr) : ofKey L p = (lineOf L p).map (fun x => ⟨p, x⟩) := by
  unfold ofKey lineOf
  rw [List.map_map]
  refine Eq.trans (List.map_id _).symm (List.map_congr_left fun f hf => ?_)
  have := of_decide_eq_true (List.mem_filter.1 hf).2
  subst this; rfl
/-- The flights of the first n lines. -/
def upTo (L : List (Fl α)) (n : Nat) : List (Fl α) := (List.range n).flatMap fun k => ofKey L (key k)
theorem upTo_succ (L : List (Fl α)) (n : Nat) : upTo L (n + 1) = upTo L n ++ ofKey L (key n) := by
  unfold upTo
  rw [List.range_succ, List.flatMap_append, List.flatMap_singleton]
theorem upTo_filter {L : List (Fl α)} (h : Sorted L) : ∀ n, upTo L n = L.filter fun f => decide (∃ k < n, f.p = key k)
  | 0 => by
    rw [List.filter_eq_nil_iff.2 (fun f hf => by simp)]; rfl
  | n + 1 => by
    rw [upTo_succ, upTo_filter h n]
    clear upTo_filter
    induction L with
    | nil => rfl
    | cons f L ih =>
      have h' := List.pairwise_cons.1 h
      have ih := ih h'.2
      unfold ofKey at ih ⊢
      rw [List.filter_cons, List.filter_cons, List.filter_cons]
      by_cases h1 : ∃ k < n, f.p = key k
      · have h2 : ∃ k < n + 1, f.p = key k := by obtain ⟨k, hk, e⟩ := h1; exact ⟨k, by omega, e⟩
        have h3 : f.p ≠ key n := by
          obtain ⟨k, hk, e⟩ := h1
          rw [e]; exact (key_lt hk).ne
        rw [if_pos (decide_eq_true h1), if_neg (by simpa using h3), if_pos (decide_eq_true h2), List.cons_append, ih]
      · by_cases h3 : f.p = key n
        · have h2 : ∃ k < n + 1, f.p = key k := ⟨n, by omega, h3⟩
          have h0 : (L.filter fun f => decide (∃ k < n, f.p = key k)) = [] := by
            rw [List.filter_eq_nil_iff]
            intro g hg
            simp only [decide_eq_true_iff]
            rintro ⟨k, hk, e⟩
            have := h'.1 g hg
            rw [h3, e] at this
            exact (key_lt hk).ne ((key_lt hk).le.anti this)
          rw [if_neg (fun hc => h1 (of_decide_eq_true hc)), if_pos (decide_eq_true h3), if_pos (decide_eq_true h2), h0, List.nil_append, ← ih, h0, List.nil_append]
        · have h2 : ¬ ∃ k < n + 1, f.p = key k := by
            rintro ⟨k, hk, e⟩
            by_cases hkn : k = n
            · exact h3 (hkn ▸ e)
            · exact h1 ⟨k, by omega, e⟩
          rw [if_neg (fun hc => h1 (of_decide_eq_true hc)), if_neg (fun hc => h3 (of_decide_eq_true hc)), if_neg (fun hc => h2 (of_decide_eq_true hc)), ih]
/-- Both ends are there. -/
def InR (E : Int) (p : Pr) : Prop := 1 ≤ p.1 ∧ p.1 ≤ E ∧ 1 ≤ p.2 ∧ p.2 ≤ E ∧ p.1 ≠ p.2
instance (E : Int) (p : Pr) : Decidable (InR E p) := by unfold InR; infer_instance
theorem InR.key {p : Pr} (h : InR 16 p) : ∃ k < 256, p = key k := by
  obtain ⟨h1, h2, h3, h4, _⟩ := h
  refine ⟨16 * (p.1 - 1).toNat + (p.2 - 1).toNat, by omega, ?_⟩
  rw [key_at _ _ (by omega)]
  exact Prod.ext (by show p.1 = _; omega) (by show p.2 = _; omega)
theorem InR.mono {E F : Int} {p : Pr} (h : InR E p) (hE : E ≤ F) : InR F p := by unfold InR at *; omega
/-- Line by line it is the whole list. -/
theorem upTo_all {L : List (Fl α)} (h : Sorted L) (hr : ∀ f ∈ L, InR 16 f.p) : upTo L 256 = L := by
  rw [upTo_filter h]
  exact List.filter_eq_self.2 fun f hf => by
    have := (hr f hf).key
    simpa using this
/-- The lines' lengths, together, are the list's, whatever the order of the lines. -/
theorem sum_lines : ∀ (ks : List Pr) (L : List (Fl α)), ks.Nodup → (∀ f ∈ L, f.p ∈ ks) → (ks.map fun p => (lineOf L p).length).sum = L.length
  | [], L, _, h => by
    cases L with
    | nil => rfl
    | cons f L => exact absurd (h f List.mem_cons_self) (by simp)
  | k :: ks, L, hn, h => by
    have hn' := List.nodup_cons.1 hn
    have hs : (L.filter fun f => decide (f.p = k)).length + (L.filter fun f => !decide (f.p = k)).length = L.length := by
      clear h hn hn'
      induction L with
      | nil => rfl
      | cons f L ih =>
        rw [List.filter_cons, List.filter_cons]
        by_cases e : f.p = k
        · simp only [e, decide_true, if_true, Bool.not_true, Bool.false_eq_true, if_false, List.length_cons]; omega
        · simp only [e, decide_false, Bool.false_eq_true, if_false, Bool.not_false, if_true, List.length_cons]; omega
    have ih := sum_lines ks (L.filter fun f => !decide (f.p = k)) hn'.2 (fun f hf => by
      have h1 := List.mem_filter.1 hf
      have h2 : f.p ≠ k := by simpa using h1.2
      rcases List.mem_cons.1 (h f h1.1) with h3 | h3
      · exact absurd h3 h2
      · exact h3)
    have e2 : (ks.map fun p => (lineOf L p).length) = ks.map fun p => (lineOf (L.filter fun f => !decide (f.p = k)) p).length := by
      refine List.map_congr_left fun p hp => ?_
      have hpk : p ≠ k := fun e => hn'.1 (e ▸ hp)
      unfold lineOf
      rw [List.filter_filter, List.length_map, List.length_map]
      congr 1
      refine List.filter_congr fun f _ => ?_
      by_cases e : f.p = p
      · have : f.p ≠ k := fun e' => hpk (e.symm.trans e')
        simp [e, hpk]
      · simp [e]
    rw [List.map_cons, List.sum_cons, e2, ih]
    unfold lineOf
    rw [List.length_map]
    exact hs
/-- Behind Clear. -/
def clear (L : List (Fl α)) (e : Int) : List (Fl α) := L.filter fun f => !decide (f.p.2 = e)
theorem clear_line (L : List (Fl α)) (e : Int) (p : Pr) : lineOf (clear L e) p = if p.2 = e then [] else lineOf L p := by
  unfold clear lineOf
  rw [List.filter_filter]
  by_cases h : p.2 = e
  · rw [if_pos h, List.filter_eq_nil_iff.2]
    · rfl
    · intro f _
      by_cases e2 : f.p = p
      · simp [e2, h]
      · simp [e2]
  · rw [if_neg h]
    congr 1
    refine List.filter_congr fun f _ => ?_
    by_cases e2 : f.p = p
    · simp [e2, h]
    · simp [e2]
theorem clear_sorted {L : List (Fl α)} (h : Sorted L) (e : Int) : Sorted (clear L e) := h.filter _
/-- What it bears, turned by a function. -/
def mapX {β : Type} (g : α → β) (L : List (Fl α)) : List (Fl β) := L.map fun f => ⟨f.p, g f.x⟩
section
variable {β : Type} (g : α → β) (L : List (Fl α))
theorem mapX_len : (mapX g L).length = L.length := List.length_map ..
theorem mapX_line (p : Pr) : lineOf (mapX g L) p = (lineOf L p).map g := by
  unfold mapX
  induction L with
  | nil => rfl
  | cons f L ih =>
    rw [List.map_cons, lineOf_cons, lineOf_cons, ih]
    by_cases h : f.p = p <;> simp [h]
theorem mapX_take (p : Pr) : (mapX g L).takeWhile (leB p) = mapX g (L.takeWhile (leB p)) ∧ (mapX g L).dropWhile (leB p) = mapX g (L.dropWhile (leB p)) := by
  unfold mapX
  induction L with
  | nil => exact ⟨rfl, rfl⟩
  | cons f L ih =>
    rw [List.map_cons, List.takeWhile_cons, List.takeWhile_cons, List.dropWhile_cons, List.dropWhile_cons, ih.1, ih.2]
    by_cases h : Le f.p p <;> simp [leB, h]
theorem mapX_lay (f : Fl α) : mapX g (lay L f) = lay (mapX g L) ⟨f.p, g f.x⟩ := by
  unfold lay
  rw [(mapX_take g L f.p).1, (mapX_take g L f.p).2]
  simp [mapX]
theorem mapX_erase (i : Nat) : mapX g (L.eraseIdx i) = (mapX g L).eraseIdx i := by
  unfold mapX
  induction L generalizing i with
  | nil => rfl
  | cons f L ih =>
    cases i with
    | zero => rfl
    | succ i => rw [List.eraseIdx_cons_succ, List.map_cons, List.map_cons, List.eraseIdx_cons_succ, ih]
theorem mapX_clear (e : Int) : mapX g (clear L e) = clear (mapX g L) e := by
  unfold mapX clear
  rw [List.filter_map]; rfl
theorem mapX_at (i : Nat) : (mapX g L)[i]? = L[i]?.map (fun f => ⟨f.p, g f.x⟩) := by
  unfold mapX; rw [List.getElem?_map]
theorem mapX_spot (p : Pr) : spotOf (mapX g L) p = spotOf L p := by
  unfold spotOf
  rw [(mapX_take g L p).1, mapX_len]
end
end
end Go.Proofs.Ytellbmghahgjfaa.NetM

/-
  Sets of dots as plain functions: a vector of first ones, exceptions, what is in them; that the compact form is one alone; adding, joining. No program is named here.
-/
import Derived.Test.YtldfaaahmpncbaaGreatRows
namespace Go.Proofs.YtldfaaahmpncbaaGreat.CtxM
set_option linter.unusedVariables false
set_option linter.unusedSimpArgs false

abbrev Dt := Int × Nat
def top : Nat := 4611686018427387904
def May (d : Dt) : Prop := 1 ≤ d.1 ∧ d.1 ≤ 16 ∧ 1 ≤ d.2 ∧ d.2 ≤ top
instance (d : Dt) : Decidable (May d) := by unfold May; infer_instance
def Lt (a b : Dt) : Prop := a.1 < b.1 ∨ (a.1 = b.1 ∧ a.2 < b.2)
instance (a b : Dt) : Decidable (Lt a b) := by unfold Lt; infer_instance
/-- The number of a region, whatever the region. -/
def at_ (V : List Nat) (r : Int) : Nat := V.getD (r - 1).toNat 0
def Rise (L : List Dt) : Prop := L.Pairwise Lt
structure Fit (V : List Nat) (X : List Dt) : Prop where
  len : V.length = 16
  le : ∀ n ∈ V, n ≤ top
  rise : Rise X
  may : ∀ d ∈ X, May d
  beyond : ∀ d ∈ X, at_ V d.1 + 1 < d.2
def In (V : List Nat) (X : List Dt) (d : Dt) : Prop := May d ∧ (d ∈ X ∨ d.2 ≤ at_ V d.1)
instance (V : List Nat) (X : List Dt) (d : Dt) : Decidable (In V X d) := by unfold In; infer_instance

theorem Lt.irrefl (a : Dt) : ¬ Lt a a := by unfold Lt; omega
theorem Lt.trans {a b c : Dt} (h : Lt a b) (k : Lt b c) : Lt a c := by unfold Lt at *; omega
theorem Lt.asymm {a b : Dt} (h : Lt a b) : ¬ Lt b a := by unfold Lt at *; omega
theorem Lt.tri (a b : Dt) : Lt a b ∨ a = b ∨ Lt b a := by
  rcases a with ⟨a1, a2⟩
  rcases b with ⟨b1, b2⟩
  unfold Lt
  simp only [Prod.mk.injEq]
  omega

/-- Strictly rising lists with the same members are the same. -/
theorem rise_ext : ∀ {L M : List Dt}, Rise L → Rise M → (∀ d, d ∈ L ↔ d ∈ M) → L = M
  | [], [], _, _, _ => rfl
  | [], b :: M, _, _, h => absurd ((h b).2 (List.mem_cons_self ..)) (by simp)
  | a :: L, [], _, _, h => absurd ((h a).1 (List.mem_cons_self ..)) (by simp)
  | a :: L, b :: M, hl, hm, h => by
    obtain ⟨hl1, hl2⟩ := List.pairwise_cons.1 hl
    obtain ⟨hm1, hm2⟩ := List.pairwise_cons.1 hm
    have hab : a = b := by
      rcases Lt.tri a b with x | x | x
      · rcases List.mem_cons.1 ((h a).1 (List.mem_cons_self ..)) with e | e
        · exact e
        · exact absurd x (hm1 a e).asymm
      · exact x
      · rcases List.mem_cons.1 ((h b).2 (List.mem_cons_self ..)) with e | e
        · exact e.symm
        · exact absurd x (hl1 b e).asymm
    subst hab
    rw [rise_ext hl2 hm2 fun d => ⟨fun hd => ?_, fun hd => ?_⟩]
    · rcases List.mem_cons.1 ((h d).1 (List.mem_cons_of_mem _ hd)) with e | e
      · subst e; exact absurd (hl1 _ hd) (Lt.irrefl _)
      · exact e
    · rcases List.mem_cons.1 ((h d).2 (List.mem_cons_of_mem _ hd)) with e | e
      · subst e; exact absurd (hm1 _ hd) (Lt.irrefl _)
      · exact e

theorem at_le {V : List Nat} (h : ∀ n ∈ V, n ≤ top) (r : Int) : at_ V r ≤ top := by
  unfold at_
  by_cases hr : (r - 1).toNat < V.length
  · simp only [List.getD_eq_getElem?_getD, List.getElem?_eq_getElem hr, Option.getD_some]
    exact h _ (List.getElem_mem hr)
  · simp only [List.getD_eq_getElem?_getD, List.getElem?_eq_none (Nat.le_of_not_lt hr), Option.getD_none]
    exact Nat.zero_le _

theorem vec_ext {V W : List Nat} (hV : V.length = 16) (hW : W.length = 16) (h : ∀ r : Int, 1 ≤ r → r ≤ 16 → at_ V r = at_ W r) : V = W := by
  refine List.ext_getElem (by omega) fun i h1 h2 => ?_
  have := h ((i : Int) + 1) (by omega) (by omega)
  unfold at_ at this
  rw [show ((i : Int) + 1 - 1).toNat = i by omega] at this
  simpa [List.getD_eq_getElem?_getD, List.getElem?_eq_getElem h1, List.getElem?_eq_getElem h2] using this

theorem not_next {V : List Nat} {X : List Dt} (h : Fit V X) (r : Int) : ¬ In V X (r, at_ V r + 1) := by
  rintro ⟨hm, hx | hv⟩
  · have := h.beyond _ hx
    simp at this
  · simp at hv; omega

theorem fit_at {V W : List Nat} {X Y : List Dt} (h : Fit V X) (k : Fit W Y) (hs : ∀ d, In V X d → In W Y d) (r : Int) (h1 : 1 ≤ r) (h2 : r ≤ 16) : at_ V r ≤ at_ W r := by
  rcases Nat.lt_or_ge (at_ W r) (at_ V r) with hlt | hge
  · have hm : May (r, at_ W r + 1) := ⟨h1, h2, by simp, by have := at_le h.le r; simp; omega⟩
    exact absurd (hs _ ⟨hm, .inr (by simp; omega)⟩) (not_next k r)
  · exact hge

/-- The compact form is one alone. -/
theorem fit_ext {V W : List Nat} {X Y : List Dt} (h : Fit V X) (k : Fit W Y) (hs : ∀ d, In V X d ↔ In W Y d) : V = W ∧ X = Y := by
  have e : V = W := vec_ext h.len k.len fun r h1 h2 => Nat.le_antisymm (fit_at h k (fun d => (hs d).1) r h1 h2) (fit_at k h (fun d => (hs d).2) r h1 h2)
  subst e
  refine ⟨rfl, rise_ext h.rise k.rise fun d => ⟨fun hd => ?_, fun hd => ?_⟩⟩
  · rcases ((hs d).1 ⟨h.may d hd, .inl hd⟩).2 with x | x
    · exact x
    · have := h.beyond d hd; omega
  · rcases ((hs d).2 ⟨k.may d hd, .inl hd⟩).2 with x | x
    · exact x
    · have := k.beyond d hd; omega

/-! What is taken into the first ones, dot by dot. -/
def cp : List Nat → List Dt → List Nat × List Dt
  | V, [] => (V, [])
  | V, d :: L => if d.2 = at_ V d.1 + 1 then cp (V.set (d.1 - 1).toNat d.2) L else if at_ V d.1 < d.2 then ((cp V L).1, d :: (cp V L).2) else cp V L
/-- .. of one region. -/
def fr : Nat → List Dt → Nat × List Dt
  | n, [] => (n, [])
  | n, d :: L => if d.2 = n + 1 then fr (n + 1) L else if n < d.2 then ((fr n L).1, d :: (fr n L).2) else fr n L

theorem at_set (V : List Nat) (r s : Int) (n : Nat) (hr : 1 ≤ r) (hs : 1 ≤ s) (hl : r ≤ V.length) : at_ (V.set (r - 1).toNat n) s = if s = r then n else at_ V s := by
  unfold at_
  simp only [List.getD_eq_getElem?_getD, List.getElem?_set]
  by_cases h : s = r
  · subst h
    rw [if_pos rfl, if_pos rfl, if_pos (by omega)]; rfl
  · rw [if_neg (by omega), if_neg h]

theorem cp_len : ∀ (L : List Dt) (V : List Nat), (cp V L).1.length = V.length
  | [], V => rfl
  | d :: L, V => by
    unfold cp
    split
    · rw [cp_len L]; simp
    · split
      · exact cp_len L V
      · exact cp_len L V
theorem cp_short : ∀ (L : List Dt) (V : List Nat), (cp V L).2.length ≤ L.length
  | [], V => by simp [cp]
  | d :: L, V => by
    unfold cp
    split
    · have := cp_short L (V.set (d.1 - 1).toNat d.2); rw [List.length_cons]; omega
    · split
      · have := cp_short L V; rw [List.length_cons, List.length_cons]; omega
      · have := cp_short L V; rw [List.length_cons]; omega
theorem cp_sub : ∀ (L : List Dt) (V : List Nat), (cp V L).2.Sublist L
  | [], V => by simp [cp]
  | d :: L, V => by
    unfold cp
    split
    · exact (cp_sub L _).cons _
    · split
      · exact (cp_sub L V).cons_cons _
      · exact (cp_sub L V).cons _
/-- Region by region. -/
theorem cp_fr : ∀ (L : List Dt) (V : List Nat) (hV : V.length = 16) (hL : ∀ d ∈ L, May d) (r : Int) (h1 : 1 ≤ r) (h2 : r ≤ 16),
    at_ (cp V L).1 r = (fr (at_ V r) (L.filter fun d => decide (d.1 = r))).1 ∧ ((cp V L).2.filter fun d => decide (d.1 = r)) = (fr (at_ V r) (L.filter fun d => decide (d.1 = r))).2
  | [], V, _, _, r, _, _ => by simp [cp, fr]
  | d :: L, V, hV, hL, r, h1, h2 => by
    have hL' : ∀ e ∈ L, May e := fun e he => hL e (List.mem_cons_of_mem _ he)
    have hd := hL d (List.mem_cons_self ..)
    have ih := fun V hV => cp_fr L V hV hL' r h1 h2
    have hs := at_set V d.1 r d.2 hd.1 h1 (by have := hd.2.1; omega)
    unfold cp
    by_cases hr : d.1 = r
    · rw [List.filter_cons_of_pos (by simp [hr])]
      rw [fr]
      subst hr
      by_cases e1 : d.2 = at_ V d.1 + 1
      · rw [if_pos e1, if_pos e1]
        have := ih (V.set (d.1 - 1).toNat d.2) (by simpa using hV)
        rw [hs, if_pos rfl] at this
        rw [← e1]
        exact this
      · rw [if_neg e1, if_neg e1]
        by_cases e2 : at_ V d.1 < d.2
        · rw [if_pos e2, if_pos e2]
          exact ⟨(ih V hV).1, (List.filter_cons_of_pos (by simp)).trans (congrArg _ (ih V hV).2)⟩
        · rw [if_neg e2, if_neg e2]
          exact ih V hV
    · rw [List.filter_cons_of_neg (by simp [hr])]
      by_cases e1 : d.2 = at_ V d.1 + 1
      · rw [if_pos e1]
        have := ih (V.set (d.1 - 1).toNat d.2) (by simpa using hV)
        rw [hs, if_neg (fun e => hr e.symm)] at this
        exact this
      · rw [if_neg e1]
        by_cases e2 : at_ V d.1 < d.2
        · rw [if_pos e2]
          exact ⟨(ih V hV).1, (List.filter_cons_of_neg (by simp [hr])).trans (ih V hV).2⟩
        · rw [if_neg e2]
          exact ih V hV

theorem fr_ge : ∀ (L : List Dt) (n : Nat), n ≤ (fr n L).1
  | [], n => by simp [fr]
  | d :: L, n => by
    unfold fr
    split
    · have := fr_ge L (n + 1); omega
    · split
      · exact fr_ge L n
      · exact fr_ge L n
theorem fr_all : ∀ (L : List Dt) (n : Nat) (h : ∀ d ∈ L, n + 1 < d.2), fr n L = (n, L)
  | [], n, _ => rfl
  | d :: L, n, h => by
    have h1 := h d (List.mem_cons_self ..)
    unfold fr
    rw [if_neg (by omega), if_pos (by omega), fr_all L n fun e he => h e (List.mem_cons_of_mem _ he)]
/-- Of rising counts: what is in, and what is beyond. -/
theorem fr_spec : ∀ (L : List Dt) (n : Nat) (hL : L.Pairwise fun a b => a.2 < b.2) (hn : n ≤ top) (ht : ∀ d ∈ L, d.2 ≤ top),
    (fr n L).1 ≤ top ∧ (∀ d ∈ (fr n L).2, (fr n L).1 + 1 < d.2 ∧ d ∈ L) ∧ (∀ d ∈ L, d ∈ (fr n L).2 ∨ d.2 ≤ (fr n L).1) ∧ ∀ c, n < c → c ≤ (fr n L).1 → ∃ d ∈ L, d.2 = c
  | [], n, _, hn, _ => ⟨hn, by simp [fr], by simp, fun c h1 h2 => by simp [fr] at h2; omega⟩
  | d :: L, n, hL, hn, ht => by
    obtain ⟨hL1, hL2⟩ := List.pairwise_cons.1 hL
    have ht' : ∀ e ∈ L, e.2 ≤ top := fun e he => ht e (List.mem_cons_of_mem _ he)
    have hd := ht d (List.mem_cons_self ..)
    unfold fr
    by_cases e1 : d.2 = n + 1
    · rw [if_pos e1]
      obtain ⟨a, b, c, e⟩ := fr_spec L (n + 1) hL2 (by omega) ht'
      refine ⟨a, fun x hx => ⟨(b x hx).1, List.mem_cons_of_mem _ (b x hx).2⟩, fun x hx => ?_, fun k h1 h2 => ?_⟩
      · rcases List.mem_cons.1 hx with y | y
        · subst y
          have := fr_ge L (n + 1)
          exact .inr (by omega)
        · exact c x y
      · by_cases hk : k = n + 1
        · exact ⟨d, List.mem_cons_self .., by omega⟩
        · obtain ⟨x, hx, hx2⟩ := e k (by omega) h2
          exact ⟨x, List.mem_cons_of_mem _ hx, hx2⟩
    · rw [if_neg e1]
      by_cases e2 : n < d.2
      · rw [if_pos e2, fr_all L n fun x hx => by have := hL1 x hx; omega]
        refine ⟨hn, fun x hx => ⟨?_, hx⟩, fun x hx => .inl hx, fun k h1 h2 => by omega⟩
        rcases List.mem_cons.1 hx with y | y
        · subst y; show n + 1 < x.2; omega
        · have := hL1 x y; show n + 1 < x.2; omega
      · rw [if_neg e2]
        obtain ⟨a, b, c, e⟩ := fr_spec L n hL2 hn ht'
        refine ⟨a, fun x hx => ⟨(b x hx).1, List.mem_cons_of_mem _ (b x hx).2⟩, fun x hx => ?_, fun k h1 h2 => ?_⟩
        · rcases List.mem_cons.1 hx with y | y
          · subst y
            have := fr_ge L n
            exact .inr (by omega)
          · exact c x y
        · obtain ⟨x, hx, hx2⟩ := e k h1 h2
          exact ⟨x, List.mem_cons_of_mem _ hx, hx2⟩

theorem rise_region {L : List Dt} (h : Rise L) (r : Int) : (L.filter fun d => decide (d.1 = r)).Pairwise fun a b => a.2 < b.2 := by
  have h2 := List.Pairwise.filter (fun d => decide (d.1 = r)) h
  refine List.Pairwise.imp_of_mem (fun {a b} ha hb hl => ?_) h2
  have h3 : a.1 = r := by simpa using (List.mem_filter.1 ha).2
  have h4 : b.1 = r := by simpa using (List.mem_filter.1 hb).2
  unfold Lt at hl
  omega

/-- What 'cp' makes is compact, and holds just what was there. -/
theorem cp_spec {V : List Nat} {L : List Dt} (hV : V.length = 16) (hle : ∀ n ∈ V, n ≤ top) (hr : Rise L) (hm : ∀ d ∈ L, May d) :
    Fit (cp V L).1 (cp V L).2 ∧ ∀ d, In (cp V L).1 (cp V L).2 d ↔ In V L d := by
  have hlen : (cp V L).1.length = 16 := by rw [cp_len]; exact hV
  have key : ∀ r : Int, 1 ≤ r → r ≤ 16 → _ := fun r h1 h2 => fr_spec (L.filter fun d => decide (d.1 = r)) (at_ V r) (rise_region hr r) (at_le hle r) fun d hd => (hm d (List.mem_filter.1 hd).1).2.2.2
  have cf : ∀ r : Int, 1 ≤ r → r ≤ 16 → _ := fun r h1 h2 => cp_fr L V hV hm r h1 h2
  have hsub := cp_sub L V
  refine ⟨⟨hlen, fun n hn => ?_, hr.sublist hsub, fun d hd => hm d (hsub.subset hd), fun d hd => ?_⟩, fun d => ?_⟩
  · obtain ⟨i, hi, rfl⟩ := List.getElem_of_mem hn
    have := (cf ((i : Int) + 1) (by omega) (by omega)).1
    have h3 := (key ((i : Int) + 1) (by omega) (by omega)).1
    rw [← this] at h3
    unfold at_ at h3
    rw [show ((i : Int) + 1 - 1).toNat = i by omega] at h3
    simpa [List.getD_eq_getElem?_getD, List.getElem?_eq_getElem hi] using h3
  · have h1 := hm d (hsub.subset hd)
    have c1 := cf d.1 h1.1 h1.2.1
    have k1 := (key d.1 h1.1 h1.2.1).2.1 d (by rw [← c1.2]; exact List.mem_filter.2 ⟨hd, by simp⟩)
    rw [c1.1]; exact k1.1
  · constructor
    · rintro ⟨h1, h2⟩
      refine ⟨h1, ?_⟩
      have c1 := cf d.1 h1.1 h1.2.1
      have k1 := key d.1 h1.1 h1.2.1
      rcases h2 with h2 | h2
      · exact .inl (hsub.subset h2)
      · by_cases h3 : d.2 ≤ at_ V d.1
        · exact .inr h3
        · obtain ⟨x, hx, hx2⟩ := k1.2.2.2 d.2 (by omega) (by rw [← c1.1]; exact h2)
          have hx3 : x.1 = d.1 := by simpa using (List.mem_filter.1 hx).2
          have : x = d := Prod.ext hx3 hx2
          subst this
          exact .inl (List.mem_filter.1 hx).1
    · rintro ⟨h1, h2⟩
      refine ⟨h1, ?_⟩
      have c1 := cf d.1 h1.1 h1.2.1
      have k1 := key d.1 h1.1 h1.2.1
      rcases h2 with h2 | h2
      · rcases k1.2.2.1 d (List.mem_filter.2 ⟨h2, by simp⟩) with h3 | h3
        · rw [← c1.2] at h3
          exact .inl (List.mem_filter.1 h3).1
        · rw [← c1.1] at h3; exact .inr h3
      · have := fr_ge (L.filter fun x => decide (x.1 = d.1)) (at_ V d.1)
        rw [← c1.1] at this
        exact .inr (by omega)

/-! Adding. -/
def ins (X : List Dt) (d : Dt) : List Dt := (X.filter fun x => decide (Lt x d)) ++ d :: (X.filter fun x => decide (¬ Lt x d))
theorem mem_ins {X : List Dt} {d x : Dt} : x ∈ ins X d ↔ x = d ∨ x ∈ X := by
  unfold ins
  simp only [List.mem_append, List.mem_cons, List.mem_filter, decide_eq_true_eq]
  by_cases h : Lt x d <;> simp [h] <;> grind
theorem ins_len (X : List Dt) (d : Dt) : (ins X d).length = X.length + 1 := by
  unfold ins
  induction X with
  | nil => simp
  | cons x X ih =>
    by_cases h : Lt x d <;> simp [h] at ih ⊢ <;> omega
theorem rise_ins {X : List Dt} {d : Dt} (h : Rise X) (hd : d ∉ X) : Rise (ins X d) := by
  unfold ins Rise
  rw [List.pairwise_append]
  refine ⟨List.Pairwise.filter _ h, List.pairwise_cons.2 ⟨fun x hx => ?_, List.Pairwise.filter _ h⟩, fun a ha b hb => ?_⟩
  · obtain ⟨h1, h2⟩ := List.mem_filter.1 hx
    rcases Lt.tri x d with y | y | y
    · simp [y] at h2
    · subst y; exact absurd h1 hd
    · exact y
  · obtain ⟨h1, h2⟩ := List.mem_filter.1 ha
    have h2 : Lt a d := by simpa using h2
    rcases List.mem_cons.1 hb with y | y
    · subst y; exact h2
    · obtain ⟨h3, h4⟩ := List.mem_filter.1 y
      have h4 : ¬ Lt b d := by simpa using h4
      rcases Lt.tri b d with z | z | z
      · exact absurd z h4
      · subst z; exact h2
      · exact h2.trans z
/-- The set with one dot more. -/
def addF (S : List Nat × List Dt) (d : Dt) : List Nat × List Dt := if In S.1 S.2 d then S else cp S.1 (ins S.2 d)
theorem addF_spec {S : List Nat × List Dt} {d : Dt} (h : Fit S.1 S.2) (hd : May d) :
    Fit (addF S d).1 (addF S d).2 ∧ ∀ x, In (addF S d).1 (addF S d).2 x ↔ In S.1 S.2 x ∨ x = d := by
  unfold addF
  by_cases hi : In S.1 S.2 d
  · rw [if_pos hi]
    exact ⟨h, fun x => ⟨.inl, fun hx => hx.elim id fun e => e ▸ hi⟩⟩
  · rw [if_neg hi]
    have hn : d ∉ S.2 := fun hx => hi ⟨hd, .inl hx⟩
    obtain ⟨a, b⟩ := cp_spec h.len h.le (rise_ins h.rise hn) (fun x hx => by rcases mem_ins.1 hx with e | e; exact e ▸ hd; exact h.may x e)
    refine ⟨a, fun x => (b x).trans ?_⟩
    unfold In
    rw [mem_ins]
    constructor
    · rintro ⟨h1, (h2 | h2) | h2⟩
      · exact .inr h2
      · exact .inl ⟨h1, .inl h2⟩
      · exact .inl ⟨h1, .inr h2⟩
    · rintro (⟨h1, h2 | h2⟩ | h2)
      · exact ⟨h1, .inl (.inr h2)⟩
      · exact ⟨h1, .inr h2⟩
      · exact ⟨h2 ▸ hd, .inl (.inl h2)⟩
theorem addF_short (S : List Nat × List Dt) (d : Dt) : (addF S d).2.length ≤ S.2.length + 1 := by
  unfold addF
  split
  · omega
  · have := cp_short (ins S.2 d) S.1
    rw [ins_len] at this
    exact this

def zeros : List Nat := List.replicate 16 0
theorem fit_zero : Fit zeros [] := ⟨by decide, by intro n hn; simp [zeros] at hn; subst hn; exact Nat.zero_le _, List.Pairwise.nil, by simp, by simp⟩
theorem at_zeros (r : Int) : at_ zeros r = 0 := by
  unfold at_ zeros
  rw [List.getD_eq_getElem?_getD, List.getElem?_replicate]
  split <;> rfl
theorem in_zero (d : Dt) : ¬ In zeros [] d := by
  rintro ⟨h1, h2 | h2⟩
  · simp at h2
  · rw [at_zeros] at h2; have := h1.2.2.1; omega
/-- All dots that may be, one after the other. -/
def addAll (S : List Nat × List Dt) (l : List Dt) : List Nat × List Dt := l.foldl (fun S d => if May d then addF S d else S) S
theorem addAll_cons (S : List Nat × List Dt) (d : Dt) (l : List Dt) : addAll S (d :: l) = addAll (if May d then addF S d else S) l := rfl
theorem addAll_append (S : List Nat × List Dt) (l m : List Dt) : addAll S (l ++ m) = addAll (addAll S l) m := by unfold addAll; rw [List.foldl_append]
theorem addAll_spec : ∀ (l : List Dt) (S : List Nat × List Dt) (h : Fit S.1 S.2), Fit (addAll S l).1 (addAll S l).2 ∧ ∀ x, In (addAll S l).1 (addAll S l).2 x ↔ In S.1 S.2 x ∨ (May x ∧ x ∈ l)
  | [], S, h => ⟨h, fun x => by simp [addAll]⟩
  | d :: l, S, h => by
    rw [addAll_cons]
    by_cases hd : May d
    · rw [if_pos hd]
      obtain ⟨a, b⟩ := addF_spec h hd
      obtain ⟨a', b'⟩ := addAll_spec l _ a
      refine ⟨a', fun x => (b' x).trans ?_⟩
      rw [b x]
      constructor
      · rintro ((h1 | h1) | h1)
        · exact .inl h1
        · exact .inr ⟨h1 ▸ hd, by simp [h1]⟩
        · exact .inr ⟨h1.1, by simp [h1.2]⟩
      · rintro (h1 | ⟨h1, h2⟩)
        · exact .inl (.inl h1)
        · rcases List.mem_cons.1 h2 with e | e
          · exact .inl (.inr e)
          · exact .inr ⟨h1, e⟩
    · rw [if_neg hd]
      obtain ⟨a', b'⟩ := addAll_spec l _ h
      refine ⟨a', fun x => (b' x).trans ?_⟩
      constructor
      · rintro (h1 | h1)
        · exact .inl h1
        · exact .inr ⟨h1.1, by simp [h1.2]⟩
      · rintro (h1 | ⟨h1, h2⟩)
        · exact .inl h1
        · rcases List.mem_cons.1 h2 with e | e
          · exact absurd (e ▸ h1) hd
          · exact .inr ⟨h1, e⟩
theorem addAll_short : ∀ (l : List Dt) (S : List Nat × List Dt), (addAll S l).2.length ≤ S.2.length + l.length
  | [], S => by simp [addAll]
  | d :: l, S => by
    rw [addAll_cons]
    have h1 := addAll_short l (if May d then addF S d else S)
    have h2 : (if May d then addF S d else S).2.length ≤ S.2.length + 1 := by
      split
      · exact addF_short S d
      · omega
    simp
    omega
end Go.Proofs.YtldfaaahmpncbaaGreat.CtxM

/-
  The library's sort laid at items and at keys: tables of numbers, two theorems.
-/
import Derived.Shelf.SlGeneric
import Derived.Shelf.SlLaysF0
import Derived.Ground.SlsfProg
import Derived.Test.YtldfaaahmpncbaaGreatProg
import Derived.Test.YtldfaaahmpncbaaGreatOrsAE
import Derived.Shelf.SlSortCmp.NoneTotal
import Derived.Lib.Bytealg
import Derived.Lib.Strings
import Derived.Test.YtldfaaahmpncbaaGreatOrsAB
import Derived.Test.YtldfaaahmpncbaaGreatCtxCopy
namespace Go.Proofs
open Go.Shelf
def Tryz.sortI_ren : Go.Shelf.Ren := ⟨fun | 6 => 90 | 15 => 116 | 14 => 115 | 28 => 138 | 29 => 139 | 20 => 130 | 21 => 131 | 22 => 132 | 23 => 133 | 24 => 134 | 25 => 135 | 26 => 136 | 27 => 137 | 46 => 160 | 47 => 161 | 48 => 162 | 49 => 163 | 50 => 164 | 57 => 173 | n => n, fun | 22 => 33 | 24 => 48 | 25 => 126 | 3 => 3 | 39 => 146 | 0 => 0 | 53 => 161 | 55 => 28 | 4 => 4 | 46 => 155 | 45 => 154 | 50 => 118 | 5 => 5 | 9 => 9 | 66 => 176 | 70 => 180 | 76 => 187 | 77 => 188 | n => n, fun | n => n⟩
theorem Tryz.sortI : Go.Proofs.SlLaysF0.n6 Tryz.prog Tryz.sortI_ren := {
  mixed := by kernel_rfl
  f6 := ⟨Tryz.f90.name, by decide, Tryz.func90.trans (congrArg some (by kernel_rfl))⟩
  f14 := ⟨Tryz.f115.name, by decide, Tryz.func115.trans (congrArg some (by kernel_rfl))⟩
  f15 := Tryz.func116.trans (congrArg some (by kernel_rfl))
  f20 := ⟨Tryz.f130.name, by decide, Tryz.func130.trans (congrArg some (by kernel_rfl))⟩
  f21 := ⟨Tryz.f131.name, by decide, Tryz.func131.trans (congrArg some (by kernel_rfl))⟩
  f22 := ⟨Tryz.f132.name, by decide, Tryz.func132.trans (congrArg some (by kernel_rfl))⟩
  f23 := ⟨Tryz.f133.name, by decide, Tryz.func133.trans (congrArg some (by kernel_rfl))⟩
  f24 := ⟨Tryz.f134.name, by decide, Tryz.func134.trans (congrArg some (by kernel_rfl))⟩
  f25 := ⟨Tryz.f135.name, by decide, Tryz.func135.trans (congrArg some (by kernel_rfl))⟩
  f26 := ⟨Tryz.f136.name, by decide, Tryz.func136.trans (congrArg some (by kernel_rfl))⟩
  f27 := ⟨Tryz.f137.name, by decide, Tryz.func137.trans (congrArg some (by kernel_rfl))⟩
  f28 := Tryz.func138.trans (congrArg some (by kernel_rfl))
  f29 := Tryz.func139.trans (congrArg some (by kernel_rfl))
  f46 := ⟨Tryz.f160.name, by decide, Tryz.func160.trans (congrArg some (by kernel_rfl))⟩
  f47 := Tryz.func161.trans (congrArg some (by kernel_rfl))
  f48 := Tryz.func162.trans (congrArg some (by kernel_rfl))
  f49 := ⟨Tryz.f163.name, by decide, Tryz.func163.trans (congrArg some (by kernel_rfl))⟩
  f50 := ⟨Tryz.f164.name, by decide, Tryz.func164.trans (congrArg some (by kernel_rfl))⟩
  f57 := ⟨Tryz.f173.name, by decide, Tryz.func173.trans (congrArg some (by kernel_rfl))⟩
  t0 := Tryz.underlying0
  a0 := Tryz.isAgg0
  z0 := Tryz.sizeOf0
  v0 := Tryz.zeroValue0
  t3 := Tryz.underlying3
  a3 := Tryz.isAgg3
  z3 := Tryz.sizeOf3
  v3 := Tryz.zeroValue3
  t4 := Tryz.underlying4
  a4 := Tryz.isAgg4
  z4 := Tryz.sizeOf4
  v4 := Tryz.zeroValue4
  t5 := Tryz.underlying5
  a5 := Tryz.isAgg5
  z5 := Tryz.sizeOf5
  v5 := Tryz.zeroValue5
  t9 := Tryz.underlying9
  a9 := Tryz.isAgg9
  z9 := Tryz.sizeOf9
  v9 := Tryz.zeroValue9
  t22 := Tryz.underlying33
  a22 := Tryz.isAgg33
  z22 := Tryz.sizeOf33
  v22 := Tryz.zeroValue33
  t25 := Tryz.underlying126
  a25 := Tryz.isAgg126
  z25 := Tryz.sizeOf126
  v25 := Tryz.zeroValue126
  t39 := Tryz.underlying146
  a39 := Tryz.isAgg146
  z39 := Tryz.sizeOf146
  v39 := Tryz.zeroValue146
  t45 := Tryz.underlying154
  a45 := Tryz.isAgg154
  z45 := Tryz.sizeOf154
  v45 := Tryz.zeroValue154
  t46 := Tryz.underlying155
  a46 := Tryz.isAgg155
  z46 := Tryz.sizeOf155
  v46 := Tryz.zeroValue155
  t50 := Tryz.underlying118
  a50 := Tryz.isAgg118
  z50 := Tryz.sizeOf118
  v50 := Tryz.zeroValue118
  t53 := Tryz.underlying161
  a53 := Tryz.isAgg161
  z53 := Tryz.sizeOf161
  v53 := Tryz.zeroValue161
  t55 := Tryz.underlying28
  a55 := Tryz.isAgg28
  z55 := Tryz.sizeOf28
  v55 := Tryz.zeroValue28
  t66 := Tryz.underlying176
  a66 := Tryz.isAgg176
  z66 := Tryz.sizeOf176
  v66 := Tryz.zeroValue176
  t70 := Tryz.underlying180
  a70 := Tryz.isAgg180
  z70 := Tryz.sizeOf180
  v70 := Tryz.zeroValue180
  t76 := Tryz.underlying187
  a76 := Tryz.isAgg187
  z76 := Tryz.sizeOf187
  v76 := Tryz.zeroValue187
  t77 := Tryz.underlying188
  a77 := Tryz.isAgg188
  z77 := Tryz.sizeOf188
  v77 := Tryz.zeroValue188 }
def Tryz.sortY_ren : Go.Shelf.Ren := ⟨fun | 6 => 105 | 15 => 116 | 14 => 125 | 28 => 138 | 29 => 139 | 20 => 148 | 21 => 149 | 22 => 150 | 23 => 151 | 24 => 152 | 25 => 153 | 26 => 154 | 27 => 155 | 46 => 168 | 47 => 161 | 48 => 162 | 49 => 169 | 50 => 170 | 57 => 175 | n => n, fun | 22 => 73 | 24 => 39 | 25 => 115 | 3 => 3 | 39 => 146 | 0 => 0 | 53 => 161 | 55 => 28 | 4 => 4 | 46 => 155 | 45 => 154 | 50 => 118 | 5 => 5 | 9 => 9 | 66 => 176 | 70 => 180 | 76 => 187 | 77 => 188 | n => n, fun | n => n⟩
theorem Tryz.sortY : Go.Proofs.SlLaysF0.n6 Tryz.prog Tryz.sortY_ren := {
  mixed := by kernel_rfl
  f6 := ⟨Tryz.f105.name, by decide, Tryz.func105.trans (congrArg some (by kernel_rfl))⟩
  f14 := ⟨Tryz.f125.name, by decide, Tryz.func125.trans (congrArg some (by kernel_rfl))⟩
  f15 := Tryz.func116.trans (congrArg some (by kernel_rfl))
  f20 := ⟨Tryz.f148.name, by decide, Tryz.func148.trans (congrArg some (by kernel_rfl))⟩
  f21 := ⟨Tryz.f149.name, by decide, Tryz.func149.trans (congrArg some (by kernel_rfl))⟩
  f22 := ⟨Tryz.f150.name, by decide, Tryz.func150.trans (congrArg some (by kernel_rfl))⟩
  f23 := ⟨Tryz.f151.name, by decide, Tryz.func151.trans (congrArg some (by kernel_rfl))⟩
  f24 := ⟨Tryz.f152.name, by decide, Tryz.func152.trans (congrArg some (by kernel_rfl))⟩
  f25 := ⟨Tryz.f153.name, by decide, Tryz.func153.trans (congrArg some (by kernel_rfl))⟩
  f26 := ⟨Tryz.f154.name, by decide, Tryz.func154.trans (congrArg some (by kernel_rfl))⟩
  f27 := ⟨Tryz.f155.name, by decide, Tryz.func155.trans (congrArg some (by kernel_rfl))⟩
  f28 := Tryz.func138.trans (congrArg some (by kernel_rfl))
  f29 := Tryz.func139.trans (congrArg some (by kernel_rfl))
  f46 := ⟨Tryz.f168.name, by decide, Tryz.func168.trans (congrArg some (by kernel_rfl))⟩
  f47 := Tryz.func161.trans (congrArg some (by kernel_rfl))
  f48 := Tryz.func162.trans (congrArg some (by kernel_rfl))
  f49 := ⟨Tryz.f169.name, by decide, Tryz.func169.trans (congrArg some (by kernel_rfl))⟩
  f50 := ⟨Tryz.f170.name, by decide, Tryz.func170.trans (congrArg some (by kernel_rfl))⟩
  f57 := ⟨Tryz.f175.name, by decide, Tryz.func175.trans (congrArg some (by kernel_rfl))⟩
  t0 := Tryz.underlying0
  a0 := Tryz.isAgg0
  z0 := Tryz.sizeOf0
  v0 := Tryz.zeroValue0
  t3 := Tryz.underlying3
  a3 := Tryz.isAgg3
  z3 := Tryz.sizeOf3
  v3 := Tryz.zeroValue3
  t4 := Tryz.underlying4
  a4 := Tryz.isAgg4
  z4 := Tryz.sizeOf4
  v4 := Tryz.zeroValue4
  t5 := Tryz.underlying5
  a5 := Tryz.isAgg5
  z5 := Tryz.sizeOf5
  v5 := Tryz.zeroValue5
  t9 := Tryz.underlying9
  a9 := Tryz.isAgg9
  z9 := Tryz.sizeOf9
  v9 := Tryz.zeroValue9
  t22 := Tryz.underlying73
  a22 := Tryz.isAgg73
  z22 := Tryz.sizeOf73
  v22 := Tryz.zeroValue73
  t25 := Tryz.underlying115
  a25 := Tryz.isAgg115
  z25 := Tryz.sizeOf115
  v25 := Tryz.zeroValue115
  t39 := Tryz.underlying146
  a39 := Tryz.isAgg146
  z39 := Tryz.sizeOf146
  v39 := Tryz.zeroValue146
  t45 := Tryz.underlying154
  a45 := Tryz.isAgg154
  z45 := Tryz.sizeOf154
  v45 := Tryz.zeroValue154
  t46 := Tryz.underlying155
  a46 := Tryz.isAgg155
  z46 := Tryz.sizeOf155
  v46 := Tryz.zeroValue155
  t50 := Tryz.underlying118
  a50 := Tryz.isAgg118
  z50 := Tryz.sizeOf118
  v50 := Tryz.zeroValue118
  t53 := Tryz.underlying161
  a53 := Tryz.isAgg161
  z53 := Tryz.sizeOf161
  v53 := Tryz.zeroValue161
  t55 := Tryz.underlying28
  a55 := Tryz.isAgg28
  z55 := Tryz.sizeOf28
  v55 := Tryz.zeroValue28
  t66 := Tryz.underlying176
  a66 := Tryz.isAgg176
  z66 := Tryz.sizeOf176
  v66 := Tryz.zeroValue176
  t70 := Tryz.underlying180
  a70 := Tryz.isAgg180
  z70 := Tryz.sizeOf180
  v70 := Tryz.zeroValue180
  t76 := Tryz.underlying187
  a76 := Tryz.isAgg187
  z76 := Tryz.sizeOf187
  v76 := Tryz.zeroValue187
  t77 := Tryz.underlying188
  a77 := Tryz.isAgg188
  z77 := Tryz.sizeOf188
  v77 := Tryz.zeroValue188 }
end Go.Proofs

namespace Go.Proofs.YtldfaaahmpncbaaGreat
open CtxM
set_option linter.unusedVariables false
set_option linter.unusedSimpArgs false
set_option maxRecDepth 20000

structure St where
  S : Cst
  I : List It
structure Good (D : St) : Prop where
  fit : Fit D.S.1 D.S.2
  rise : D.I.Pairwise fun a b => Lt a.d b.d
  ok : ∀ i ∈ D.I, itB i = true
  seen : ∀ i ∈ D.I, In D.S.1 D.S.2 i.d
theorem Good.zero : Good ⟨(zeros, []), []⟩ := ⟨fit_zero, List.Pairwise.nil, by simp, by simp⟩
theorem Good.uniq {D : St} (h : Good D) {a b : It} (ha : a ∈ D.I) (hb : b ∈ D.I) (e : a.d = b.d) : a = b := by
  obtain ⟨i, hi, rfl⟩ := List.getElem_of_mem ha
  obtain ⟨j, hj, rfl⟩ := List.getElem_of_mem hb
  rcases Nat.lt_trichotomy i j with h1 | h1 | h1
  · have := (List.pairwise_iff_getElem.1 h.rise) i j hi hj h1
    rw [e] at this; exact absurd this (Lt.irrefl _)
  · subst h1; rfl
  · have := (List.pairwise_iff_getElem.1 h.rise) j i hj hi h1
    rw [e] at this; exact absurd this (Lt.irrefl _)
/-- Is a dot live? -/
def liveAt (I : List It) (d : Dt) : Bool := I.any fun i => decide (i.d = d) && !i.g
def goneAt (I : List It) (d : Dt) : Bool := I.any fun i => decide (i.d = d) && i.g
theorem liveAt_iff {I : List It} {d : Dt} : liveAt I d = true ↔ ∃ i ∈ I, i.d = d ∧ i.g = false := by simp [liveAt]
theorem goneAt_iff {I : List It} {d : Dt} : goneAt I d = true ↔ ∃ i ∈ I, i.d = d ∧ i.g = true := by simp [goneAt]
/-- An item in its place, and none else of its dot. -/
def putI (I : List It) (x : It) : List It := (I.filter fun i => decide (Lt i.d x.d)) ++ x :: (I.filter fun i => decide (Lt x.d i.d))
theorem mem_putI {I : List It} {x i : It} : i ∈ putI I x ↔ i = x ∨ (i ∈ I ∧ i.d ≠ x.d) := by
  unfold putI
  simp only [List.mem_append, List.mem_cons, List.mem_filter, decide_eq_true_eq]
  constructor
  · rintro (⟨h, k⟩ | h | ⟨h, k⟩)
    · exact .inr ⟨h, fun e => by rw [e] at k; exact Lt.irrefl _ k⟩
    · exact .inl h
    · exact .inr ⟨h, fun e => by rw [e] at k; exact Lt.irrefl _ k⟩
  · rintro (h | ⟨h, k⟩)
    · exact .inr (.inl h)
    · rcases Lt.tri i.d x.d with t | t | t
      · exact .inl ⟨h, t⟩
      · exact absurd t k
      · exact .inr (.inr ⟨h, t⟩)
theorem rise_putI {I : List It} (h : I.Pairwise fun a b => Lt a.d b.d) (x : It) : (putI I x).Pairwise fun a b => Lt a.d b.d := by
  unfold putI
  rw [List.pairwise_append]
  refine ⟨h.filter _, List.pairwise_cons.2 ⟨fun i hi => by simpa using (List.mem_filter.1 hi).2, h.filter _⟩, fun a ha b hb => ?_⟩
  have h1 : Lt a.d x.d := by simpa using (List.mem_filter.1 ha).2
  rcases List.mem_cons.1 hb with rfl | hb
  · exact h1
  · have h2 : Lt x.d b.d := by simpa using (List.mem_filter.1 hb).2
    exact h1.trans h2
theorem len_filters {I : List It} (d : Dt) : (I.filter fun i => decide (Lt i.d d)).length + (I.filter fun i => decide (Lt d i.d)).length + (I.filter fun i => decide (i.d = d)).length = I.length := by
  induction I with
  | nil => rfl
  | cons i I ih =>
    rcases Lt.tri i.d d with t | t | t
    · have h1 : ¬ Lt d i.d := t.asymm
      have h2 : i.d ≠ d := fun e => by rw [e] at t; exact Lt.irrefl _ t
      simp [t, h1, h2]; omega
    · have h1 : ¬ Lt d i.d := fun k => by rw [t] at k; exact Lt.irrefl _ k
      have h2 : ¬ Lt i.d d := fun k => by rw [t] at k; exact Lt.irrefl _ k
      simp only [List.filter_cons, decide_eq_false h1, decide_eq_false h2, decide_eq_true t, if_true, List.length_cons, Bool.false_eq_true, if_false]; omega
    · have h1 : ¬ Lt i.d d := t.asymm
      have h2 : i.d ≠ d := fun e => by rw [e] at t; exact Lt.irrefl _ t
      simp [t, h1, h2]; omega
theorem putI_len (I : List It) (x : It) : (putI I x).length ≤ I.length + 1 := by
  have := len_filters (I := I) x.d
  unfold putI
  rw [List.length_append, List.length_cons]; omega
theorem putI_len_in {I : List It} {x i : It} (hi : i ∈ I) (e : i.d = x.d) : (putI I x).length ≤ I.length := by
  have := len_filters (I := I) x.d
  have h1 : 0 < (I.filter fun i => decide (i.d = x.d)).length := List.length_pos_of_mem (List.mem_filter.2 ⟨hi, by simpa using e⟩)
  unfold putI
  rw [List.length_append, List.length_cons]; omega
theorem putI_len_new {I : List It} {x : It} (h : ∀ i ∈ I, i.d ≠ x.d) : (putI I x).length = I.length + 1 := by
  have := len_filters (I := I) x.d
  have h1 : (I.filter fun i => decide (i.d = x.d)) = [] := List.filter_eq_nil_iff.2 fun i hi => by simpa using h i hi
  rw [h1] at this
  simp only [List.length_nil] at this
  unfold putI
  rw [List.length_append, List.length_cons]; omega
/-- Does seeing it change anything? -/
def chg (D : St) (x : It) : Bool := (liveAt D.I x.d && x.g) || !decide (In D.S.1 D.S.2 x.d)
def seeD (D : St) (x : It) : St := if chg D x = true then ⟨addF D.S x.d, putI D.I x⟩ else D
def seeDs : St → List It → St × Bool
  | D, [] => (D, false)
  | D, x :: L => ((seeDs (seeD D x) L).1, chg D x || (seeDs (seeD D x) L).2)
theorem itB_may {x : It} (h : itB x = true) : May x.d := by
  unfold itB at h
  rw [Bool.and_eq_true, decide_eq_true_iff] at h
  exact h.1
theorem itB_gone {x : It} (h : itB x = true) (hg : x.g = true) : x = goneI x.d := by
  unfold itB at h
  rw [Bool.and_eq_true, if_pos hg] at h
  simp only [decide_eq_true_iff] at h
  obtain ⟨d, t, v, g⟩ := x
  obtain ⟨_, h1, h2⟩ := h
  simp only at h1 h2 hg
  subst h1 h2 hg
  rfl
theorem Good.see {D : St} (h : Good D) {x : It} (hx : itB x = true) : Good (seeD D x) := by
  unfold seeD
  split
  · have hs := addF_spec h.fit (itB_may hx)
    refine ⟨hs.1, rise_putI h.rise x, fun i hi => ?_, fun i hi => ?_⟩
    · rcases mem_putI.1 hi with rfl | ⟨hi, _⟩
      · exact hx
      · exact h.ok i hi
    · rcases mem_putI.1 hi with rfl | ⟨hi, _⟩
      · exact (hs.2 _).2 (.inr rfl)
      · exact (hs.2 _).2 (.inl (h.seen i hi))
  · exact h
theorem seeD_in {D : St} (h : Good D) {x : It} (hx : itB x = true) (d : Dt) : In (seeD D x).S.1 (seeD D x).S.2 d ↔ In D.S.1 D.S.2 d ∨ d = x.d := by
  unfold seeD
  split
  · exact (addF_spec h.fit (itB_may hx)).2 d
  · rename_i hc
    have : In D.S.1 D.S.2 x.d := by
      unfold chg at hc
      simp only [Bool.or_eq_true, not_or, Bool.not_eq_true', decide_eq_false_iff_not, Decidable.not_not] at hc
      exact hc.2
    exact ⟨.inl, fun h => h.elim id fun e => e ▸ this⟩
theorem Good.sees : ∀ {L : List It} {D : St}, Good D → (∀ x ∈ L, itB x = true) → Good (seeDs D L).1
  | [], D, h, _ => h
  | x :: L, D, h, hL => Good.sees (L := L) (h.see (hL x (by simp))) fun y hy => hL y (by simp [hy])
theorem seeDs_in : ∀ {L : List It} {D : St}, Good D → (∀ x ∈ L, itB x = true) → ∀ d, In (seeDs D L).1.S.1 (seeDs D L).1.S.2 d ↔ In D.S.1 D.S.2 d ∨ d ∈ L.map It.d
  | [], D, h, _, d => by simp [seeDs]
  | x :: L, D, h, hL, d => by
    have := seeDs_in (L := L) (h.see (hL x (by simp))) (fun y hy => hL y (by simp [hy])) d
    show In (seeDs (seeD D x) L).1.S.1 (seeDs (seeD D x) L).1.S.2 d ↔ _
    rw [this, seeD_in h (hL x (by simp)), List.map_cons, List.mem_cons, or_assoc]
/-- How many more items and exceptions there are at most: as many as were not seen. -/
theorem seeDs_len : ∀ {L : List It} {D : St}, Good D → (∀ x ∈ L, itB x = true) →
    (seeDs D L).1.I.length ≤ D.I.length + (L.filter fun x => !decide (In D.S.1 D.S.2 x.d)).length ∧ (seeDs D L).1.S.2.length ≤ D.S.2.length + (L.filter fun x => !decide (In D.S.1 D.S.2 x.d)).length
  | [], D, h, _ => by simp [seeDs]
  | x :: L, D, h, hL => by
    have hx := hL x (by simp)
    obtain ⟨h1, h2⟩ := seeDs_len (L := L) (h.see hx) (fun y hy => hL y (by simp [hy]))
    have hsub : (L.filter fun y => !decide (In (seeD D x).S.1 (seeD D x).S.2 y.d)).length ≤ (L.filter fun y => !decide (In D.S.1 D.S.2 y.d)).length := by
      rw [← List.countP_eq_length_filter, ← List.countP_eq_length_filter]
      refine List.countP_mono_left fun y hy hc => ?_
      simp only [Bool.not_eq_true', decide_eq_false_iff_not, seeD_in h hx] at hc ⊢
      exact fun hh => hc (.inl hh)
    show (seeDs (seeD D x) L).1.I.length ≤ _ ∧ (seeDs (seeD D x) L).1.S.2.length ≤ _
    by_cases hi : In D.S.1 D.S.2 x.d
    · rw [List.filter_cons_of_neg (by simp [hi])]
      have e1 : (seeD D x).I.length ≤ D.I.length ∧ (seeD D x).S = D.S := by
        unfold seeD
        split
        · rename_i hc
          have hl : liveAt D.I x.d = true := by
            unfold chg at hc
            simp only [hi, decide_true, Bool.not_true, Bool.or_false, Bool.and_eq_true] at hc
            exact hc.1
          obtain ⟨i, hm, he, _⟩ := liveAt_iff.1 hl
          refine ⟨putI_len_in hm he, ?_⟩
          show addF D.S x.d = D.S
          unfold addF
          rw [if_pos hi]
        · exact ⟨Nat.le_refl _, rfl⟩
      rw [e1.2] at h2
      omega
    · rw [List.filter_cons_of_pos (by simp [hi]), List.length_cons]
      have e1 : (seeD D x).I.length ≤ D.I.length + 1 ∧ (seeD D x).S.2.length ≤ D.S.2.length + 1 := by
        unfold seeD
        split
        · exact ⟨putI_len _ _, addF_short _ _⟩
        · omega
      omega

/-- The two maps are of these items. -/
structure Rep (I : List It) (K : Kl) (T : Tl) : Prop where
  live : ∀ d k, (d, k) ∈ K ↔ (⟨d, k.1, k.2, false⟩ : It) ∈ I
  tomb : ∀ d, (d, ()) ∈ T ↔ goneI d ∈ I
theorem Rep.nil : Rep [] [] [] := ⟨by simp, by simp⟩
theorem Rep.memK {I : List It} {K : Kl} {T : Tl} (h : Rep I K T) (d : Dt) : d ∈ K.map Prod.fst ↔ liveAt I d = true := by
  rw [liveAt_iff, List.mem_map]
  constructor
  · rintro ⟨⟨d', k⟩, hm, rfl⟩
    exact ⟨_, (h.live _ _).1 hm, rfl, rfl⟩
  · rintro ⟨⟨d', t, v, g⟩, hm, rfl, hg⟩
    simp only at hg
    subst hg
    exact ⟨(d', (t, v)), (h.live _ _).2 hm, rfl⟩
theorem Rep.memT {D : St} {K : Kl} {T : Tl} (h : Rep D.I K T) (hG : Good D) (d : Dt) : d ∈ T.map Prod.fst ↔ goneAt D.I d = true := by
  rw [goneAt_iff, List.mem_map]
  constructor
  · rintro ⟨⟨d', ⟨⟩⟩, hm, rfl⟩
    exact ⟨_, (h.tomb _).1 hm, rfl, rfl⟩
  · rintro ⟨i, hm, rfl, hg⟩
    rw [itB_gone (hG.ok i hm) hg] at hm
    exact ⟨(i.d, ()), (h.tomb _).2 hm, rfl⟩
theorem mem_butD {α : Type} {d : Dt} {L : List (Dt × α)} {p : Dt × α} : p ∈ butD d L ↔ p ∈ L ∧ p.1 ≠ d := by
  unfold butD
  rw [List.mem_filter]
  simp
theorem Rep.put {D : St} {K : Kl} {T : Tl} (h : Rep D.I K T) (hG : Good D) {x : It} (hx : itB x = true) (hn : goneAt D.I x.d = false) : Rep (putI D.I x) (seeK x K) (seeT x T) := by
  have hnt : ∀ p ∈ T, p.1 ≠ x.d := fun p hp e => by
    have := (h.memT hG x.d).1 (List.mem_map.2 ⟨p, hp, e⟩)
    rw [hn] at this; cases this
  constructor
  · rintro d ⟨t, v⟩
    rw [mem_putI]
    unfold seeK
    split
    · rename_i hg
      rw [mem_butD, h.live]
      constructor
      · rintro ⟨h1, h2⟩; exact .inr ⟨h1, h2⟩
      · rintro (h1 | h1)
        · rw [← h1] at hg; cases hg
        · exact h1
    · rename_i hg
      rw [List.mem_cons, mem_butD, h.live]
      constructor
      · rintro (h1 | ⟨h1, h2⟩)
        · refine .inl ?_
          obtain ⟨xd, xt, xv, xg⟩ := x
          simp only [Prod.mk.injEq] at h1
          obtain ⟨rfl, rfl, rfl⟩ := h1
          simpa using hg
        · exact .inr ⟨h1, h2⟩
      · rintro (h1 | h1)
        · exact .inl (by rw [← h1])
        · exact .inr h1
  · intro d
    rw [mem_putI]
    unfold seeT
    split
    · rename_i hg
      rw [List.mem_cons, mem_butD, h.tomb]
      have hxe := itB_gone hx hg
      constructor
      · rintro (h1 | ⟨h1, h2⟩)
        · injection h1 with h1 _
          subst h1
          exact .inl hxe.symm
        · exact .inr ⟨h1, h2⟩
      · rintro (h1 | h1)
        · exact .inl (by rw [← h1]; rfl)
        · exact .inr h1
    · rename_i hg
      rw [h.tomb]
      constructor
      · intro h1
        exact .inr ⟨h1, hnt _ ((h.tomb d).2 h1)⟩
      · rintro (h1 | h1)
        · rw [← h1] at hg; exact absurd rfl hg
        · exact h1.1
theorem not_both {D : St} (hG : Good D) {d : Dt} (h : liveAt D.I d = true) : goneAt D.I d = false := by
  cases hg : goneAt D.I d with
  | false => rfl
  | true =>
    obtain ⟨i, hi, hd, h1⟩ := liveAt_iff.1 h
    obtain ⟨j, hj, hd2, h2⟩ := goneAt_iff.1 hg
    rw [hG.uniq hi hj (hd.trans hd2.symm), h2] at h1
    cases h1
theorem not_seen {D : St} (hG : Good D) {d : Dt} (h : ¬ In D.S.1 D.S.2 d) : liveAt D.I d = false ∧ goneAt D.I d = false := by
  constructor
  · cases hc : liveAt D.I d with
    | false => rfl
    | true =>
      obtain ⟨i, hi, hd, _⟩ := liveAt_iff.1 hc
      exact absurd (hd ▸ hG.seen i hi) h
  · cases hc : goneAt D.I d with
    | false => rfl
    | true =>
      obtain ⟨i, hi, hd, _⟩ := goneAt_iff.1 hc
      exact absurd (hd ▸ hG.seen i hi) h
/-- The program's state within See, beside the document's. -/
structure Beside (S0 : Cst) (q : Sq) (D : St) : Prop where
  good : Good D
  rep : Rep D.I q.K q.T
  seen : ∀ d, In D.S.1 D.S.2 d ↔ In S0.1 S0.2 d ∨ d ∈ q.F
  may : ∀ d ∈ q.F, May d
  kept : ∀ d ∈ q.F, liveAt D.I d = true ∨ goneAt D.I d = true
theorem Beside.unseen {S0 : Cst} {q : Sq} {D : St} (h : Beside S0 q D) (x : It) : seeU S0 q x = !decide (In D.S.1 D.S.2 x.d) := by
  unfold seeU
  rw [Bool.eq_iff_iff]
  simp only [Bool.and_eq_true, Bool.not_eq_true', Bool.or_eq_false_iff, decide_eq_false_iff_not, h.rep.memK, h.rep.memT h.good, h.seen]
  constructor
  · rintro ⟨⟨h1, h2⟩, h3⟩ (h4 | h4)
    · exact h3 h4
    · exact (h.kept _ h4).elim h1 h2
  · intro hn
    have hn' : ¬ In D.S.1 D.S.2 x.d := fun hh => hn ((h.seen _).1 hh)
    have := not_seen h.good hn'
    exact ⟨⟨by rw [this.1]; decide, by rw [this.2]; decide⟩, fun hh => hn (.inl hh)⟩
theorem Beside.change {S0 : Cst} {q : Sq} {D : St} (h : Beside S0 q D) (x : It) : seeP S0 q x = chg D x := by
  unfold seeP chg
  rw [h.unseen, Bool.or_comm]
  congr 2
  rw [Bool.eq_iff_iff, decide_eq_true_iff]
  exact h.rep.memK x.d
theorem Beside.step {S0 : Cst} {q : Sq} {D : St} (h : Beside S0 q D) {x : It} (hx : itB x = true) : Beside S0 (stepS S0 q x) (seeD D x) := by
  have hU := h.unseen x
  have hC := h.change x
  have hin := seeD_in h.good hx
  have hgood := h.good.see hx
  unfold stepS
  by_cases hc : chg D x = true
  · rw [if_pos (by rw [hC]; exact hc)]
    have hD : seeD D x = ⟨addF D.S x.d, putI D.I x⟩ := by unfold seeD; rw [if_pos hc]
    have hng : goneAt D.I x.d = false := by
      unfold chg at hc
      rw [Bool.or_eq_true, Bool.and_eq_true, Bool.not_eq_true', decide_eq_false_iff_not] at hc
      rcases hc with ⟨hl, _⟩ | hn
      · exact not_both h.good hl
      · exact (not_seen h.good hn).2
    have hkeep : ∀ d, (liveAt D.I d = true ∨ goneAt D.I d = true ∨ d = x.d) → liveAt (putI D.I x) d = true ∨ goneAt (putI D.I x) d = true := by
      intro d hd
      by_cases e : d = x.d
      · cases hg : x.g with
        | false => exact .inl (liveAt_iff.2 ⟨x, mem_putI.2 (.inl rfl), e.symm, hg⟩)
        | true => exact .inr (goneAt_iff.2 ⟨x, mem_putI.2 (.inl rfl), e.symm, hg⟩)
      · rcases hd with hd | hd | hd
        · obtain ⟨i, hi, h1, h2⟩ := liveAt_iff.1 hd
          exact .inl (liveAt_iff.2 ⟨i, mem_putI.2 (.inr ⟨hi, by rw [h1]; exact e⟩), h1, h2⟩)
        · obtain ⟨i, hi, h1, h2⟩ := goneAt_iff.1 hd
          exact .inr (goneAt_iff.2 ⟨i, mem_putI.2 (.inr ⟨hi, by rw [h1]; exact e⟩), h1, h2⟩)
        · exact absurd hd e
    rw [hD] at hin hgood ⊢
    refine ⟨hgood, h.rep.put h.good hx hng, fun d => ?_, ?_, ?_⟩
    · rw [hin d, h.seen]
      show _ ↔ _ ∨ d ∈ (if seeU S0 q x = true then q.F ++ [x.d] else q.F)
      split
      · rw [List.mem_append, List.mem_singleton, or_assoc]
      · rename_i hu
        rw [hU, Bool.not_eq_true', decide_eq_false_iff_not, Decidable.not_not] at hu
        have hu2 := (h.seen _).1 hu
        constructor
        · rintro (h1 | h1)
          · exact h1
          · rw [h1]; exact hu2
        · exact .inl
    · show ∀ d ∈ (if seeU S0 q x = true then q.F ++ [x.d] else q.F), May d
      split
      · intro d hd
        rcases List.mem_append.1 hd with hd | hd
        · exact h.may d hd
        · rw [List.mem_singleton.1 hd]; exact itB_may hx
      · exact h.may
    · show ∀ d ∈ (if seeU S0 q x = true then q.F ++ [x.d] else q.F), _
      intro d hd
      refine hkeep d ?_
      split at hd
      · rcases List.mem_append.1 hd with hd | hd
        · exact (h.kept d hd).elim .inl fun h => .inr (.inl h)
        · exact .inr (.inr (List.mem_singleton.1 hd))
      · exact (h.kept d hd).elim .inl fun h => .inr (.inl h)
  · rw [if_neg (by rw [hC]; exact hc)]
    have hD : seeD D x = D := by unfold seeD; rw [if_neg hc]
    rw [hD]
    exact h
theorem stepS_c {S0 : Cst} {q : Sq} {D : St} (h : Beside S0 q D) (x : It) : (stepS S0 q x).c = (q.c || chg D x) := by
  unfold stepS
  rw [h.change x]
  split
  · rename_i hc; rw [hc]; simp
  · rename_i hc; simp [Bool.eq_false_iff.2 hc]
theorem stepS_F (S0 : Cst) (q : Sq) (x : It) : (stepS S0 q x).F.length ≤ q.F.length + 1 := (stepS_len S0 q x).2.2
theorem Beside.all : ∀ {L : List It} {S0 : Cst} {q : Sq} {D : St}, Beside S0 q D → (∀ x ∈ L, itB x = true) → Beside S0 (seeAll S0 q L) (seeDs D L).1 ∧ (seeAll S0 q L).c = (q.c || (seeDs D L).2)
  | [], S0, q, D, h, _ => ⟨h, by simp [seeAll, seeDs]⟩
  | x :: L, S0, q, D, h, hL => by
    have hx := hL x (by simp)
    obtain ⟨h1, h2⟩ := Beside.all (L := L) (h.step hx) fun y hy => hL y (by simp [hy])
    refine ⟨h1, ?_⟩
    show (seeAll S0 (stepS S0 q x) L).c = _
    rw [h2, stepS_c h, Bool.or_assoc]
    rfl
/-- With room for all, none is late. -/
theorem passA_room : ∀ (M : List Dt) (S : Cst) (l : List Dt), Fit S.1 S.2 → (∀ d ∈ M, May d) → S.2.length + M.length ≤ 4096 → M.foldl stepA (S, l) = (addAll S M, l)
  | [], S, l, _, _, _ => rfl
  | d :: M, S, l, hF, hM, hl => by
    have hd := hM d (by simp)
    rw [List.length_cons] at hl
    have hs := addF_spec hF hd
    have hsh := addF_short S d
    have e : addG S d = (addF S d, 0) := by
      unfold addG
      rw [if_neg (by simpa using hd)]
      by_cases hi : In S.1 S.2 d
      · rw [if_pos hi]; unfold addF; rw [if_pos hi]
      · rw [if_neg hi]
        by_cases he : d.2 = at_ S.1 d.1 + 1
        · rw [if_pos he]
        · rw [if_neg he, if_neg (by omega)]
    show M.foldl stepA (stepA (S, l) d) = _
    have e2 : stepA (S, l) d = (addF S d, l) := by unfold stepA; simp [e]
    rw [e2, passA_room M (addF S d) l hs.1 (fun x hx => hM x (by simp [hx])) (by omega), addAll_cons, if_pos hd]
theorem Rep.lens {D : St} {K : Kl} {T : Tl} (h : Rep D.I K T) (hG : Good D) (hK : OkL K) (hT : OkL T) : K.length = (D.I.filter fun i => !i.g).length ∧ T.length = (D.I.filter fun i => i.g).length ∧ K.length + T.length = D.I.length := by
  have hnd : (D.I.map It.d).Nodup := by
    rw [List.Nodup, List.pairwise_map]
    exact hG.rise.imp fun hab => lt_ne_ hab
  have hndK : (K.map Prod.fst).Nodup := by rw [List.Nodup, List.pairwise_map]; exact hK.1
  have hndT : (T.map Prod.fst).Nodup := by rw [List.Nodup, List.pairwise_map]; exact hT.1
  have hnd1 : ((D.I.filter fun i => !i.g).map It.d).Nodup := hnd.sublist (List.filter_sublist.map _)
  have hnd2 : ((D.I.filter fun i => i.g).map It.d).Nodup := hnd.sublist (List.filter_sublist.map _)
  have e1 : K.length = (D.I.filter fun i => !i.g).length := by
    have : (K.map Prod.fst).Perm ((D.I.filter fun i => !i.g).map It.d) := (List.perm_ext_iff_of_nodup hndK hnd1).2 fun d => by
      rw [h.memK, liveAt_iff, List.mem_map]
      constructor
      · rintro ⟨i, h1, h2, h3⟩; exact ⟨i, List.mem_filter.2 ⟨h1, by simp [h3]⟩, h2⟩
      · rintro ⟨i, h1, h2⟩
        obtain ⟨h3, h4⟩ := List.mem_filter.1 h1
        exact ⟨i, h3, h2, by simpa using h4⟩
    have := this.length_eq
    simpa using this
  have e2 : T.length = (D.I.filter fun i => i.g).length := by
    have : (T.map Prod.fst).Perm ((D.I.filter fun i => i.g).map It.d) := (List.perm_ext_iff_of_nodup hndT hnd2).2 fun d => by
      rw [h.memT hG, goneAt_iff, List.mem_map]
      constructor
      · rintro ⟨i, h1, h2, h3⟩; exact ⟨i, List.mem_filter.2 ⟨h1, by simp [h3]⟩, h2⟩
      · rintro ⟨i, h1, h2⟩
        obtain ⟨h3, h4⟩ := List.mem_filter.1 h1
        exact ⟨i, h3, h2, by simpa using h4⟩
    have := this.length_eq
    simpa using this
  refine ⟨e1, e2, ?_⟩
  have e3 : ∀ I : List It, (I.filter fun i => !i.g).length + (I.filter fun i => i.g).length = I.length := by
    intro I
    induction I with
    | nil => rfl
    | cons i I ih => cases hg : i.g <;> simp [hg] <;> omega
  have := e3 D.I
  omega
theorem Beside.start {D : St} {K : Kl} {T : Tl} (hG : Good D) (hR : Rep D.I K T) : Beside D.S ⟨K, T, [], false⟩ D := ⟨hG, hR, fun d => by simp, by simp, by simp⟩
theorem seeAll_ok (C : Cst) : ∀ (L : List It) (q : Sq), (∀ x ∈ L, itB x = true) → OkL q.K → OkL q.T → OkL (seeAll C q L).K ∧ OkL (seeAll C q L).T
  | [], q, _, h1, h2 => ⟨h1, h2⟩
  | x :: L, q, hL, h1, h2 => by
    have hx := OkD.of_may (itB_may (hL x (by simp)))
    refine seeAll_ok C L (stepS C q x) (fun y hy => hL y (by simp [hy])) ?_ ?_
    · unfold stepS
      split
      · show OkL (seeK x q.K)
        unfold seeK
        split
        · exact h1.but _
        · exact h1.put hx _
      · exact h1
    · unfold stepS
      split
      · show OkL (seeT x q.T)
        unfold seeT
        split
        · exact h2.put hx _
        · exact h2
      · exact h2
/-- What See comes to, where there is room. -/
theorem see_comes {D : St} {K : Kl} {T : Tl} (hG : Good D) (hR : Rep D.I K T) (hK : OkL K) (hT : OkL T) {L : List It} (hL : ∀ x ∈ L, itB x = true) (hl : D.I.length + L.length ≤ 1024) (hX : D.S.2.length + L.length ≤ 4096) :
    ¬ (1024 < (seeAll D.S ⟨K, T, [], false⟩ L).K.length ∨ 4096 < (seeAll D.S ⟨K, T, [], false⟩ L).K.length + (seeAll D.S ⟨K, T, [], false⟩ L).T.length) ∧
    (seeAll D.S ⟨K, T, [], false⟩ L).c = (seeDs D L).2 ∧ Rep (seeDs D L).1.I (seeAll D.S ⟨K, T, [], false⟩ L).K (seeAll D.S ⟨K, T, [], false⟩ L).T ∧
    ∀ M : List Dt, M.Perm (seeAll D.S ⟨K, T, [], false⟩ L).F → passB (some (passA D.S M).1) (passA D.S M).2 = some (seeDs D L).1.S := by
  obtain ⟨hB, hc⟩ := (Beside.start hG hR).all hL
  have hok := seeAll_ok D.S L ⟨K, T, [], false⟩ hL hK hT
  have hlen := hB.rep.lens hB.good hok.1 hok.2
  have hl2 := (seeDs_len hG hL).1
  have hf : (L.filter fun x => !decide (In D.S.1 D.S.2 x.d)).length ≤ L.length := List.length_filter_le _ _
  refine ⟨by omega, by rw [hc]; rfl, hB.rep, fun M hM => ?_⟩
  have hMm : ∀ d ∈ M, May d := fun d hd => hB.may d (hM.mem_iff.1 hd)
  have hMl : M.length ≤ L.length := by
    have := (seeAll_len D.S L ⟨K, T, [], false⟩).2.2
    rw [hM.length_eq]
    simpa using this
  have h1 : passA D.S M = (addAll D.S M, []) := passA_room M D.S [] hG.fit hMm (by omega)
  rw [h1]
  show some (addAll D.S M) = _
  obtain ⟨a1, a2⟩ := addAll_spec M D.S hG.fit
  have he := fit_ext a1 hB.good.fit fun d => by
    rw [a2, hB.seen]
    constructor
    · rintro (h | ⟨_, h⟩)
      · exact .inl h
      · exact .inr (hM.mem_iff.1 h)
    · rintro (h | h)
      · exact .inl h
      · exact .inr ⟨hB.may d h, hM.mem_iff.2 h⟩
  exact congrArg some (Prod.ext he.1 he.2)
/-- The live items of a key, as gone. -/
def hasK (k : Ky) (i : It) : Bool := !i.g && decide ((i.t, i.v) = k)
def goneOf (I : List It) (k : Ky) : List It := (I.filter (hasK k)).map fun i => goneI i.d
theorem keyAt_of {K : Kl} (hK : OkL K) {d : Dt} {k : Ky} (h : (d, k) ∈ K) : keyAt K d = k := by
  have h1 := keyAt_mem (K := K) (d := d) (List.mem_map.2 ⟨_, h, rfl⟩)
  by_cases e : (d, keyAt K d) = (d, k)
  · exact congrArg Prod.snd e
  · exact absurd rfl (apart_ne hK (x := (d, keyAt K d)) (y := (d, k)) h1 h e)
theorem pick_ends {D : St} {K : Kl} {T : Tl} (hG : Good D) (hR : Rep D.I K T) (hK : OkL K) {k : Ky} {M : List Dt} (h : Pick K (isK K k) M) : M.map goneI = goneOf D.I k := by
  have : M = (D.I.filter (hasK k)).map It.d := by
    refine rise_uniq h.rise ?_ fun d => ?_
    · rw [List.pairwise_map]; exact hG.rise.filter _
    · rw [h.mem]
      constructor
      · rintro ⟨h1, h2⟩
        unfold isK at h2
        rw [decide_eq_true_iff] at h2
        have h3 := keyAt_mem h1
        rw [h2] at h3
        exact List.mem_map.2 ⟨_, List.mem_filter.2 ⟨(hR.live _ _).1 h3, by simp [hasK]⟩, rfl⟩
      · intro h0
        obtain ⟨⟨d', t, v, g⟩, h1, rfl⟩ := List.mem_map.1 h0
        obtain ⟨h2, h3⟩ := List.mem_filter.1 h1
        unfold hasK at h3
        rw [Bool.and_eq_true, decide_eq_true_iff] at h3
        obtain ⟨h3, h4⟩ := h3
        simp only at h3 h4
        have h3 : g = false := by simpa using h3
        subst h3
        have h5 := (hR.live d' (t, v)).2 h2
        refine ⟨List.mem_map.2 ⟨_, h5, rfl⟩, ?_⟩
        unfold isK
        rw [keyAt_of hK h5, decide_eq_true_iff]
        exact h4
  rw [this, List.map_map]
  rfl
theorem goneOf_ok {D : St} (hG : Good D) (k : Ky) : ∀ x ∈ goneOf D.I k, itB x = true ∧ In D.S.1 D.S.2 x.d := by
  intro x hx
  obtain ⟨i, hi, rfl⟩ := List.mem_map.1 hx
  have hm := (List.mem_filter.1 hi).1
  exact ⟨goneI_ok (itB_may (hG.ok i hm)), hG.seen i hm⟩
theorem goneOf_len (I : List It) (k : Ky) : (goneOf I k).length ≤ I.length := by
  unfold goneOf
  rw [List.length_map]
  exact List.length_filter_le _ _
/-- Collecting. -/
def colI (I : List It) (d : Dt) : List It := I.filter fun i => !decide (i.d = d)
theorem Good.col {D : St} (h : Good D) (d : Dt) : Good ⟨D.S, colI D.I d⟩ :=
  ⟨h.fit, h.rise.filter _, fun i hi => h.ok i (List.mem_filter.1 hi).1, fun i hi => h.seen i (List.mem_filter.1 hi).1⟩
theorem Rep.col {D : St} {K : Kl} {T : Tl} (h : Rep D.I K T) (hG : Good D) {d : Dt} (hg : goneAt D.I d = true) : Rep (colI D.I d) K (butD d T) := by
  have hnl : ∀ i ∈ D.I, i.d = d → i.g = true := by
    intro i hi e
    obtain ⟨j, hj, e2, h2⟩ := goneAt_iff.1 hg
    rw [hG.uniq hi hj (e.trans e2.symm)]; exact h2
  constructor
  · rintro d' ⟨t, v⟩
    rw [h.live]
    unfold colI
    rw [List.mem_filter]
    constructor
    · intro h1
      refine ⟨h1, ?_⟩
      simp only [Bool.not_eq_true', decide_eq_false_iff_not]
      intro e
      have := hnl _ h1 e
      cases this
    · exact fun h => h.1
  · intro d'
    rw [mem_butD, h.tomb]
    unfold colI
    rw [List.mem_filter]
    show _ ∧ ¬ d' = d ↔ _ ∧ (!decide (d' = d)) = true
    rw [Bool.not_eq_true', decide_eq_false_iff_not]
/-- Two lists of items that rise and have the same ones are the same. -/
theorem rise_items {A B : List It} (hA : A.Pairwise fun a b => Lt a.d b.d) (hB : B.Pairwise fun a b => Lt a.d b.d) (h : ∀ i, i ∈ A ↔ i ∈ B) : A = B := by
  induction A generalizing B with
  | nil =>
    cases B with
    | nil => rfl
    | cons b B => exact absurd ((h b).2 (by simp)) (by simp)
  | cons a A ih =>
    cases B with
    | nil => exact absurd ((h a).1 (by simp)) (by simp)
    | cons b B =>
      have hA' := List.pairwise_cons.1 hA
      have hB' := List.pairwise_cons.1 hB
      have e : a = b := by
        rcases List.mem_cons.1 ((h a).1 (by simp)) with e | e
        · exact e
        · rcases List.mem_cons.1 ((h b).2 (by simp)) with e2 | e2
          · exact e2.symm
          · exact absurd ((hA'.1 b e2).trans (hB'.1 a e)) (Lt.irrefl a.d)
      subst e
      congr 1
      refine ih hA'.2 hB'.2 fun d => ⟨fun hd => ?_, fun hd => ?_⟩
      · rcases List.mem_cons.1 ((h d).1 (List.mem_cons_of_mem _ hd)) with e | e
        · subst e; exact absurd (hA'.1 d hd) (Lt.irrefl d.d)
        · exact e
      · rcases List.mem_cons.1 ((h d).2 (List.mem_cons_of_mem _ hd)) with e | e
        · subst e; exact absurd (hB'.1 d hd) (Lt.irrefl d.d)
        · exact e
end Go.Proofs.YtldfaaahmpncbaaGreat

namespace Go.Proofs.YtldfaaahmpncbaaGreat
open Go.RowKit Go.Sort
open CtxM
set_option linter.unusedVariables false
set_option linter.unusedSimpArgs false
set_option maxRecDepth 20000

instance : Inhabited It := ⟨⟨default, ⟨#[]⟩, ⟨#[]⟩, false⟩⟩
section
variable {α : Type} {k : Kd α}
theorem OwnK.thereAll {w : World} {base g cap n : Nat} {L : List α} (h : OwnK k w base (.slice (some ⟨g, 0, none⟩) n cap) L) (j : Nat) (hj : j < L.length * k.sz) : w.frozen? ⟨g, j, none⟩ = false := by
  rcases h.2 with ⟨h2, _⟩ | ⟨g', cap', cur, hv, hg, hh, hnc, hcm, hs, ht⟩
  · cases h2
  · injection hv with e1 e2 e3
    injection e1 with e1
    injection e1 with e1
    subst e1; subst e2; subst e3
    simp [World.frozen?, hh]
/-- What a row holds when its cells are others. -/
theorem OwnK.putK [Inhabited α] {w : World} {base g cap n : Nat} {L : List α} (h : OwnK k w base (.slice (some ⟨g, 0, none⟩) n cap) L) (d : Array α) (hd : d.size = L.length) (m : Nat) (os : Array Obj) :
    HoldsK k.en k.sz w g 0 L.toArray ∧ OwnK k (sortWorldK k.en k.sz w g 0 m d os) base (.slice (some ⟨g, 0, none⟩) n cap) d.toList ∧ w.grownBy (sortWorldK k.en k.sz w g 0 m d os) (some g) := by
  have hlt := h.lt g rfl
  have hall := h.thereAll
  rcases h.2 with ⟨h2, _⟩ | ⟨g', cap', cur, hv, hg, hh, hnc, hcm, hs, ht⟩
  · cases h2
  · injection hv with e1 e2 e3
    injection e1 with e1
    injection e1 with e1
    subst e1; subst e2; subst e3
    have hB : Blk w g k.ty cur := hh
    have hcell : ∀ (j : Nat) (hj : j < L.length * k.sz), cur[j]? = (cellsK k L)[j]? := by
      intro j hj
      rw [← ht, List.getElem?_take, if_pos hj, Array.getElem?_toList]
    have hflat : ∀ (M : Array α) (j : Nat), j < M.size * k.sz → (cellsK k M.toList)[j]? = some (flatK k.en k.sz M)[j]! := by
      intro M j hj
      rw [get_flatK _ _ _ _ hj]
      have hp := k.pos
      have h1 : j / k.sz < M.size := Nat.div_lt_of_lt_mul (by rw [Nat.mul_comm]; exact hj)
      have h2 : j % k.sz < k.sz := Nat.mod_lt _ hp
      have h3 := cellsK_get (k := k) M.toList (j / k.sz) (j % k.sz) (by simpa using h1) h2
      rw [Nat.div_add_mod'] at h3
      have h4 : M[j / k.sz]! = M.toList[j / k.sz]'(by simpa using h1) := by rw [getElem!_pos M _ h1]; simp
      rw [h3, h4]
      have h5 : j % k.sz < (k.en (M.toList[j / k.sz]'(by simpa using h1))).length := by rw [k.len]; exact h2
      rw [List.getElem?_eq_getElem h5, getElem!_pos (k.en (M.toList[j / k.sz]'(by simpa using h1))) (j % k.sz) h5]
    have hH : HoldsK k.en k.sz w g 0 L.toArray := by
      intro j hj
      rw [size_flatK, List.size_toArray] at hj
      refine ⟨?_, by rw [Nat.zero_add]; exact hall j hj⟩
      rw [Nat.zero_add, hB.cell, hcell j hj]
      exact hflat L.toArray j (by simpa using hj)
    refine ⟨hH, ?_, ?_⟩
    · have hblk : (sortWorldK k.en k.sz w g 0 m d os).heap[g]? = some (.cells (putCells id 0 (flatK k.en k.sz d) cur) k.ty (0, 0)) := by
        unfold sortWorldK grow putRowK putRow mapBlock
        rw [Array.getElem?_append_left (by simpa using hlt.2), Array.getElem?_modify, if_pos rfl]
        show Option.map _ (w.heap[g]?) = _
        rw [hh]; rfl
      have hdl : d.toList.length = L.length := (Array.length_toList (xs := d)).trans hd
      refine ⟨cellsK_length _, .inr ⟨g, cap, _, by rw [hdl], hg, hblk, by rw [hdl]; exact hnc, hcm, by simp [putCells, hs], ?_⟩⟩
      rw [hdl]
      apply List.ext_getElem?
      intro j
      rw [List.getElem?_take]
      have hcs : L.length * k.sz ≤ cur.size := by rw [hs]; exact Nat.mul_le_mul_right _ hnc
      by_cases hj : j < L.length * k.sz
      · rw [if_pos hj, hflat d j (by rw [hd]; exact hj), Array.getElem?_toList, putCells, Array.getElem?_mapIdx, Array.getElem?_eq_getElem (by omega)]
        simp only [Option.map_some, Nat.zero_add, size_flatK, hd, Nat.zero_le, true_and, hj, if_true, Nat.sub_zero, id]
      · rw [if_neg hj, List.getElem?_eq_none (by rw [cellsK_length, hdl]; omega)]
    · refine ⟨rfl, rfl, rfl, ?_, fun k hk hn => ?_⟩
      · unfold sortWorldK
        rw [size_grow, size_putRowK]
        exact Nat.le_add_right _ _
      · unfold sortWorldK
        rw [heap_grow_old _ _ (by rw [size_putRowK]; exact hk)]
        unfold putRowK putRow mapBlock
        show (w.heap.modify g _)[k]? = _
        rw [Array.getElem?_modify, if_neg (fun e => hn (by rw [e]))]
end
/-! Items. -/
def cIt (a b : It) : Int := cD a.d b.d
theorem swo_item : SWO (ltOf cIt) where
  irrefl x := swo_dot.irrefl x.d
  trans x y z h1 h2 := swo_dot.trans x.d y.d z.d h1 h2
  ntrans x y z h1 h2 := swo_dot.ntrans x.d y.d z.d h1 h2
set_option maxHeartbeats 1000000 in
theorem items1_any (a b : It) (w : World) : Calls Tryz.prog 91 #[.agg #[.int .i64 a.d.1, .int .u64 (a.d.2 : Int), .string a.t, .string a.v, .bool a.g], .agg #[.int .i64 b.d.1, .int .u64 (b.d.2 : Int), .string b.t, .string b.v, .bool b.g]] w fun e w' => e = .returned (.int .i64 (cIt a b)) ∧ Grw w w' := by
  have HT := Lib.hid (fun W => ointurn_any a.d b.d W)
  have hg0 := ((Grw.refl w).alloc (.cells (itc a) 48)).alloc (.cells (itc b) 48)
  unfold cIt
  go_enter Tryz.func91, Tryz.ntmps91
  go_wp2_with fail
  refine (HT.out _).mono ?_
  rintro e w' ⟨rfl, hg⟩
  clear HT
  go_wp2
  go_ret
  exact ⟨rfl, hg0.trans hg⟩
theorem cmp_item (blk off size : Nat) (w : World) : CmpLays Tryz.prog 91 #[] kIt.en 5 cIt blk off size w := by
  intro m os dk _ x y
  exact items1_any x y _
set_option maxHeartbeats 1000000 in
theorem isort_any (v : Value) (L : List It) (base : Nat) (w : World) (ho : OwnK kIt w base v L) (hl : L.length ≤ 100000) :
    Calls Tryz.prog 90 #[v, .func (.func 91) #[] #[]] w fun e w' => e = .returned (.tuple #[]) ∧ ∃ M, OwnK kIt w' base v M ∧ (M.Pairwise fun a b => ¬ Lt b.d a.d) ∧ M.Perm L ∧ w.grownBy w' v.ownBlock := by
  rcases ho.2 with ⟨rfl, h0⟩ | ⟨g, cap, cur, rfl, hg, hh, _⟩
  · obtain rfl : L = [] := List.eq_nil_of_length_eq_zero h0
    refine (AnyF.slices_SortFunc_none { Tryz.sortI with } none 0 _ w).mono ?_
    rintro e w' ⟨rfl, rfl⟩
    exact ⟨rfl, [], OwnK.nil, List.Pairwise.nil, List.Perm.refl _, World.grownBy.refl _ _⟩
  · have hlt := ho.lt g rfl
    have hH := (ho.putK L.toArray (by simp) 0 #[]).1
    have eg : ∀ args w, (callFunc 91 args).run Tryz.prog w = .ok (.enter 91 args) w := enters_of Tryz.func91 (by kernel_rfl) rfl
    have hcon := AnyQ.slices_SortFunc Tryz.sortI 5 Tryz.isAgg48 Tryz.sizeOf48 kIt.en kIt.len kIt.one cIt swo_item 91 #[] g 0 cap L.toArray w eg (cmp_item g 0 _ w) hH hlt.2 (by simp; omega)
    refine hcon.mono ?_
    rintro e w' ⟨rfl, d', n, os, hp, hs, rfl⟩
    have hd : d'.size = L.length := by simpa using hp.1
    obtain ⟨_, h2, h3⟩ := ho.putK d' hd n os
    refine ⟨rfl, d'.toList, h2, ?_, by
      have h5 := hp.2.2
      have e1 : d'.extract 0 L.toArray.size = d' := by rw [List.size_toArray, ← hd]; simp
      have e2 : L.toArray.extract 0 L.toArray.size = L.toArray := by simp
      rw [e1, e2] at h5
      simpa using h5, h3⟩
    refine List.pairwise_iff_getElem.2 fun i j hi hj hij => ?_
    have hi' : i < d'.size := by simpa using hi
    have hj' : j < d'.size := by simpa using hj
    have := hs i j (Nat.zero_le _) hij (by rw [List.size_toArray, ← hd]; exact hj')
    rw [getElem!_pos d' i hi', getElem!_pos d' j hj'] at this
    simp only [ltOf, decide_eq_false_iff_not, cIt, cD_lt] at this
    simpa using this
/-! Keys. -/
def cB (a b : ByteArray) : Int := Lib.compareBytes a.data.toList b.data.toList
def cY (a b : Ky) : Int := if cB a.1 b.1 = 0 then cB a.2 b.2 else cB a.1 b.1
theorem compareStr_any (a b : ByteArray) (w : World) :
    Calls Tryz.prog 126 #[.string a, .string b] w fun e w' => e = .returned (.int .i64 (cB a b)) ∧ w' = w := by
  unfold cB
  go_enter Tryz.func126, Tryz.ntmps126
  go_wp2
  rw [run_callFunc_extern Tryz.func156 (by kernel_rfl) (by kernel_rfl) (by kernel_rfl) (e := Extern.BytealgCompare.compare) (by kernel_rfl), Lib.run_compareString]
  simp only [Result.andThen]
  rw [Oper.upon_value]
  go_wp2
  go_ret
  exact ⟨rfl, rfl⟩
theorem compare_any (a b : ByteArray) (w : World) :
    Calls Tryz.prog 108 #[.string a, .string b] w fun e w' => e = .returned (.int .i64 (cB a b)) ∧ w' = w := by
  go_enter Tryz.func108, Tryz.ntmps108
  go_wp2_with (go_at_call 126; refine (compareStr_any _ _ _).mono ?_; rintro e w' ⟨rfl, rfl⟩)
  go_ret
  exact ⟨rfl, rfl⟩
end Go.Proofs.YtldfaaahmpncbaaGreat

namespace Go.Proofs.YtldfaaahmpncbaaGreat
open Go.RowKit Go.Maps
open CtxM
set_option linter.unusedVariables false
set_option linter.unusedSimpArgs false
set_option maxRecDepth 20000
/-- A live dot's item. -/
def liveI (K : Kl) (d : Dt) : It := ⟨d, (keyAt K d).1, (keyAt K d).2, false⟩
theorem Pick.len {α : Type} {L : List (Dt × α)} {p : Dt → Bool} {M : List Dt} (hP : Pick L p M) : M.length ≤ L.length := by
  have : M.length ≤ (L.map Prod.fst).length := by
    have hnd : M.Nodup := hP.rise.imp fun hab => lt_ne_ hab
    exact List.Subset.length_le_of_nodup_ hnd fun d hd => ((hP.mem d).1 hd).1
  rw [List.length_map] at this
  exact this
section
variable {w w' : World} {p g : Nat} {v : Value} {V : List Nat} {X : List Dt} {b1 b2 : Nat} {K : Kl} {T : Tl}
set_option maxHeartbeats 4000000 in
theorem items_any (h : Os w p g v V X b1 b2 K T) {gi : Nat} {lbi : Array Value} {is : Dt → Bool} (eg : ∀ args w, (callFunc gi args).run Tryz.prog w = .ok (.enter gi args) w) (hN : K.length ≤ 40000) (hN2 : T.length ≤ 40000)
    (hin : ∀ d, OkD d → ∀ X, Below w.heap.size w X → Calls Tryz.prog gi (#[dval d] ++ lbi) X fun e X' => e = .returned (.bool (is d)) ∧ Below X.heap.size X X') :
    Calls Tryz.prog 52 #[.pointer (some ⟨p, 0, none⟩), .func (.func gi) #[] lbi] w fun e w' => ∃ vi M N Q, e = .returned vi ∧ Pick K is M ∧ Pick T is N ∧ OwnK kIt w' w.heap.size vi Q ∧ (Q.Pairwise fun a b => ¬ Lt b.d a.d) ∧ Q.Perm (M.map (liveI K) ++ N.map goneI) ∧ Below w.heap.size w w' := by
  obtain ⟨i0, hi, hz0, hz1, hz2⟩ := info_parts info_item
  have hfo : Tryz.prog.follows .mixedOrders = true := by kernel_rfl
  have HIN := Lib.hid hin
  clear hin
  go_enter Tryz.func52, Tryz.ntmps52
  go_wp2_with fail
  refine (olook_any h).mono ?_
  rintro e w1 ⟨rfl, hb1⟩
  go_upto_region 3 with fail
  have hb2 : Below w.heap.size w (w1.alloc (.cells #[.pointer (some ⟨g, 0, none⟩), .map (some b1), .map (some b2)] 84)) := hb1.alloc hb1.size _
  have hfrom := Blk.new w1 84 #[.pointer (some ⟨g, 0, none⟩), .map (some b1), .map (some b2)]
  change Code.wp _ _ _ _ (w1.alloc (.cells #[.pointer (some ⟨g, 0, none⟩), .map (some b1), .map (some b2)] 84))
  have h2 := h.below hb2
  have hgf := hb1.size
  generalize w1.alloc (.cells #[.pointer (some ⟨g, 0, none⟩), .map (some b1), .map (some b2)] 84) = w2 at hb2 hfrom h2 ⊢
  generalize w1.heap.size = gf at hfrom hgf ⊢
  have q1 : w2.cell? ⟨gf, 1, none⟩ = some (.map (some b1)) := by rw [hfrom.cell]; rfl
  have q2 : w2.cell? ⟨gf, 2, none⟩ = some (.map (some b2)) := by rw [hfrom.cell]; rfl
  have HPK := Lib.hid (pickK_any (gi := gi) (lbi := lbi) (p := is) (C := fun X => Below w2.heap.size w2 X) eg b1 K.length h2.ma.okl (by omega) w2 h2.ma.live (Below.refl _ _) (fun _ => Iff.rfl)
    (fun d hd X hX => by
      obtain ⟨q, hq, rfl⟩ := List.mem_map.1 hd
      exact HIN.out q.1 (h2.ma.okl.2 q hq) X (hb2.trans (hX.mono hb2.size))))
  have hz := hb2.size
  clear hb1
  go_wp2_with fail
  refine HPK.out.mono ?_
  rintro e w3 ⟨v3, M, rfl, hP, ho3, hb3⟩
  clear HPK q1 q2
  have hbw3 := hb2.trans (hb3.mono hz)
  have h3 := h2.below hb3
  have hfrom3 := hfrom.below hb3 hfrom.lt
  have hsd := ho3.sd
  obtain ⟨A3, n3, c3, rfl⟩ := ho3.shape
  obtain rfl := hsd.len
  have hMl := hP.len
  have HP := Lib.hid hP
  have H3 := Lib.hid h3
  clear hfrom ho3 hb3 hP h2 h h3 hb2
  have hfrom := hfrom3
  clear hfrom3
  go_wp2_with fail
  go_loopw [5, 18] (fun z5 z wr => ∃ k : Nat, z = .int .i64 (k : Int) ∧ k ≤ M.length ∧ OwnK kIt wr w3.heap.size z5 ((M.take k).map (liveI K)) ∧ Below w3.heap.size w3 wr) (fun _ z _ => M.length - (intOf z).toNat)
  case atStart => exact ⟨0, rfl, Nat.zero_le _, OwnK.nil, Below.refl _ _⟩
  case round =>
    obtain ⟨k, rfl, hk, ho, hb⟩ := hrel
    by_cases hlt : k < M.length
    · have hlti : (k : Int) < (M.length : Int) := by omega
      obtain ⟨d, hd⟩ : ∃ d, M[k] = d := ⟨_, rfl⟩
      have hdm : d ∈ M := by rw [← hd]; exact List.getElem_mem hlt
      have hdk := ((HP.out.mem d).1 hdm).1
      have hokd : OkD d := by obtain ⟨q, hq, rfl⟩ := List.mem_map.1 hdk; exact H3.out.ma.okl.2 q hq
      obtain ⟨⟨kt, ku⟩, hkk⟩ : ∃ k, keyAt K d = k := ⟨_, rfl⟩
      have HLK := Lib.hid (show ∀ X, Below w3.heap.size w3 X → (Instr.lookup 81 (.map (some b1)) (.agg #[.int .i64 d.1, .int .u64 (d.2 : Int)]) false).run Tryz.prog X = .ok (.agg #[.string kt, .string ku]) X from fun X hX => by
        have := (H3.out.ma.below hX).valL hokd
        rw [hkk] at this
        exact this)
      obtain ⟨b, o, e0, k0, k1⟩ := (hsd.below hb).at_ k hlt d hd
      subst e0
      obtain ⟨v5, hv5⟩ : ∃ v5, u5 = v5 := ⟨_, rfl⟩
      have hll : ((M.take k).map (liveI K)).length = k := by rw [List.length_map, List.length_take]; omega
      have hl6 : ((M.take k).map (liveI K)).length + [(⟨d, kt, ku, false⟩ : It)].length ≤ maxLen := by rw [hll]; simp [maxLen]; omega
      have hl7 : (((M.take k).map (liveI K)).length + [(⟨d, kt, ku, false⟩ : It)].length) * kIt.by_ ≤ 140737488355328 := by rw [hll]; simp [kIt]; omega
      have hb6 : Below w3.heap.size w3 (wr.alloc (.cells #[.int .i64 d.1, .int .u64 (d.2 : Int)] 41)) := hb.alloc hb.size _
      have hbd6 := Blk.new wr 41 #[.int .i64 d.1, .int .u64 (d.2 : Int)]
      have ho6 := ho.alloc (.cells #[.int .i64 d.1, .int .u64 (d.2 : Int)] 41)
      have HNE := Lib.hid (show some wr.heap.size ≠ u5.ownBlock from fun e => by have := (ho.lt _ e.symm).2; omega)
      have HX := Lib.hid (show (M.take (k + 1)).map (liveI K) = (M.take k).map (liveI K) ++ [(⟨d, kt, ku, false⟩ : It)] by
        rw [List.take_succ_eq_append_getElem hlt, List.map_append, hd]
        simp only [List.map_cons, List.map_nil, liveI, hkk])
      have HLT := Lib.hid hlt
      clear hd hdm hdk hokd hkk ho hb
      subst hv5
      go_upto_region 6 with fail
      change Code.wp _ _ _ _ (wr.alloc (.cells #[.int .i64 d.1, .int .u64 (d.2 : Int)] 41))
      generalize wr.alloc (.cells #[.int .i64 d.1, .int .u64 (d.2 : Int)] 41) = W6 at hb6 hbd6 ho6 ⊢
      generalize wr.heap.size = gb at hbd6 HNE ⊢
      refine wp_region_held_drew (S := fun X => Below w3.heap.size w3 X ∧ Blk X gb 41 #[.int .i64 d.1, .int .u64 (d.2 : Int)]) hfo ⟨hb6.trans (((Below.refl W6.heap.size W6).drew).mono hb6.size), hbd6⟩ (fun hS0 => ?_)
      have HO6 := Lib.hid (show OwnK kIt W6.drew w3.heap.size u5 _ from ho6)
      have hgb6 : gb < W6.drew.heap.size := hbd6.lt
      generalize W6.drew = Z0 at hS0 HO6 hgb6 ⊢
      refine' wpAnyH_take (i := 0) (oi := ⟨some 22, _, _, _, _, _⟩) (v := _) rfl (by kernel_rfl) (by kernel_rfl) (by kernel_rfl) (fun _ _ _ h => h) (Or.inl ⟨by rfl, ?y0a⟩) hS0 ?r0a
      case y0a =>
        intro w' hSw
        go_simp
        try rfl
      try simp only [Act.put, List.setIfInBounds_toArray, List.set_cons_zero, List.set_cons_succ]
      refine' wpAnyH_take (i := 1) (oi := ⟨some 23, _, _, _, _, _⟩) (v := _) rfl (by kernel_rfl) (by kernel_rfl) (by kernel_rfl) (fun _ _ _ h => h) (Or.inl ⟨by rfl, ?y1a⟩) hS0 ?r1a
      case y1a =>
        intro w' hSw
        obtain ⟨hX, hdx⟩ := hSw
        have hbx := hfrom.below hX hfrom.lt; have q1 : w'.cell? ⟨gf, 1, none⟩ = some (.map (some b1)) := (by rw [hbx.cell]; rfl)
        have d0 : w'.cell? ⟨gb, 0, none⟩ = some (.int .i64 d.1) := (by rw [hdx.cell]; rfl); have d1 : w'.cell? ⟨gb, 1, none⟩ = some (.int .u64 (d.2 : Int)) := (by rw [hdx.cell]; rfl)
        have hlk : (Instr.lookup 81 (.map (some b1)) (.agg #[.int .i64 d.1, .int .u64 (d.2 : Int)]) false).run Tryz.prog w' = .ok (.agg #[.string kt, .string ku]) w' := HLK.out _ hX
        go_simp
        try rfl
      try simp only [Act.put, List.setIfInBounds_toArray, List.set_cons_zero, List.set_cons_succ]
      refine' wpAnyH_take (i := 2) (oi := ⟨some 24, _, _, _, _, _⟩) (v := _) rfl (by kernel_rfl) (by kernel_rfl) (by kernel_rfl) (fun _ _ _ h => h) (Or.inl ⟨by rfl, ?y2a⟩) hS0 ?r2a
      case y2a =>
        intro w' hSw
        go_simp
        try rfl
      try simp only [Act.put, List.setIfInBounds_toArray, List.set_cons_zero, List.set_cons_succ]
      refine' wpAnyH_take (i := 3) (oi := ⟨some 25, _, _, _, _, _⟩) (v := _) rfl (by kernel_rfl) (by kernel_rfl) (by kernel_rfl) (fun _ _ _ h => h) (Or.inl ⟨by rfl, ?y3a⟩) hS0 ?r3a
      case y3a =>
        intro w' hSw
        obtain ⟨hX, hdx⟩ := hSw
        have hbx := hfrom.below hX hfrom.lt; have q1 : w'.cell? ⟨gf, 1, none⟩ = some (.map (some b1)) := (by rw [hbx.cell]; rfl)
        have d0 : w'.cell? ⟨gb, 0, none⟩ = some (.int .i64 d.1) := (by rw [hdx.cell]; rfl); have d1 : w'.cell? ⟨gb, 1, none⟩ = some (.int .u64 (d.2 : Int)) := (by rw [hdx.cell]; rfl)
        have hlk : (Instr.lookup 81 (.map (some b1)) (.agg #[.int .i64 d.1, .int .u64 (d.2 : Int)]) false).run Tryz.prog w' = .ok (.agg #[.string kt, .string ku]) w' := HLK.out _ hX
        go_simp
        try rfl
      try simp only [Act.put, List.setIfInBounds_toArray, List.set_cons_zero, List.set_cons_succ]
      refine' wpAnyH_take (i := 4) (oi := ⟨some 26, _, _, _, _, _⟩) (v := _) rfl (by kernel_rfl) (by kernel_rfl) (by kernel_rfl) (fun _ _ _ h => h) (Or.inl ⟨by rfl, ?y4a⟩) hS0 ?r4a
      case y4a =>
        intro w' hSw
        obtain ⟨hX, hdx⟩ := hSw
        have hbx := hfrom.below hX hfrom.lt; have q1 : w'.cell? ⟨gf, 1, none⟩ = some (.map (some b1)) := (by rw [hbx.cell]; rfl)
        have d0 : w'.cell? ⟨gb, 0, none⟩ = some (.int .i64 d.1) := (by rw [hdx.cell]; rfl); have d1 : w'.cell? ⟨gb, 1, none⟩ = some (.int .u64 (d.2 : Int)) := (by rw [hdx.cell]; rfl)
        have hlk : (Instr.lookup 81 (.map (some b1)) (.agg #[.int .i64 d.1, .int .u64 (d.2 : Int)]) false).run Tryz.prog w' = .ok (.agg #[.string kt, .string ku]) w' := HLK.out _ hX
        go_simp
        try rfl
      try simp only [Act.put, List.setIfInBounds_toArray, List.set_cons_zero, List.set_cons_succ]
      refine' wpAnyH_take (i := 5) (oi := ⟨some 27, _, _, _, _, _⟩) (v := _) rfl (by kernel_rfl) (by kernel_rfl) (by kernel_rfl) (fun _ _ _ h => h) (Or.inl ⟨by rfl, ?y5a⟩) hS0 ?r5a
      case y5a =>
        intro w' hSw
        obtain ⟨hX, hdx⟩ := hSw
        have hbx := hfrom.below hX hfrom.lt; have q1 : w'.cell? ⟨gf, 1, none⟩ = some (.map (some b1)) := (by rw [hbx.cell]; rfl)
        have d0 : w'.cell? ⟨gb, 0, none⟩ = some (.int .i64 d.1) := (by rw [hdx.cell]; rfl); have d1 : w'.cell? ⟨gb, 1, none⟩ = some (.int .u64 (d.2 : Int)) := (by rw [hdx.cell]; rfl)
        have hlk : (Instr.lookup 81 (.map (some b1)) (.agg #[.int .i64 d.1, .int .u64 (d.2 : Int)]) false).run Tryz.prog w' = .ok (.agg #[.string kt, .string ku]) w' := HLK.out _ hX
        go_simp
        try rfl
      try simp only [Act.put, List.setIfInBounds_toArray, List.set_cons_zero, List.set_cons_succ]
      refine' wpAnyH_take (i := 6) (oi := ⟨some 28, _, _, _, _, _⟩) (v := _) rfl (by kernel_rfl) (by kernel_rfl) (by kernel_rfl) (fun _ _ _ h => h) (Or.inl ⟨by rfl, ?y6a⟩) hS0 ?r6a
      case y6a =>
        intro w' hSw
        go_simp
        try rfl
      try simp only [Act.put, List.setIfInBounds_toArray, List.set_cons_zero, List.set_cons_succ]
      refine held_one (i := 7) (by kernel_rfl) rfl (fun Kc hK => ?_)
      go_simp
      have hA : Below Z0.heap.size Z0 (Z0.alloc (.cells #[.int .i64 d.1, .int .u64 (d.2 : Int), .string kt, .string ku, .bool false] 48)) := (Below.refl _ _).alloc (Nat.le_refl _) _
      have hone := SlK.one (k := kIt) Z0 (⟨d, kt, ku, false⟩ : It) #[.int .i64 d.1, .int .u64 (d.2 : Int), .string kt, .string ku, .bool false] rfl
      have hoa := HO6.out.below hA
      have hS7 : Below w3.heap.size w3 (Z0.alloc (.cells #[.int .i64 d.1, .int .u64 (d.2 : Int), .string kt, .string ku, .bool false] 48)) ∧ Blk (Z0.alloc (.cells #[.int .i64 d.1, .int .u64 (d.2 : Int), .string kt, .string ku, .bool false] 48)) gb 41 #[.int .i64 d.1, .int .u64 (d.2 : Int)] := ⟨hS0.1.trans (hA.mono hS0.1.size), hS0.2.below hA hgb6⟩
      refine hK.out _ _ hS7 (fun _ => ?_)
      clear hK Kc
      try simp only [Act.put, List.setIfInBounds_toArray, List.set_cons_zero, List.set_cons_succ]
      obtain ⟨v8, Z8, hr8, ho8, hg8, _⟩ := run_append_k (k := kIt) (P := Tryz.prog) (Z0.alloc (.cells #[.int .i64 d.1, .int .u64 (d.2 : Int), .string kt, .string ku, .bool false] 48)) w3.heap.size 33 33 i0 Tryz.underlying33 hi hz0 hz1 hz2 u5 ((M.take k).map (liveI K)) hoa _ [(⟨d, kt, ku, false⟩ : It)] hone hl6 hl7 hS7.1.size
      have hS8 : Below w3.heap.size w3 Z8 ∧ Blk Z8 gb 41 #[.int .i64 d.1, .int .u64 (d.2 : Int)] := ⟨hS7.1.grown hg8 hS7.1.size (fun i e => (hoa.lt i e).1), hS7.2.grownP hg8 (HNE.out)⟩
      have HB8 := Lib.hid (And.intro hS8.1 ho8)
      clear hA hone hoa hg8 ho8
      refine held_one (i := 8) (by kernel_rfl) rfl (fun Kc hK => ?_)
      refine heldOp_append (.tmp 22) (.tmp 29) 33 rfl _ _ v8 Z8 rfl rfl hr8 ?_
      refine hK.out _ _ hS8 (fun _ => ?_)
      clear hK Kc hr8
      try simp only [Act.put, List.setIfInBounds_toArray, List.set_cons_zero, List.set_cons_succ]
      refine' wpAnyH_take (i := 9) (oi := ⟨some 5, _, _, _, _, _⟩) (v := _) rfl (by kernel_rfl) (by kernel_rfl) (by kernel_rfl) (fun _ _ _ h => h) (Or.inl ⟨by rfl, ?y9a⟩) hS8 ?r9a
      case y9a =>
        intro w' hSw
        go_simp
        try rfl
      try simp only [Act.put, List.setIfInBounds_toArray, List.set_cons_zero, List.set_cons_succ]
      refine wpAnyH_done (by kernel_rfl) ?_ _
      clear hS0 hS7 hS8 hgb6
      go_wp2
      exact ⟨⟨k + 1, by go_num, HLT.out, by rw [HX.out]; exact HB8.out.2, HB8.out.1⟩, by have := HLT.out; simp [intOf]; omega⟩
    · obtain rfl : k = M.length := by omega
      have hlti : ¬ ((M.length : Int) < (M.length : Int)) := by omega
      rw [List.take_length] at ho
      have hfr := hfrom.below hb hfrom.lt
      have q2 : wr.cell? ⟨gf, 2, none⟩ = some (.map (some b2)) := by rw [hfr.cell]; rfl
      have hr := H3.out.below hb
      have hbwr := hbw3.trans (hb.mono hbw3.size)
      have HPU := Lib.hid (pickU_any (gi := gi) (lbi := lbi) (p := is) (C := fun X => Below wr.heap.size wr X) eg b2 T.length hr.ma.okt (by omega) wr hr.ma.tomb (Below.refl _ _) (fun _ => Iff.rfl)
        (fun d hd X hX => by
          obtain ⟨q, hq, rfl⟩ := List.mem_map.1 hd
          exact HIN.out q.1 (hr.ma.okt.2 q hq) X (hbwr.trans (hX.mono hbwr.size))))
      have HOM := Lib.hid ho
      have HZ := Lib.hid (show w3.heap.size ≤ wr.heap.size from hb.size)
      have HZ3 := Lib.hid hbw3.size
      clear hfr hr hfrom hsd hb ho hbw3
      go_wp2_with fail
      refine HPU.out.mono ?_
      rintro e w4 ⟨v4, N, rfl, hPN, ho4, hb4⟩
      have hbw4 := hbwr.trans (hb4.mono hbwr.size)
      have ho5 := HOM.out.below hb4
      have hsd := ho4.sd
      obtain ⟨A4, n4, c4, rfl⟩ := ho4.shape
      obtain rfl := hsd.len
      have hNl := hPN.len
      have HPN := Lib.hid hPN
      have HML := Lib.hid hMl
      have hz34 : w3.heap.size ≤ w4.heap.size := Nat.le_trans HZ.out hb4.size
      have hfar : ∀ i, (Value.slice A4 N.length c4).ownBlock = some i → ¬ (u5.ownBlock = some i) := fun i e1 e2 => by
        have h1 := (ho4.lt i e1).1
        have h2 := (HOM.out.lt i e2).2
        omega
      have hlt4 : ∀ i, (Value.slice A4 N.length c4).ownBlock = some i → i < w4.heap.size := fun i e => (ho4.lt i e).2
      have HLO := Lib.hid (show ∀ i, u5.ownBlock = some i → w3.heap.size ≤ i from fun i e => (ho5.lt i e).1)
      have HFAR := Lib.hid hfar
      clear HPU q2 hbwr hb4 ho4 HOM HZ hPN hMl hfar
      obtain ⟨vA, rfl⟩ : ∃ x, x = u5 := ⟨_, rfl⟩
      go_wp2_with fail
      go_loopw [5, 37] (fun z5 z wz => ∃ k : Nat, z = .int .i64 (k : Int) ∧ k ≤ N.length ∧ OwnK kIt wz w3.heap.size z5 (M.map (liveI K) ++ (N.take k).map goneI) ∧ Keep (fun i => vA.ownBlock = some i) w4 wz ∧ Newer w4.heap.size vA z5) (fun _ z _ => N.length - (intOf z).toNat)
      case atStart => exact ⟨0, rfl, Nat.zero_le _, by simpa using ho5, .refl _ _, fun i e => .inl e⟩
      case round =>
        obtain ⟨k, rfl, hk, ho, hkp, hnw⟩ := hrel
        have hB3 : w3.heap.size ≤ wr.heap.size := Nat.le_trans hz34 hkp.size
        by_cases hlt : k < N.length
        · have hlti : (k : Int) < (N.length : Int) := by omega
          obtain ⟨d, hd⟩ : ∃ d, N[k] = d := ⟨_, rfl⟩
          obtain ⟨b, o, e0, k0, k1⟩ := (hsd.kept hkp (fun i e => HFAR.out i e)).at_ k hlt d hd
          subst e0
          obtain ⟨A5, n5, c5, rfl⟩ : ∃ A n c, u5 = .slice A n c := by obtain ⟨A, c, e⟩ := ho.shape; exact ⟨A, _, c, e⟩
          have hal : Below wr.heap.size wr ((wr.alloc (.cells #[.int .i64 d.1, .int .u64 (d.2 : Int)] 41)).alloc (.cells #[.int .i64 d.1, .int .u64 (d.2 : Int), .string ⟨#[]⟩, .string ⟨#[]⟩, .bool true] 48)) := ((Below.refl _ _).alloc (Nat.le_refl _) _).alloc (by simp) _
          have hoa := ho.below hal
          have hone := SlK.one (k := kIt) (wr.alloc (.cells #[.int .i64 d.1, .int .u64 (d.2 : Int)] 41)) (goneI d) #[.int .i64 d.1, .int .u64 (d.2 : Int), .string ⟨#[]⟩, .string ⟨#[]⟩, .bool true] rfl
          rw [show (wr.alloc (.cells #[.int .i64 d.1, .int .u64 (d.2 : Int)] 41)).heap.size = wr.heap.size + 1 by simp] at hone
          obtain ⟨LL, hLL⟩ : ∃ l, M.map (liveI K) ++ (N.take k).map goneI = l := ⟨_, rfl⟩
          have hll : LL.length ≤ 80000 := by rw [← hLL, List.length_append, List.length_map, List.length_map, List.length_take]; have := HML.out; omega
          have hl6 : LL.length + [goneI d].length ≤ maxLen := by simp [maxLen]; omega
          have hl7 : (LL.length + [goneI d].length) * kIt.by_ ≤ 140737488355328 := by simp [kIt]; omega
          rw [hLL] at hoa
          have hbs : w3.heap.size ≤ ((wr.alloc (.cells #[.int .i64 d.1, .int .u64 (d.2 : Int)] 41)).alloc (.cells #[.int .i64 d.1, .int .u64 (d.2 : Int), .string ⟨#[]⟩, .string ⟨#[]⟩, .bool true] 48)).heap.size := Nat.le_trans hB3 hal.size
          have HKP := Lib.hid (hkp.trans (T := fun _ => False) (Keep.of_below hal) (fun _ h => h) (fun _ _ h => h.elim))
          have HNW := Lib.hid hnw
          have HX := Lib.hid (show M.map (liveI K) ++ (N.take (k + 1)).map goneI = LL ++ [goneI d] by
            rw [List.take_succ_eq_append_getElem hlt, List.map_append, ← List.append_assoc, hLL, hd]; rfl)
          have HLT := Lib.hid hlt
          have HOA := Lib.hid hoa
          have HONE := Lib.hid hone
          have HAL := Lib.hid (And.intro hal.size hkp.size)
          clear hd ho hoa hone hkp hnw hLL hal
          go_wp2_with (at_builtin; refine wpList_append_k (k := kIt) rfl _ _ 33 rfl w3.heap.size i0 Tryz.underlying33 hi hz0 hz1 hz2 _ LL rfl HOA.out _ [goneI d] rfl HONE.out hl6 hl7 hbs ?_)
          intro v' w5 ho5 hg5 hn5
          have hkg := Keep.of_grown (S := fun i => (Value.slice A5 n5 c5).ownBlock = some i) hg5 (fun _ h => h)
          have HK5 := Lib.hid (HKP.out.trans hkg (fun _ h => h) (fun i hi e => (HNW.out i e).elim id (fun h => absurd hi (by omega))))
          have HO5 := Lib.hid (show OwnK kIt w5 w3.heap.size v' (M.map (liveI K) ++ (N.take (k + 1)).map goneI) by rw [HX.out]; exact ho5)
          have HN5 := Lib.hid (show Newer w4.heap.size vA v' from fun i e => by
            rcases hn5 i e with e2 | e2
            · exact HNW.out i e2
            · have := HAL.out; exact .inr (by omega))
          clear ho5 hg5 hn5 hkg
          go_wp2
          exact ⟨⟨k + 1, by go_num, HLT.out, HO5.out, HK5.out, HN5.out⟩, by have := HLT.out; simp [intOf]; omega⟩
        · obtain rfl : k = N.length := by omega
          have hlti : ¬ ((N.length : Int) < (N.length : Int)) := by omega
          rw [List.take_length] at ho
          obtain ⟨LL, hLL⟩ : ∃ l, M.map (liveI K) ++ N.map goneI = l := ⟨_, rfl⟩
          rw [hLL] at ho
          have hll : LL.length ≤ 100000 := by rw [← hLL, List.length_append, List.length_map, List.length_map]; have := HML.out; omega
          have HS := Lib.hid (isort_any u5 LL w3.heap.size wr ho hll)
          have HBW := Lib.hid (Keep.below hbw4 hkp hbw4.size (fun i e => Nat.le_trans HZ3.out (HLO.out i e)))
          have HLW := Lib.hid (fun i e => (ho.lt i e).1)
          have HLL := Lib.hid hLL
          obtain ⟨A5, n5, c5, rfl⟩ : ∃ A n c, u5 = .slice A n c := by obtain ⟨A, c, e⟩ := ho.shape; exact ⟨A, _, c, e⟩
          have hmf : ∀ (fn : Fn) (first cap : Array Value) (w : World), (Instr.makeFunc fn first cap).run Tryz.prog w = .ok (.func fn first cap) w := fun _ _ _ _ => rfl
          clear hLL ho hkp hnw ho5 hsd
          go_wp2_with fail
          refine HS.out.mono ?_
          rintro e w7 ⟨rfl, Q, hoQ, hQs, hQp, hgQ⟩
          have HB7 := Lib.hid (HBW.out.grown hgQ HBW.out.size (fun i e => Nat.le_trans HZ3.out (HLW.out i e)))
          have HQ := Lib.hid (And.intro (hoQ.mono HZ3.out) (And.intro hQs hQp))
          clear HS hoQ hQs hQp hgQ
          go_wp2
          go_ret
          exact ⟨_, M, N, Q, rfl, HP.out, HPN.out, HQ.out.1, HQ.out.2.1, by rw [HLL.out]; exact HQ.out.2.2, HB7.out⟩
end
end Go.Proofs.YtldfaaahmpncbaaGreat

namespace Go.Proofs.YtldfaaahmpncbaaGreat
open Go.RowKit Go.Maps
open CtxM
set_option linter.unusedVariables false
set_option linter.unusedSimpArgs false
set_option maxRecDepth 20000
theorem enter_all : ∀ args w, (callFunc 53 args).run Tryz.prog w = .ok (.enter 53 args) w := enters_of Tryz.func53 (by kernel_rfl) rfl
/-- The items that were put together and sorted are the document's. -/
theorem items_comes {D : St} {K : Kl} {T : Tl} (hG : Good D) (hR : Rep D.I K T) (hK : OkL K) {is : Dt → Bool} {M N : List Dt} {Q : List It} (hM : Pick K is M) (hN : Pick T is N) (hs : Q.Pairwise fun a b => ¬ Lt b.d a.d) (hp : Q.Perm (M.map (liveI K) ++ N.map goneI)) : Q = D.I.filter fun i => is i.d := by
  have hmem : ∀ i, i ∈ Q ↔ i ∈ D.I ∧ is i.d = true := by
    intro i
    rw [hp.mem_iff, List.mem_append, List.mem_map, List.mem_map]
    constructor
    · rintro (⟨d, hd, rfl⟩ | ⟨d, hd, rfl⟩)
      · obtain ⟨h1, h2⟩ := (hM.mem d).1 hd
        exact ⟨(hR.live d (keyAt K d)).1 (keyAt_mem h1), h2⟩
      · obtain ⟨h1, h2⟩ := (hN.mem d).1 hd
        obtain ⟨⟨d', ⟨⟩⟩, h3, rfl⟩ := List.mem_map.1 h1
        exact ⟨(hR.tomb d').1 h3, h2⟩
    · rintro ⟨h1, h2⟩
      cases hg : i.g with
      | false =>
        obtain ⟨d, t, v, g⟩ := i
        simp only at hg h2
        subst hg
        have h3 := (hR.live d (t, v)).2 h1
        refine .inl ⟨d, (hM.mem d).2 ⟨List.mem_map.2 ⟨_, h3, rfl⟩, h2⟩, ?_⟩
        unfold liveI
        rw [keyAt_of hK h3]
      | true =>
        have e := itB_gone (hG.ok i h1) hg
        rw [e] at h1
        have h3 := (hR.tomb i.d).2 h1
        exact .inr ⟨i.d, (hN.mem _).2 ⟨List.mem_map.2 ⟨_, h3, rfl⟩, h2⟩, e.symm⟩
  have hnd : Q.Nodup := by
    rw [hp.nodup_iff, List.nodup_append]
    refine ⟨?_, ?_, ?_⟩
    · rw [List.Nodup, List.pairwise_map]
      exact hM.rise.imp fun hab e => lt_ne_ hab (congrArg It.d e)
    · rw [List.Nodup, List.pairwise_map]
      exact hN.rise.imp fun hab e => lt_ne_ hab (congrArg It.d e)
    · intro a ha b hb e
      obtain ⟨d, _, rfl⟩ := List.mem_map.1 ha
      obtain ⟨d', _, rfl⟩ := List.mem_map.1 hb
      have := congrArg It.g e
      cases this
  have hrise : Q.Pairwise fun a b => Lt a.d b.d := by
    refine List.pairwise_iff_getElem.2 fun i j hi hj hij => ?_
    have h1 := List.pairwise_iff_getElem.1 hs i j hi hj hij
    have h2 := List.pairwise_iff_getElem.1 hnd i j hi hj hij
    rcases Lt.tri Q[i].d Q[j].d with a | a | a
    · exact a
    · exact absurd (hG.uniq ((hmem _).1 (List.getElem_mem hi)).1 ((hmem _).1 (List.getElem_mem hj)).1 a) h2
    · exact absurd a h1
  exact rise_items hrise (hG.rise.filter _) fun i => by rw [hmem, List.mem_filter]
section
variable {w w' : World} {p g : Nat} {v : Value} {V : List Nat} {X : List Dt} {b1 b2 : Nat} {K : Kl} {T : Tl}
set_option maxHeartbeats 1000000 in
theorem oitems_any (h : Os w p g v V X b1 b2 K T) {D : St} (hG : Good D) (hR : Rep D.I K T) (hN : D.I.length ≤ 40000) :
    Calls Tryz.prog 14 #[.pointer (some ⟨p, 0, none⟩)] w fun e w' => ∃ vi, e = .returned vi ∧ OwnK kIt w' w.heap.size vi D.I ∧ Below w.heap.size w w' := by
  have hl := hR.lens hG h.ma.okl h.ma.okt
  have HI := Lib.hid (items_any h (gi := 53) (lbi := #[]) (is := fun _ => true) enter_all (by omega) (by omega) (fun d hd X hX => (all_any d X).mono fun e X' hh => ⟨hh.1, hh.2.below⟩))
  have HK := Lib.hid h.ma.okl
  clear h hl
  go_enter Tryz.func14, Tryz.ntmps14
  go_wp2_with fail
  refine HI.out.mono ?_
  rintro e w2 ⟨vi, M, N, Q, rfl, hM, hNp, ho, hs, hp, hb⟩
  have HQ := Lib.hid (items_comes hG hR HK.out hM hNp hs hp)
  have HO := Lib.hid (And.intro ho hb)
  clear HI hM hNp ho hs hp hb
  go_wp2
  go_ret
  refine ⟨vi, rfl, ?_, HO.out.2⟩
  have := HO.out.1
  rw [HQ.out, List.filter_eq_self.2 (fun _ _ => rfl)] at this
  exact this
set_option maxHeartbeats 1000000 in
theorem otombs_any (h : Os w p g v V X b1 b2 K T) (hN : T.length ≤ 40000) :
    Calls Tryz.prog 31 #[.pointer (some ⟨p, 0, none⟩)] w fun e w' => ∃ vi M, e = .returned vi ∧ Pick T (fun _ => true) M ∧ OwnD w' w.heap.size vi M ∧ Below w.heap.size w w' := by
  have H := Lib.hid h
  have HL := Lib.hid (olook_any h)
  clear h
  have hsf2 : ∀ a b c W, (Instr.field 84 (.agg #[a, b, c]) 2).run Tryz.prog W = .ok c W := fun a b c W => set_f2 a b c W
  go_enter Tryz.func31, Tryz.ntmps31
  go_wp2_with fail
  refine HL.out.mono ?_
  rintro e w1 ⟨rfl, hb1⟩
  have h1 := H.out.below hb1
  have HP := Lib.hid (pickU_any (gi := 53) (lbi := #[]) (p := fun _ => true) (C := fun X => Below w1.heap.size w1 X) enter_all b2 T.length h1.ma.okt (by omega) w1 h1.ma.tomb (Below.refl _ _) (fun _ => Iff.rfl)
    (fun d hd X hX => (all_any d X).mono fun e X' hh => ⟨hh.1, hh.2.below⟩))
  clear HL h1
  go_wp2_with fail
  refine HP.out.mono ?_
  rintro e w2 ⟨v2, M, rfl, hM, ho, hb2⟩
  have HO := Lib.hid (And.intro hM (And.intro (ho.mono hb1.size) (hb1.trans (hb2.mono hb1.size))))
  clear HP hM ho hb1 hb2
  go_wp2
  go_ret
  exact ⟨_, M, rfl, HO.out.1, HO.out.2.1, HO.out.2.2⟩
set_option maxHeartbeats 1000000 in
theorem octx_any (h : Os w p g v V X b1 b2 K T) (hX : X.length ≤ 100000) :
    Calls Tryz.prog 36 #[.pointer (some ⟨p, 0, none⟩)] w fun e w' => ∃ g' v', e = .returned (.pointer (some ⟨g', 0, none⟩)) ∧ Cx w' g' v' V X ∧ (∀ i, Foot g' v' i → w.heap.size ≤ i) ∧ Below w.heap.size w w' := by
  have H := Lib.hid h
  have HL := Lib.hid (olook_any h)
  clear h
  have hsf0 : ∀ a b c W, (Instr.field 84 (.agg #[a, b, c]) 0).run Tryz.prog W = .ok a W := fun a b c W => set_f0 a b c W
  go_enter Tryz.func36, Tryz.ntmps36
  go_wp2_with fail
  refine HL.out.mono ?_
  rintro e w1 ⟨rfl, hb1⟩
  have HC := Lib.hid (copy_any g v V X w1 (H.out.below hb1).cx hX)
  clear HL
  go_wp2_with fail
  refine HC.out.mono ?_
  rintro e w2 ⟨g2, v2, rfl, hcx, hf, hb2⟩
  have HO := Lib.hid (And.intro hcx (And.intro (fun i hi => Nat.le_trans hb1.size (hf i hi)) (hb1.trans (hb2.mono hb1.size))))
  clear HC hcx hf hb1 hb2
  go_wp2
  go_ret
  exact ⟨g2, v2, rfl, HO.out.1, HO.out.2.1, HO.out.2.2⟩
set_option maxHeartbeats 2000000 in
theorem ohas_any (h : Os w p g v V X b1 b2 K T) (t u : ByteArray) :
    Calls Tryz.prog 19 #[.pointer (some ⟨p, 0, none⟩), .agg #[.string t, .string u]] w fun e w' => e = .returned (.bool (decide (∃ q ∈ K, q.2 = (t, u)))) ∧ Below w.heap.size w w' := by
  have hb1 : Below w.heap.size w (w.alloc (.cells #[.string t, .string u] 39)) := (Below.refl _ _).alloc (Nat.le_refl _) _
  have hbk := Blk.new w 39 #[.string t, .string u]
  have HL := Lib.hid (olook_any (h.below hb1))
  have H := Lib.hid h
  clear h
  have hsf1 : ∀ a b c W, (Instr.field 84 (.agg #[a, b, c]) 1).run Tryz.prog W = .ok b W := fun a b c W => set_f1 a b c W
  obtain ⟨r, hr⟩ : ∃ r, decide (∃ q ∈ K, q.2 = (t, u)) = r := ⟨_, rfl⟩
  rw [hr]
  have HR := Lib.hid hr
  clear hr
  go_enter Tryz.func19, Tryz.ntmps19
  go_wp2_with fail
  refine HL.out.mono ?_
  rintro e w1 ⟨rfl, hbl⟩
  have hbk1 := hbk.below hbl hbk.lt
  have hbw1 := hb1.trans (hbl.mono hb1.size)
  have h1 := H.out.below hbw1
  have hown := h1.ma.live
  clear hb1 hbk hbl HL
  go_wp2_with (at_range; refine wpList_range_own _ rfl _ 81 rfl 41 39 dotK Tryz.underlying81 _ b1 K.length _ rfl hown ?_; intro w0 hrg0 hg0 hs0)
  go_frame
  have hb0 : Below w1.heap.size w1 w0 := (Below.refl _ _).grown hg0 (Nat.le_refl _) (fun k e => by cases e)
  go_loopw [] (fun wr => ∃ left cnt, wr.ranges Tryz.prog 41 keyR b1 w1.heap.size K.length (MD keyD K) left cnt ∧ (∀ q ∈ K, left (litD q.1) = false → q.2 ≠ (t, u)) ∧ Below w1.heap.size w1 wr) (fun wr => wr.rangeLeft b1 w1.heap.size)
  case atStart =>
    refine ⟨_, _, hrg0, fun q hq hl => ?_, hb0⟩
    rw [has_MD h1.ma.okl (h1.ma.okl.2 q hq), decide_eq_true (List.mem_map.2 ⟨q, hq, rfl⟩)] at hl
    cases hl
  case round =>
    clear hrg0 hg0 hs0 hb0 hown
    obtain ⟨left, cnt, hrg, hall, hb⟩ := hrel
    have HRG := Lib.hid hrg
    have HALL := Lib.hid hall
    clear hall
    go_wp2_with (at_next; refine wpList_next_ranges _ rfl _ rfl 41 dotK keyR (id : Value → Value) id (fun key kl hk => ⟨key, rfl⟩) (fun v _ _ => ⟨v, rfl⟩) b1 w1.heap.size K.length _ left cnt rfl hrg ?_ ?_)
    · intro hc0 hl0
      have HE := Lib.hid (show r = false by
        rw [← HR.out, decide_eq_false_iff_not]
        rintro ⟨q, hq, e⟩
        exact HALL.out q hq (hl0 _) e)
      have HB := Lib.hid (hbw1.trans (hb.mono hbw1.size))
      clear hc0 hl0 hrg hb hbw1
      go_wp2
      go_ret
      exact ⟨by rw [HE.out]; rfl, HB.out⟩
    · intro x c kl yd yp w2 cnt1 hkx hlk hv hat hrg1 hlt hg1 hs1 hen
      obtain ⟨q, hq, rfl, rfl⟩ := key_of_has h1.ma.okl hkx (has_true_of_atKey hat)
      obtain ⟨k', rfl, e⟩ := keyR_inv hv
      injection e with e _
      have hkq : k' = q.2 := by
        have h3 := atKey_MD (R := keyD) h1.ma.okl (show (q.1, q.2) ∈ K from hq) yd
        rw [hat yd, e] at h3
        exact keyD_inj h3
      subst hkq
      obtain ⟨⟨d1, d2⟩, ⟨kt, ku⟩⟩ := q
      have hen2 : (Instr.entry (.pointer (some ⟨w1.heap.size, 0, none⟩))).run Tryz.prog w2 = .ok (.tuple #[.agg #[.int .i64 d1, .int .u64 (d2 : Int)], .agg #[.string kt, .string ku]]) w2 := hen
      have hb2 : Below w1.heap.size w1 w2 := hb.grown hg1 hb.size (fun k e => by injection e with e; omega)
      have hbk2 := hbk1.below hb2 hbk1.lt
      have q4 : (w2.alloc (.cells #[.string kt, .string ku] 39)).cell? ⟨w.heap.size, 0, none⟩ = some (.string t) := by rw [(hbk2.alloc _).cell]; rfl
      have q5 : (w2.alloc (.cells #[.string kt, .string ku] 39)).cell? ⟨w.heap.size, 1, none⟩ = some (.string u) := by rw [(hbk2.alloc _).cell]; rfl
      have hke := key_eq kt ku t u
      obtain ⟨bb, hbb⟩ : ∃ x, x = decide (kt = t ∧ ku = u) := ⟨_, rfl⟩
      rw [← hbb] at hke
      have HBB := Lib.hid hbb
      have HQ := Lib.hid hq
      have HB3 := Lib.hid (hb2.alloc hb2.size (.cells #[.string kt, .string ku] 39))
      have HRG1 := Lib.hid (hrg1.kept (World.grownBy_alloc w2 (.cells #[.string kt, .string ku] 39) none) (by simp) (by simp))
      have HLT := Lib.hid hlt
      clear hkx hlk hv hat hrg1 hlt hg1 hs1 hen hrg hb hb2 hbk2 hbb e hq
      cases bb
      · go_wp2
        refine ⟨⟨_, _, HRG1.out, fun q hq hl => ?_, HB3.out⟩, ?_⟩
        · by_cases hx : left (litD q.1) = false
          · exact HALL.out q hq hx
          · have hl' : (left (litD q.1) && !(litD q.1).sameKey (litD (d1, d2))) = false := hl
            rw [show left (litD q.1) = true by cases hy : left (litD q.1) <;> simp_all, Bool.true_and] at hl'
            have h3 : litD q.1 = litD (d1, d2) := (same_litD _ _).1 (by cases hy : (litD q.1).sameKey (litD (d1, d2)) <;> simp_all)
            have h4 := litD_inj (h1.ma.okl.2 q hq) (h1.ma.okl.2 _ HQ.out) h3
            have h5 : q = ((d1, d2), (kt, ku)) := by
              by_cases hqe : q = ((d1, d2), (kt, ku))
              · exact hqe
              · exact absurd h4 (apart_ne h1.ma.okl hq HQ.out hqe)
            rw [h5]
            intro hc
            injection hc with hc1 hc2
            have := HBB.out
            rw [decide_eq_true ⟨hc1, hc2⟩] at this
            cases this
        · rw [HRG1.out.left_eq, HRG.out.left_eq]; exact HLT.out
      · go_wp2
        go_ret
        refine ⟨?_, hbw1.trans (HB3.out.mono hbw1.size)⟩
        have : r = true := by
          rw [← HR.out, decide_eq_true_iff]
          have := of_decide_eq_true HBB.out.symm
          exact ⟨_, HQ.out, by simp [this.1, this.2]⟩
        rw [this]; rfl
end
end Go.Proofs.YtldfaaahmpncbaaGreat

/-
  What the steps come to, plainly: room.
-/
import Derived.Test.YtdbkhigocjmfoaaDskFull
import Derived.Laws.OwnMore
namespace Go.Proofs.Ytdbkhigocjmfoaa
open Go.RowKit Go.Maps Go.Shelf
open DskM
set_option linter.unusedVariables false
set_option linter.unusedSimpArgs false
set_option maxRecDepth 20000

theorem writeS_ok {S : Ds} {d t F : List Fp} (h : (writeS S d t F).1 = 0) : (writeS S d t F).2.2 = d := by
  unfold writeS at h ⊢
  split at h
  · simp at h
  · split at h
    · simp at h
    · rename_i h1 h2
      rw [if_neg h1, if_neg h2]
theorem writeS_not5 {S : Ds} {d t F : List Fp} : (writeS S d t F).1 ≠ 5 := by
  unfold writeS
  split
  · simp
  · split <;> simp
section
variable {S : Ds} {L : List Fo}
theorem total_add (hr : Rise L) (n : Nm) (b : List UInt8) : totalP (addP (plain L) n b) = totalP (plain L) + b.length := by
  unfold addP
  rw [find_plain]
  cases hf : find L n with
  | none =>
    show totalP (insP (n, b, 0) (plain L)) = _
    rw [show insP (n, b, 0) (plain L) = plain (ins ⟨n, b, 0, 0, .nilFunc⟩ L) from (ins_plain ⟨n, b, 0, 0, .nilFunc⟩ L).symm, total_plain, total_plain, total_ins]
    show b.length + _ = _
    omega
  | some f =>
    obtain ⟨h1, h2⟩ := find_mem hf
    show totalP (setP (plain L) (f.nm, f.bs ++ b, f.la)) = _
    rw [show setP (plain L) (f.nm, f.bs ++ b, f.la) = plain (setF L { f with bs := f.bs ++ b }) from (setF_plain L { f with bs := f.bs ++ b }).symm, total_plain, total_plain]
    have := total_upd (h := fun _ => { f with bs := f.bs ++ b }) hr h1 rfl
    unfold setF
    simp only [List.length_append] at this ⊢
    omega
theorem append_ok (hr : Rise L) {n : Nm} {b : List UInt8} (h : (appendS S (plain L) n b).1 = 0) : totalP (appendS S (plain L) n b).2.2 = totalP (plain L) + b.length := by
  unfold appendS at h ⊢
  split at h
  · rename_i h1
    split at h
    · simp at h
    · rename_i h2
      rw [if_pos h1, if_neg h2, writeS_ok h, total_add hr]
  · simp at h
theorem append_full {n : Nm} {b : List UInt8} (h : (appendS S (plain L) n b).1 = 5) (hb : b.length + totalP (plain L) ≤ S.cap) : (appendS S (plain L) n b).2.2 = plain L ∧ L.length = 64 := by
  unfold appendS at h ⊢
  split at h
  · rename_i h1
    split at h
    · rename_i h2
      rw [if_pos h1, if_pos h2]
      refine ⟨rfl, ?_⟩
      rcases h2 with h2 | ⟨_, h2⟩
      · omega
      · rwa [plain_len] at h2
    · exact absurd h writeS_not5
  · simp at h
theorem remove_ok (hr : Rise L) {n : Nm} (h : (removeS S (plain L) n).1 = 0) : ∃ f ∈ L, f.nm = n ∧ totalP (removeS S (plain L) n).2.2 + f.bs.length = totalP (plain L) := by
  unfold removeS at h ⊢
  split at h
  · rename_i h1
    rw [if_pos h1]
    rw [find_plain] at h ⊢
    cases hf : find L n with
    | none => rw [hf] at h; simp at h
    | some f =>
      obtain ⟨h2, h3⟩ := find_mem hf
      rw [hf] at h
      refine ⟨f, h2, h3, ?_⟩
      show totalP (writeS S (delP (plain L) n) (plain L) (plain L)).2.2 + _ = _
      rw [writeS_ok h, show delP (plain L) n = plain (del L n) from (del_plain L n).symm, total_plain, total_plain]
      exact total_del hr h2 h3
  · simp at h
theorem doS_one {s : St} (h : s.kind = 1) (F : List Fp) : doS S F s = appendS S F s.nm.data.toList s.b := by unfold doS; rw [if_pos h]
theorem doS_five {s : St} (h : s.kind = 5) (F : List Fp) : doS S F s = removeS S F s.nm.data.toList := by
  unfold doS
  rw [if_neg (by omega), if_neg (by omega), if_neg (by omega), if_neg (by omega), if_pos h]
end

/-! The last name that came; the sum of the sizes that came. -/
def lastN {L : List Fo} (pre : List (EntL L)) : Nm := match pre.getLast? with | none => [] | some x => x.1.1
def sumZ {L : List Fo} (pre : List (EntL L)) : Nat := (pre.map (fun x => x.1.2)).sum
theorem lastN_snoc {L : List Fo} (pre : List (EntL L)) (x : EntL L) : lastN (pre ++ [x]) = x.1.1 := by simp [lastN]
theorem sumZ_snoc {L : List Fo} (pre : List (EntL L)) (x : EntL L) : sumZ (pre ++ [x]) = sumZ pre + x.1.2 := by simp [sumZ]
theorem sumZ_all (L : List Fo) : sumZ (allE L) = total L := by
  unfold sumZ total allE
  rw [show (fun x : EntL L => x.1.2) = (fun y : Nm × Nat => y.2) ∘ (fun x : EntL L => x.1) from rfl, ← List.map_map]
  have : (((L.map Fo.nm).zip (L.map fun f => f.bs.length)).attach.map fun x => x.1) = L.map fun f => (f.nm, f.bs.length) := by
    rw [List.attach_map_subtype_val, zip_L]
  rw [this, List.map_map]
  rfl
theorem last_lt {w : World} {p m : Nat} {S : Ds} {L : List Fo} (hd : Dk w p m S L) {pre : List (EntL L)} {x : EntL L} (h : pre ++ [x] = (allE L).take (pre ++ [x]).length) : Lt (lastN pre) x.1.1 := by
  obtain ⟨h1, hk, h2⟩ := ent_last hd.rise h
  rw [h2]
  show Lt (lastN pre) L[pre.length].nm
  rcases Nat.eq_zero_or_pos pre.length with h0 | h0
  · have e : pre = [] := List.eq_nil_of_length_eq_zero h0
    subst e
    have hm := (mayB_iff.1 (hd.file _ (List.getElem_mem hk)).may).1
    show bytesBefore [] _ = true
    cases hc : (L[([] : List (EntL L)).length].nm) with
    | nil => rw [hc] at hm; simp at hm
    | cons a b => rfl
  · have hl : pre.length - 1 < (allE L).length := by rw [allE_len]; omega
    have e : pre.getLast? = some ((allE L)[pre.length - 1]) := by
      rw [List.getLast?_eq_getElem?]
      have h3 : pre[pre.length - 1]? = ((allE L).take pre.length)[pre.length - 1]? := by rw [← h1]
      rw [h3, List.getElem?_take_of_lt (by omega), List.getElem?_eq_getElem hl]
    have e2 : lastN pre = L[pre.length - 1].nm := by
      unfold lastN
      rw [e]
      show ((allE L)[pre.length - 1]).1.1 = _
      rw [allE_at L _ hl (by omega)]
    rw [e2]
    exact List.pairwise_iff_getElem.1 hd.rise (pre.length - 1) pre.length (by omega) hk (by omega)
end Go.Proofs.Ytdbkhigocjmfoaa

/-
  Where a name stands among rising names, plainly; files put, set, taken away there.
-/
namespace Go.Proofs.Ytdbkhigocjmfoaa
open DskM
set_option linter.unusedVariables false
set_option linter.unusedSimpArgs false

theorem lt_no {a b : Nm} (h : Lt a b) : ¬ bytesBefore b a = true := Lt.asymm h
theorem lt_yes {a b : Nm} (h : Lt a b) : bytesBefore a b = true := h
theorem RiseP.del {F : List Fp} (h : RiseP F) (n : Nm) : RiseP (delP F n) := h.filter _
/-- Where a name stands, or would. -/
def posP : List Fp → Nm → Nat
  | [], _ => 0
  | x :: F, n => if bytesBefore x.1 n = true then posP F n + 1 else 0
def isP (F : List Fp) (n : Nm) : Bool := match F[posP F n]? with | some x => x.1 == n | none => false
theorem posP_le : ∀ (F : List Fp) (n : Nm), posP F n ≤ F.length
  | [], _ => Nat.le_refl _
  | x :: F, n => by
    unfold posP
    have := posP_le F n
    split <;> simp <;> omega
theorem pos_is : ∀ (F : List Fp) (n : Nm) (i : Nat), i ≤ F.length → (∀ j (h : j < F.length), j < i → bytesBefore F[j].1 n = true) → (∀ h : i < F.length, bytesBefore F[i].1 n = false) → posP F n = i
  | [], n, i, h, _, _ => by simp at h; subst h; rfl
  | x :: F, n, 0, _, _, h2 => by
    have := h2 (by simp)
    simp only [List.getElem_cons_zero] at this
    unfold posP
    rw [if_neg (by rw [this]; simp)]
  | x :: F, n, i + 1, h, h1, h2 => by
    have h0 := h1 0 (by simp) (by omega)
    simp only [List.getElem_cons_zero] at h0
    unfold posP
    rw [if_pos h0, pos_is F n i (by simpa using h) (fun j hj hi => by have := h1 (j + 1) (by simpa using hj) (by omega); simpa using this) (fun hj => by have := h2 (by simpa using hj); simpa using this)]
theorem isP_true {F : List Fp} {n : Nm} (h : isP F n = true) : ∃ hk : posP F n < F.length, F[posP F n].1 = n := by
  unfold isP at h
  split at h
  · rename_i x hx
    obtain ⟨hk, e⟩ := List.getElem?_eq_some_iff.1 hx
    exact ⟨hk, by rw [e]; simpa using h⟩
  · cases h
theorem isP_of {F : List Fp} {n : Nm} {i : Nat} (hi : posP F n = i) (hk : i < F.length) : isP F n = (F[i].1 == n) := by
  subst hi
  unfold isP
  rw [List.getElem?_eq_getElem hk]
theorem isP_end {F : List Fp} {n : Nm} (hi : posP F n = F.length) : isP F n = false := by
  unfold isP
  rw [hi, List.getElem?_eq_none (Nat.le_refl _)]
theorem isP_cons (x : Fp) (F : List Fp) (n : Nm) : isP (x :: F) n = if bytesBefore x.1 n = true then isP F n else (x.1 == n) := by
  have e : posP (x :: F) n = if bytesBefore x.1 n = true then posP F n + 1 else 0 := rfl
  unfold isP
  rw [e]
  by_cases hb : bytesBefore x.1 n = true
  · rw [if_pos hb, if_pos hb]; simp
  · rw [if_neg hb, if_neg hb]; simp
theorem find_pos : ∀ {F : List Fp} (h : RiseP F) (n : Nm), findP F n = if isP F n = true then F[posP F n]? else none
  | [], _, n => by unfold isP; rfl
  | x :: F, h, n => by
    obtain ⟨h1, h2⟩ := List.pairwise_cons.1 h
    have ih := find_pos h2 n
    have ec : findP (x :: F) n = if x.1 == n then some x else findP F n := by
      unfold findP
      rw [List.find?_cons]
      split <;> simp_all
    rw [isP_cons, ec]
    unfold posP
    by_cases hb : bytesBefore x.1 n = true
    · have hne : (x.1 == n) = false := by rw [beq_eq_false_iff_ne]; exact Lt.ne (show Lt x.1 n from hb)
      rw [if_pos hb, if_pos hb, hne, ih]
      simp
    · rw [if_neg hb, if_neg hb]
      by_cases he : x.1 = n
      · rw [if_pos (by simpa using he), if_pos (by simpa using he)]; rfl
      · rw [if_neg (by simpa using he), if_neg (by simpa using he)]
        have hx : Lt n x.1 := (Lt.total he).resolve_left hb
        unfold findP
        rw [List.find?_eq_none]
        intro y hy
        simp only [beq_iff_eq]
        exact fun e => Lt.irrefl n (hx.trans (e ▸ h1 y hy))
theorem find_some_pos {F : List Fp} (h : RiseP F) {n : Nm} (hi : isP F n = true) : ∃ hk : posP F n < F.length, F[posP F n].1 = n ∧ findP F n = some F[posP F n] := by
  obtain ⟨hk, e⟩ := isP_true hi
  exact ⟨hk, e, by rw [find_pos h, if_pos hi, List.getElem?_eq_getElem hk]⟩
theorem find_none_pos {F : List Fp} (h : RiseP F) {n : Nm} (hi : isP F n = false) : findP F n = none := by rw [find_pos h, if_neg (by rw [hi]; simp)]
theorem ins_pos : ∀ {F : List Fp} (h : RiseP F) (x : Fp), isP F x.1 = false → insP x F = F.take (posP F x.1) ++ [x] ++ F.drop (posP F x.1)
  | [], _, x, _ => rfl
  | y :: F, h, x, hi => by
    obtain ⟨h1, h2⟩ := List.pairwise_cons.1 h
    rw [isP_cons] at hi
    unfold insP posP
    by_cases hb : bytesBefore y.1 x.1 = true
    · rw [if_pos hb] at hi
      rw [if_pos hb, if_neg (lt_no (show Lt y.1 x.1 from hb)), ins_pos h2 x hi]
      simp
    · rw [if_neg hb] at hi ⊢
      have hne : y.1 ≠ x.1 := by simpa using hi
      rw [if_pos (lt_yes ((Lt.total hne).resolve_left hb))]
      rfl
theorem set_same {F : List Fp} {x : Fp} (h : ∀ y ∈ F, y.1 ≠ x.1) : setP F x = F := by
  unfold setP
  conv => rhs; rw [← List.map_id F]
  refine List.map_congr_left fun y hy => ?_
  rw [if_neg (h y hy)]
  rfl
theorem set_pos : ∀ {F : List Fp} (h : RiseP F) (x : Fp), isP F x.1 = true → setP F x = F.set (posP F x.1) x
  | [], _, x, hi => by unfold isP at hi; cases hi
  | y :: F, h, x, hi => by
    obtain ⟨h1, h2⟩ := List.pairwise_cons.1 h
    rw [isP_cons] at hi
    show (if y.1 = x.1 then x else y) :: setP F x = _
    unfold posP
    by_cases hb : bytesBefore y.1 x.1 = true
    · rw [if_pos hb] at hi
      rw [if_pos hb, if_neg (Lt.ne (show Lt y.1 x.1 from hb)), set_pos h2 x hi]
      rfl
    · rw [if_neg hb] at hi ⊢
      have he : y.1 = x.1 := by simpa using hi
      rw [if_pos he, set_same (fun z hz e => Lt.irrefl x.1 (by have := h1 z hz; rw [e, he] at this; exact this))]
      rfl
theorem del_same {F : List Fp} {n : Nm} (h : ∀ y ∈ F, y.1 ≠ n) : delP F n = F := by
  unfold delP
  rw [List.filter_eq_self]
  intro y hy
  simpa using h y hy
theorem del_pos : ∀ {F : List Fp} (h : RiseP F) (n : Nm), isP F n = true → delP F n = F.take (posP F n) ++ F.drop (posP F n + 1)
  | [], _, n, hi => by unfold isP at hi; cases hi
  | y :: F, h, n, hi => by
    obtain ⟨h1, h2⟩ := List.pairwise_cons.1 h
    rw [isP_cons] at hi
    unfold posP
    by_cases hb : bytesBefore y.1 n = true
    · rw [if_pos hb] at hi
      have e : delP (y :: F) n = y :: delP F n := by unfold delP; rw [List.filter_cons_of_pos (by simpa using Lt.ne (show Lt y.1 n from hb))]
      rw [if_pos hb, e, del_pos h2 n hi]
      rfl
    · rw [if_neg hb] at hi ⊢
      have he : y.1 = n := by simpa using hi
      have e : delP (y :: F) n = delP F n := by unfold delP; rw [List.filter_cons_of_neg (by simpa using he)]
      rw [e, del_same (fun z hz e => Lt.irrefl n (by have := h1 z hz; rw [e, he] at this; exact this))]
      rfl
/-- Taken away, a name would stand where it stood. -/
theorem pos_del : ∀ {F : List Fp} (h : RiseP F) (n : Nm), posP (delP F n) n = posP F n ∧ isP (delP F n) n = false
  | [], _, n => ⟨rfl, rfl⟩
  | y :: F, h, n => by
    obtain ⟨h1, h2⟩ := List.pairwise_cons.1 h
    obtain ⟨i1, i2⟩ := pos_del h2 n
    by_cases hb : bytesBefore y.1 n = true
    · have e : delP (y :: F) n = y :: delP F n := by unfold delP; rw [List.filter_cons_of_pos (by simpa using Lt.ne (show Lt y.1 n from hb))]
      rw [e, isP_cons]
      unfold posP
      rw [if_pos hb, if_pos hb, if_pos hb, i1]
      exact ⟨rfl, i2⟩
    · have hz : ∀ z ∈ F, Lt n z.1 ∨ y.1 ≠ n ∧ Lt n z.1 := fun z hz => by
        by_cases he : y.1 = n
        · exact .inl (he ▸ h1 z hz)
        · exact .inr ⟨he, ((Lt.total he).resolve_left hb).trans (h1 z hz)⟩
      have hz' : ∀ z ∈ F, Lt n z.1 := fun z h => (hz z h).elim id And.right
      have e0 : delP F n = F := del_same (fun z h => (Lt.ne (hz' z h)).symm)
      by_cases he : y.1 = n
      · have e : delP (y :: F) n = F := by
          unfold delP at e0 ⊢
          rw [List.filter_cons_of_neg (by simpa using he), e0]
        rw [e]
        have p0 : posP F n = 0 := by
          cases F with
          | nil => rfl
          | cons z F => unfold posP; rw [if_neg (lt_no (hz' z (List.mem_cons_self ..)))]
        refine ⟨?_, ?_⟩
        · rw [p0]; unfold posP; rw [if_neg hb]
        · cases F with
          | nil => rfl
          | cons z F =>
            have hzz := hz' z (List.mem_cons_self ..)
            rw [isP_cons, if_neg (lt_no hzz), beq_eq_false_iff_ne]
            exact (Lt.ne hzz).symm
      · have e : delP (y :: F) n = y :: F := by
          unfold delP at e0 ⊢
          rw [List.filter_cons_of_pos (by simpa using he), e0]
        rw [e]
        refine ⟨rfl, ?_⟩
        rw [isP_cons, if_neg hb, beq_eq_false_iff_ne]
        exact he
end Go.Proofs.Ytdbkhigocjmfoaa

/-
  The document's disk in memory: a record, and a row of files of three cells each; files appended to a row of the call's own.
-/
namespace Go.Proofs.Ytdbkhigocjmfoaa
open Go.RowKit
open DskM
set_option linter.unusedVariables false
set_option linter.unusedSimpArgs false

theorem info_file : (Try.prog.info? 73).map (fun i => (i.zero, i.size, i.bytes)) = some (some (.agg #[.string ⟨#[]⟩, .slice none 0 0, .int .i64 0]), 3, 48) := by kernel_rfl

/-- A file of the document's: its name, bytes, how many last, its bytes' slice. -/
structure Fr where
  nm : Nm
  bs : List UInt8
  la : Nat
  v : Value
def Fr.p (f : Fr) : Fp := (f.nm, f.bs, f.la)
def frc (f : Fr) : List Value := [.string ⟨f.nm.toArray⟩, f.v, .int .i64 (f.la : Int)]
def frs (l : List Fr) : List Value := l.flatMap frc
theorem frs_append (l m : List Fr) : frs (l ++ m) = frs l ++ frs m := by simp [frs]
theorem frs_length : ∀ l : List Fr, (frs l).length = l.length * 3
  | [] => rfl
  | f :: l => by
    show (frc f ++ frs l).length = _
    rw [List.length_append, frs_length l, List.length_cons]
    show 3 + _ = _
    omega
theorem frs_get : ∀ (l : List Fr) (k : Nat) (h : k < l.length), (frs l)[k * 3]? = some (.string ⟨l[k].nm.toArray⟩) ∧ (frs l)[k * 3 + 1]? = some l[k].v ∧ (frs l)[k * 3 + 2]? = some (.int .i64 (l[k].la : Int))
  | [], k, h => absurd h (by simp)
  | f :: l, 0, _ => ⟨rfl, rfl, rfl⟩
  | f :: l, k + 1, h => by
    obtain ⟨h1, h2, h3⟩ := frs_get l k (by simpa using h)
    have e : frs (f :: l) = frc f ++ frs l := rfl
    have hl : (frc f).length = 3 := rfl
    refine ⟨?_, ?_, ?_⟩
    · rw [e, List.getElem?_append_right (by rw [hl]; omega), hl, show (k + 1) * 3 - 3 = k * 3 by omega]; exact h1
    · rw [e, List.getElem?_append_right (by rw [hl]; omega), hl, show (k + 1) * 3 + 1 - 3 = k * 3 + 1 by omega]; exact h2
    · rw [e, List.getElem?_append_right (by rw [hl]; omega), hl, show (k + 1) * 3 + 2 - 3 = k * 3 + 2 by omega]; exact h3
theorem frs_take (l : List Fr) (n : Nat) (hn : n ≤ l.length) : frs (l.take n) = (frs l).take (n * 3) := by
  conv => rhs; rw [← List.take_append_drop n l, frs_append]
  rw [List.take_left' (by rw [frs_length, List.length_take]; omega)]

/-- The value v is a slice whose cells are those files. -/
def SlF (w : World) (v : Value) (l : List Fr) : Prop :=
  ∃ A c, v = .slice A l.length c ∧ l.length ≤ c ∧ c ≤ 9223372036854775807 ∧ (0 < l.length → ∃ b o, A = some ⟨b, o, none⟩ ∧ ∀ j u, (frs l)[j]? = some u → w.cell? ⟨b, o + j, none⟩ = some u)
/-- A row of files of the call's own. -/
def OwnF (w : World) (base : Nat) (v : Value) (l : List Fr) : Prop := w.ownsRow base 73 3 v l.length (frs l)
section
variable {w w' : World} {v : Value} {l : List Fr} {base : Nat}
theorem OwnF.nil : OwnF w base (.slice none 0 0) [] := World.ownsRow_nil w base 73 3
theorem OwnF.alloc (h : OwnF w base v l) (o : Obj) : OwnF (w.alloc o) base v l := World.ownsRow.alloc h o
theorem OwnF.drew (h : OwnF w base v l) : OwnF w.drew base v l := h
theorem OwnF.keep (h : OwnF w base v l) (hk : ∀ k, v.ownBlock = some k → w'.heap[k]? = w.heap[k]?) : OwnF w' base v l := by
  refine ⟨h.1, ?_⟩
  rcases h.2 with h2 | ⟨g, cap, cur, rfl, hg, hh, r⟩
  · exact Or.inl h2
  · exact Or.inr ⟨g, cap, cur, rfl, hg, (hk g rfl).trans hh, r⟩
theorem OwnF.lt (h : OwnF w base v l) : ∀ k, v.ownBlock = some k → base ≤ k ∧ k < w.heap.size := World.ownsRow.lt h
theorem OwnF.kept {S : Nat → Prop} (h : OwnF w base v l) (k : Keep S w w') (hn : ∀ i, v.ownBlock = some i → ¬ S i) : OwnF w' base v l :=
  h.keep fun i hi => k.block i (h.lt i hi).2 (hn i hi)
theorem OwnF.below (h : OwnF w base v l) (hb : Below w.heap.size w w') : OwnF w' base v l := h.keep fun k hk => hb.block k (h.lt k hk).2
theorem OwnF.mono {B : Nat} (h : OwnF w base v l) (hB : B ≤ base) : OwnF w B v l := by
  refine ⟨h.1, ?_⟩
  rcases h.2 with h2 | ⟨g, cap, cur, hv, hg, hh, r⟩
  · exact Or.inl h2
  · exact Or.inr ⟨g, cap, cur, hv, by omega, hh, r⟩
theorem OwnF.sl (h : OwnF w base v l) : SlF w v l := by
  rcases h.2 with ⟨rfl, h0⟩ | ⟨g, cap, cur, rfl, _, hh, hnc, hm, hs, ht⟩
  · refine ⟨none, 0, by rw [h0], by omega, by omega, fun hn => absurd hn (by omega)⟩
  · refine ⟨some ⟨g, 0, none⟩, cap, rfl, hnc, by unfold maxLen at hm; omega, fun _ => ⟨g, 0, rfl, fun j u hu => ?_⟩⟩
    have := World.ownsRow.cells h (g := g) rfl j u hu
    rw [add_plain] at this
    exact this
theorem SlF.keep (h : SlF w v l) (hk : ∀ p : Addr, ∀ u, w.cell? p = some u → w'.cell? p = some u) : SlF w' v l := by
  obtain ⟨A, c, rfl, hc, hc2, ha⟩ := h
  refine ⟨A, c, rfl, hc, hc2, fun hn => ?_⟩
  obtain ⟨b, o, rfl, hx⟩ := ha hn
  exact ⟨b, o, rfl, fun j u hu => hk _ _ (hx j u hu)⟩
theorem SlF.below (h : SlF w v l) (hb : Below w.heap.size w w') : SlF w' v l :=
  h.keep fun p u hu => (hb.cell (World.block_lt_of_cell? w p hu)).trans hu
/-- Its first n. -/
theorem SlF.front {A : Option Addr} {m c : Nat} (h : SlF w (.slice A m c) l) (n : Nat) (hn : n ≤ m) : SlF w (.slice A n c) (l.take n) := by
  obtain ⟨A', c', e, hc, hc2, hx⟩ := h
  injection e with e1 e2 e3
  subst e1; subst e3
  have hl : (l.take n).length = n := by rw [List.length_take]; omega
  refine ⟨A, c, by rw [hl], by omega, hc2, fun h0 => ?_⟩
  obtain ⟨b, o, e, hy⟩ := hx (by rw [hl] at h0; omega)
  refine ⟨b, o, e, fun j u hu => hy j u ?_⟩
  rw [frs_take l n (by omega)] at hu
  have hj : j < n * 3 := by
    have := (List.getElem?_eq_some_iff.1 hu).1
    rw [List.length_take] at this
    omega
  rw [List.getElem?_take_of_lt hj] at hu
  exact hu
/-- What is behind its first n. -/
theorem SlF.behind {A : Option Addr} {m c : Nat} (h : SlF w (.slice A m c) l) (n : Nat) (hn : n < m) :
    ∃ b o, A = some ⟨b, o, none⟩ ∧ SlF w (.slice (some ⟨b, o + n * 3, none⟩) (m - n) (c - n)) (l.drop n) := by
  obtain ⟨A', c', e, hc, hc2, hx⟩ := h
  injection e with e1 e2 e3
  subst e1; subst e3
  obtain ⟨b, o, rfl, hy⟩ := hx (by omega)
  refine ⟨b, o, rfl, some ⟨b, o + n * 3, none⟩, c - n, by rw [List.length_drop, e2], by rw [List.length_drop]; omega, by omega, fun _ => ⟨b, o + n * 3, rfl, fun j u hu => ?_⟩⟩
  have e4 : frs l = frs (l.take n) ++ frs (l.drop n) := by rw [← frs_append, List.take_append_drop]
  have hl : (frs (l.take n)).length = n * 3 := by rw [frs_length, List.length_take]; omega
  have := hy (n * 3 + j) u (by rw [e4, List.getElem?_append_right (by omega), hl, show n * 3 + j - n * 3 = j by omega]; exact hu)
  rw [show o + n * 3 + j = o + (n * 3 + j) by omega]
  exact this
theorem frs_one (l : List Fr) (h : ∀ f ∈ l, f.v.oneCell' = true) : ∀ u ∈ frs l, u.oneCell' = true := by
  intro u hu
  obtain ⟨f, hf, hu⟩ := List.mem_flatMap.1 hu
  rcases List.mem_cons.1 hu with rfl | hu
  · rfl
  rcases List.mem_cons.1 hu with rfl | hu
  · exact h f hf
  rcases List.mem_cons.1 hu with rfl | hu
  · rfl
  · cases hu
end
section
variable {P : Program} (w : World)
theorem run_append_files (base : Nat) (t ty : TypeId) (i : TypeInfo) (ht : P.underlying t = some (.slice 73)) (hi : P.info? 73 = some i) (hz : i.zero = some (.agg #[.string ⟨#[]⟩, .slice none 0 0, .int .i64 0]))
    (hsize : i.size = 3) (hby : i.bytes = 48) (v : Value) (l : List Fr) (hown : OwnF w base v l) (v2 : Value) (m : List Fr) (hm : SlF w v2 m) (hone : ∀ f ∈ m, f.v.oneCell' = true) (hlen : l.length + m.length ≤ 1000000) (hbase : base ≤ w.heap.size) :
    ∃ v' w', (Builtin.append_ #[t, t] ty #[v, v2]).run P w = .ok v' w' ∧ OwnF w' base v' (l ++ m) ∧ w.grownBy w' v.ownBlock ∧ (v'.ownBlock = v.ownBlock ∨ v'.ownBlock = some w.heap.size) := by
  obtain ⟨A, c, rfl, hc, hc2, ha⟩ := hm
  rcases A with _ | ad
  · have h0 : m = [] := by
      rcases Nat.eq_zero_or_pos m.length with h0 | h0
      · exact List.eq_nil_of_length_eq_zero h0
      · obtain ⟨b, o, h, _⟩ := ha h0
        cases h
    subst h0
    have hr : (Builtin.append_ #[t, t] ty #[v, .slice none 0 c]).run P w = .ok v w := by
      rcases hown.2 with ⟨rfl, e⟩ | ⟨g, cap, cur, rfl, _, _, hnc, _⟩
      · simp [Builtin.append_, run_underlying ht, sizeOf, typeInfo, hi, Builtin.lenOf, Builtin.firstCells]
      · simp [Builtin.append_, run_underlying ht, sizeOf, typeInfo, hi, Builtin.lenOf, Builtin.firstCells, hnc, storeCells]
    exact ⟨v, w, hr, by rw [List.append_nil]; exact hown, ⟨rfl, rfl, rfl, Nat.le_refl _, fun _ _ _ => rfl⟩, .inl rfl⟩
  · have hcells : ∀ j u, (frs m)[j]? = some u → w.cell? (ad.add j) = some u := by
      intro j u hu
      have hj : j < m.length * 3 := by
        have := (List.getElem?_eq_some_iff.1 hu).1
        rw [frs_length] at this
        exact this
      obtain ⟨b, o, h, hx⟩ := ha (by omega)
      injection h with h
      subst h
      rw [add_plain]
      exact hx j u hu
    obtain ⟨v', w', hrun, h2, h3, h4, h5⟩ := run_append_own_at (P := P) w base t ty _ i _ 3 48 ht hi hz hsize hby rfl (by decide) v l.length (frs l) hown ad m.length c (frs m) (frs_length m) hcells (frs_one m hone)
      (by unfold maxLen; omega) (by omega) hbase
    refine ⟨v', w', hrun, by unfold OwnF; rw [List.length_append, frs_append]; exact h2, h3, ?_⟩
    rcases h5 with h5 | h5
    · exact .inl h5
    · exact .inr h5
end
end Go.Proofs.Ytdbkhigocjmfoaa

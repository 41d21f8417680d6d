/-
  Stretches of cells laid over a block; a copy of elements of two cells; a dot inserted, in a row's cells.
-/
import Derived.Test.YtldfaaahmpncbaaGreatCtxBlk
import Derived.Laws.IdiomCopy
namespace Go.Proofs.YtldfaaahmpncbaaGreat
open Go.RowKit
open CtxM
set_option linter.unusedVariables false
set_option linter.unusedSimpArgs false

/-- A stretch laid over a list. -/
def lay (l : List Value) (o : Nat) (vs : List Value) : List Value := l.take o ++ vs ++ l.drop (o + vs.length)
theorem lay_length {l : List Value} {o : Nat} {vs : List Value} (h : o + vs.length ≤ l.length) : (lay l o vs).length = l.length := by
  unfold lay
  rw [List.length_append, List.length_append, List.length_take, List.length_drop]; omega
theorem Blk.lay_ {w : World} {g : Nat} {t : TypeId} {cs : Array Value} (h : Blk w g t cs) (o : Nat) (vs : List Value) (hl : o + vs.length ≤ cs.size) : Blk (w.setCells g o vs) g t (lay cs.toList o vs).toArray := by
  obtain ⟨es, h1, h2, h3⟩ := Blk.setAll (t := t) vs o w cs h
  have : es = (lay cs.toList o vs).toArray := by
    apply Array.ext_getElem?
    intro j
    have hll := lay_length (l := cs.toList) (o := o) (vs := vs) (by simpa using hl)
    by_cases hj : j < cs.size
    · have e0 : (lay cs.toList o vs).toArray[j]? = (lay cs.toList o vs)[j]? := by simp
      rw [h3 j hj, e0, lay]
      by_cases h4 : o ≤ j ∧ j < o + vs.length
      · rw [if_pos h4, List.append_assoc, List.getElem?_append_right (by rw [List.length_take, Array.length_toList]; omega), List.getElem?_append_left (by rw [List.length_take, Array.length_toList]; omega), List.length_take, Array.length_toList]
        congr 1; omega
      · rw [if_neg h4]
        by_cases h5 : j < o
        · rw [List.append_assoc, List.getElem?_append_left (by rw [List.length_take, Array.length_toList]; omega), List.getElem?_take, if_pos h5, Array.getElem?_toList]
        · rw [List.getElem?_append_right (by rw [List.length_append, List.length_take, Array.length_toList]; omega), List.getElem?_drop, List.length_append, List.length_take]
          have e5 : o + vs.length + (j - (min o cs.toList.length + vs.length)) = j := by have hcl : cs.toList.length = cs.size := Array.length_toList; omega
          rw [e5, Array.getElem?_toList]
    · rw [Array.getElem?_eq_none (by omega), Array.getElem?_eq_none (by rw [List.size_toArray, hll, Array.length_toList]; omega)]
  rw [← this]; exact h1

/-- All is read before anything is written: elements of two cells. -/
theorem run_copy_two {P : Program} (w : World) (dT sT ty elem : TypeId) (b o dLen dCap : Nat) (a : Addr) (sLen sCap k : Nat) (cs : List Value)
    (hu : P.underlying dT = some (.slice elem)) (hs : (P.info? elem).map (·.size) = some 2) (hn : k = Nat.min sLen dLen) (hk : cs.length = k * 2)
    (hsrc : ∀ j v, cs[j]? = some v → w.cell? (a.add j) = some v) (hc : ∀ j, j < cs.length → (w.cell? ⟨b, o + j, none⟩).isSome = true) (hf : ∀ j, j < cs.length → w.frozen? ⟨b, o + j, none⟩ = false) (h1 : ∀ v ∈ cs, v.oneCell' = true) :
    (Builtin.copy_ #[dT, sT] ty #[.slice (some ⟨b, o, none⟩) dLen dCap, .slice (some a) sLen sCap]).run P w = .ok (goInt k) (w.setCells b o cs) := by
  have hl := run_loadCells_list (P := P) w a cs hsrc
  have hst := run_storeCells_cells (P := P) b o cs 0 w (by simpa using hc) (by simpa using hf) h1
  cases hq : P.info? elem with
  | none => simp [hq] at hs
  | some i =>
    have hi : i.size = 2 := by simpa [hq] using hs
    rw [hk] at hl
    simp [Builtin.copy_, run_underlying hu, Builtin.lenOf, Builtin.firstCells, sizeOf, typeInfo, hq, hi, ← hn, hl, hst]

/-- In place: what stood from i on goes one further, the dot goes to i. -/
theorem lay_shift (X : List Dt) (R : List Value) (i : Nat) (d : Dt) (hi : i ≤ X.length) (hR : 2 ≤ R.length) :
    lay (lay (dvs X ++ R) ((i + 1) * 2) (dvs (X.drop i))) (i * 2) (dv d) = dvs (X.take i ++ d :: X.drop i) ++ R.drop 2 := by
  have hl := dvs_length X
  have hd := dvs_length (X.drop i)
  rw [List.length_drop] at hd
  have e1 : (dvs X ++ R).take (i * 2) = dvs (X.take i) := by
    rw [List.take_append_of_le_length (by omega), dvs_take]
  have e2 : lay (dvs X ++ R) ((i + 1) * 2) (dvs (X.drop i)) = (dvs X ++ R).take ((i + 1) * 2) ++ (dvs (X.drop i) ++ R.drop 2) := by
    unfold lay
    rw [List.append_assoc]
    congr 2
    rw [hd, List.drop_append, List.drop_of_length_le (by omega), List.nil_append]
    congr 1; omega
  have e3 : ((dvs X ++ R).take ((i + 1) * 2)).length = (i + 1) * 2 := by rw [List.length_take, List.length_append]; omega
  rw [e2]
  unfold lay
  rw [List.take_append_of_le_length (by rw [e3]; omega), List.take_take, Nat.min_eq_left (by omega), e1, show i * 2 + (dv d).length = (i + 1) * 2 by simp [dv]; omega, List.drop_append, List.drop_of_length_le (by omega), List.nil_append, e3, Nat.sub_self, List.drop_zero, dvs_append]
  show _ = dvs (X.take i) ++ dvs ([d] ++ X.drop i) ++ _
  rw [dvs_append]
  simp [dvs]
/-- Into a new row. -/
theorem lay_new (X : List Dt) (Z : List Value) (i : Nat) (d : Dt) (hi : i ≤ X.length) (hZ : (X.length + 1 - i) * 2 ≤ Z.length) :
    lay (lay (dvs (X.take i) ++ Z) (i * 2) (dv d)) ((i + 1) * 2) (dvs (X.drop i)) = dvs (X.take i ++ d :: X.drop i) ++ Z.drop ((X.length + 1 - i) * 2) := by
  have hl := dvs_length (X.take i)
  rw [List.length_take, Nat.min_eq_left hi] at hl
  have hd := dvs_length (X.drop i)
  rw [List.length_drop] at hd
  have e1 : lay (dvs (X.take i) ++ Z) (i * 2) (dv d) = dvs (X.take i) ++ dv d ++ Z.drop 2 := by
    unfold lay
    rw [List.take_append_of_le_length (by omega), List.take_of_length_le (by omega), show i * 2 + (dv d).length = i * 2 + 2 by simp [dv], List.drop_append, List.drop_of_length_le (by omega), List.nil_append, hl, Nat.add_sub_cancel_left]
  have e3 : (dvs (X.take i) ++ dv d).length = (i + 1) * 2 := by rw [List.length_append, hl]; simp [dv]; omega
  rw [e1]
  unfold lay
  rw [List.take_append_of_le_length (by rw [e3]; omega), List.take_of_length_le (by rw [e3]; omega), hd, List.drop_append, List.drop_of_length_le (show (dvs (X.take i) ++ dv d).length ≤ _ by rw [e3]; omega), List.nil_append, e3, List.drop_drop, dvs_append]
  show _ = dvs (X.take i) ++ dvs ([d] ++ X.drop i) ++ _
  rw [dvs_append]
  have : 2 + ((i + 1) * 2 + (X.length - i) * 2 - (i + 1) * 2) = (X.length + 1 - i) * 2 := by omega
  rw [this]
  simp [dvs]
end Go.Proofs.YtldfaaahmpncbaaGreat

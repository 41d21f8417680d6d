/-
  The plain side of an event's reading; an event's block that is written field by field beside a reader.
-/
import Derived.Test.YtigepbklpiilpaaEvReadTo
import Derived.Test.YtigepbklpiilpaaEvKn
import Derived.Test.YtigepbklpiilpaaJoin
namespace Go.Proofs.Ytigepbklpiilpaa
open Go.RowKit
open CtxM
set_option linter.unusedVariables false
set_option linter.unusedSimpArgs false
set_option maxRecDepth 20000

/-- What an event says. -/
abbrev PE := Dt × ByteArray × List UInt8 × List Nat × List De
def plain (x : Ev) : PE := (x.id, x.topic, x.P, x.V, x.T)
noncomputable def plB (p : PE) : Bool := decide (PastOk p.1 p.2.2.2.1) && (nameB p.2.1 && (decide (p.2.2.1.length ≤ 512) && toB p.2.2.2.2))
theorem evB_plain (x : Ev) : evB x = plB (plain x) := rfl
/-- What is read of the bytes, if all is. -/
def evO (L : List UInt8) : Option PE := (dotO (some L)).bind fun d => (blobO (some d.2)).bind fun t => (blobO (some t.2)).bind fun p => (vecO (some p.2)).bind fun v => (tosO (some v.2)).bind fun T => if T.2 = [] then some (d.1, ⟨t.1.toArray⟩, p.1, v.1, T.1) else none
/-- The event whose bytes they are. -/
noncomputable def evOf (L : List UInt8) : Option PE := (evO L).bind fun p => if plB p = true then some p else none
def lastO (L : List UInt8) : Option (List UInt8) := left (tosO (left (vecO (left (blobO (left (blobO (left (dotO (some L)))))))))) 
theorem evO_yes {L : List UInt8} {d : Dt} {t p : List UInt8} {V : List Nat} {T : List De} (h : lastO L = some []) (h1 : ∀ x, dotO (some L) = some x → d = x.1) (h2 : ∀ x, blobO (left (dotO (some L))) = some x → t = x.1)
    (h3 : ∀ x, blobO (left (blobO (left (dotO (some L))))) = some x → p = x.1) (h4 : ∀ x, vecO (left (blobO (left (blobO (left (dotO (some L))))))) = some x → V = x.1)
    (h5 : ∀ x, tosO (left (vecO (left (blobO (left (blobO (left (dotO (some L))))))))) = some x → T = x.1) : evO L = some (d, ⟨t.toArray⟩, p, V, T) := by
  unfold lastO at h
  unfold evO
  cases e1 : dotO (some L) with
  | none => rw [e1] at h; cases h
  | some x1 =>
    rw [e1] at h h2 h3 h4 h5
    simp only [left, Option.map_some] at h h2 h3 h4 h5
    simp only [Option.bind_some]
    rw [h1 _ e1]
    cases e2 : blobO (some x1.2) with
    | none => rw [e2] at h; cases h
    | some x2 =>
      rw [e2] at h h3 h4 h5
      simp only [Option.map_some] at h h3 h4 h5
      simp only [Option.bind_some]
      rw [h2 _ e2]
      cases e3 : blobO (some x2.2) with
      | none => rw [e3] at h; cases h
      | some x3 =>
        rw [e3] at h h4 h5
        simp only [Option.map_some] at h h4 h5
        simp only [Option.bind_some]
        rw [h3 _ e3]
        cases e4 : vecO (some x3.2) with
        | none => rw [e4] at h; cases h
        | some x4 =>
          rw [e4] at h h5
          simp only [Option.map_some] at h h5
          simp only [Option.bind_some]
          rw [h4 _ e4]
          cases e5 : tosO (some x4.2) with
          | none => rw [e5] at h; cases h
          | some x5 =>
            rw [e5] at h
            simp only [Option.map_some] at h
            injection h with h
            simp only [Option.bind_some]
            rw [if_pos h, h5 _ e5]
theorem evO_no {L : List UInt8} (h : ¬ lastO L = some []) : evO L = none := by
  unfold lastO at h
  unfold evO
  cases e1 : dotO (some L) with
  | none => rfl
  | some x1 =>
    rw [e1] at h
    simp only [left, Option.map_some] at h
    simp only [Option.bind_some]
    cases e2 : blobO (some x1.2) with
    | none => rfl
    | some x2 =>
      rw [e2] at h
      simp only [Option.map_some] at h
      simp only [Option.bind_some]
      cases e3 : blobO (some x2.2) with
      | none => rfl
      | some x3 =>
        rw [e3] at h
        simp only [Option.map_some] at h
        simp only [Option.bind_some]
        cases e4 : vecO (some x3.2) with
        | none => rfl
        | some x4 =>
          rw [e4] at h
          simp only [Option.map_some] at h
          simp only [Option.bind_some]
          cases e5 : tosO (some x4.2) with
          | none => rfl
          | some x5 =>
            rw [e5] at h
            simp only [Option.map_some, Option.some.injEq] at h
            simp only [Option.bind_some]
            rw [if_neg h]
theorem evOf_no {L : List UInt8} (h : ¬ lastO L = some []) : evOf L = none := by unfold evOf; rw [evO_no h]; rfl

/-! An event's block, field by field. -/
theorem Blk.evId {w : World} {g : Nat} {t : TypeId} {E : Ev} (h : Blk w g t (evc E)) (d : Dt) : Blk ((w.setCell ⟨g, 0, none⟩ (.int .i64 d.1)).setCell ⟨g, 1, none⟩ (.int .u64 (d.2 : Int))) g t (evc { E with id := d }) := by
  have := (h.set_ 0 (.int .i64 d.1)).set_ 1 (.int .u64 (d.2 : Int))
  exact this
theorem Blk.evTopic {w : World} {g : Nat} {t : TypeId} {E : Ev} (h : Blk w g t (evc E)) (s : ByteArray) : Blk (w.setCell ⟨g, 2, none⟩ (.string s)) g t (evc { E with topic := s }) := h.set_ 2 (.string s)
theorem Blk.evPl {w : World} {g : Nat} {t : TypeId} {E : Ev} (h : Blk w g t (evc E)) (v : Value) (P : List UInt8) : Blk (w.setCell ⟨g, 3, none⟩ v) g t (evc { E with pl := v, P := P }) := h.set_ 3 v
theorem Blk.evTo {w : World} {g : Nat} {t : TypeId} {E : Ev} (h : Blk w g t (evc E)) (hV : E.V.length = 16) (v : Value) (T : List De) : Blk (w.setCell ⟨g, 20, none⟩ v) g t (evc { E with to := v, T := T }) := by
  have := h.set_ 20 v
  have e : (evc E).setIfInBounds 20 v = evc { E with to := v, T := T } := by
    unfold evc evl
    rw [List.setIfInBounds_toArray]
    congr 1
    rw [List.set_cons_succ, List.set_cons_succ, List.set_cons_succ, List.set_cons_succ, List.set_append, if_neg (by simp [hV])]
    simp [hV]
  rw [e] at this
  exact this
theorem Blk.layAll {g : Nat} {t : TypeId} : ∀ (vs : List Value) (i : Nat) (w : World) (cs : Array Value), Blk w g t cs → ∃ ds, Blk (w.setCells g i vs) g t ds ∧ ds.size = cs.size ∧ ∀ j, j < cs.size → ds[j]? = if i ≤ j ∧ j < i + vs.length then vs[j - i]? else cs[j]?
  | [], i, w, cs, h => ⟨cs, h, rfl, fun j hj => by rw [if_neg (by intro hh; have := hh.2; simp at this; omega)]⟩
  | v :: vs, i, w, cs, h => by
    obtain ⟨ds, h1, h2, h3⟩ := Blk.layAll (t := t) vs (i + 1) (w.setCell ⟨g, i, none⟩ v) _ (h.set_ i v)
    refine ⟨ds, h1, by simpa using h2, fun j hj => ?_⟩
    rw [h3 j (by simpa using hj)]
    by_cases e : j = i
    · subst e
      rw [if_neg (by omega), if_pos (by simp), Array.getElem?_setIfInBounds_self_of_lt hj, Nat.sub_self]; rfl
    · by_cases e2 : i + 1 ≤ j ∧ j < i + 1 + vs.length
      · rw [if_pos e2, if_pos (by simp; omega)]
        have : j - i = (j - (i + 1)) + 1 := by omega
        rw [this, List.getElem?_cons_succ]
      · rw [if_neg e2, if_neg (by simp; omega), Array.getElem?_setIfInBounds_ne (by omega)]
theorem Blk.evPast {w : World} {g : Nat} {t : TypeId} {E : Ev} (h : Blk w g t (evc E)) (hV : E.V.length = 16) (V : List Nat) (hU : V.length = 16) : Blk (w.setCells g 4 (uqs V).toList) g t (evc { E with V := V }) := by
  obtain ⟨es, h1, h2, h3⟩ := Blk.layAll (t := t) (uqs V).toList 4 w _ h
  have hs := evc_size hV
  have : es = evc { E with V := V } := by
    apply Array.ext_getElem?
    intro j
    by_cases hj : j < 21
    · rw [h3 j (by omega), uqs_list, List.length_map, hU]
      unfold evc evl
      simp only [List.getElem?_toArray]
      by_cases h4 : j < 4
      · rw [if_neg (by omega)]
        match j, h4 with
        | 0, _ => rfl
        | 1, _ => rfl
        | 2, _ => rfl
        | 3, _ => rfl
      · obtain ⟨k, rfl⟩ : ∃ k, j = k + 4 := ⟨j - 4, by omega⟩
        rw [show k + 4 = k + 1 + 1 + 1 + 1 by omega]
        simp only [List.getElem?_cons_succ]
        by_cases hk : k < 16
        · rw [if_pos (by omega), List.getElem?_append_left (by simpa [hU] using hk)]
          rw [show k + 1 + 1 + 1 + 1 - 4 = k by omega]
        · obtain rfl : k = 16 := by omega
          rw [if_neg (by omega), List.getElem?_append_right (by simp [hV]), List.getElem?_append_right (by simp [hU])]
          simp [hV, hU]
    · rw [Array.getElem?_eq_none (by omega), Array.getElem?_eq_none (by rw [evc_size hU]; omega)]
  rw [← this]; exact h1
theorem ev_there {w : World} {g : Nat} {t : TypeId} {E : Ev} (h : Blk w g t (evc E)) (hV : E.V.length = 16) (V : List Nat) (hU : V.length = 16) : w.there g 4 (uqs V).size := by
  intro j hj
  rw [uqs_size, hU] at hj
  refine ⟨?_, h.frozen _⟩
  rw [h.cell, Array.getElem?_eq_getElem (by rw [evc_size hV]; omega)]; rfl

theorem Ro.far {w : World} {g cb i : Nat} {t : TypeId} {cs : Array Value} {o : Option (List UInt8)} (h : Ro w g o) (hb : Blk w cb t cs) (h1 : t ≠ 87) (h2 : t ≠ 5) (u : Value) : Ro (w.setCell ⟨cb, i, none⟩ u) g o := by
  cases o with
  | some l => exact Rd.far h hb h1 h2 u
  | none => exact Blk.far h (fun e => by have e' : g = cb := e; subst e'; exact Blk.ne_ h hb (Ne.symm h1) rfl) u
theorem Ro.fars {g cb : Nat} {t : TypeId} {o : Option (List UInt8)} (h1 : t ≠ 87) (h2 : t ≠ 5) : ∀ (vs : List Value) (i : Nat) (w : World) (cs : Array Value), Ro w g o → Blk w cb t cs → Ro (w.setCells cb i vs) g o
  | [], _, _, _, h, _ => h
  | v :: vs, i, w, cs, h, hb => Ro.fars h1 h2 vs (i + 1) _ _ (h.far hb h1 h2 v) (hb.set_ i v)
theorem end_any (g : Nat) (o : Option (List UInt8)) (w : World) (hr : Ro w g o) : Calls Try.prog 45 #[.pointer (some ⟨g, 0, none⟩)] w fun e w' => e = .returned (.int .i64 (if o = some [] then 0 else 4)) ∧ w = w' := by
  cases o with
  | none => exact (end_yes g w hr).mono fun e w' ⟨he, hw⟩ => ⟨by rw [he]; rfl, hw⟩
  | some l => exact (end_no g l w hr).mono fun e w' ⟨he, hw⟩ => ⟨by rw [he]; by_cases h : l = [] <;> simp [h], hw⟩
/-- What an event's reading answers. -/
def OfEnd (L : List UInt8) (w : World) (e : Ending) (w' : World) : Prop := ∃ (y : Ev) (n : Int), e = .returned (.tuple #[.agg (evc y), .int .i64 n]) ∧ Below w.heap.size w w' ∧ EvOk w' y ∧ Own w' w.heap.size 5 y.pl y.P ∧
  ((evOf L = some (plain y) ∧ n = 0) ∨ (evOf L = none ∧ n = 4 ∧ y = knZ))
end Go.Proofs.Ytigepbklpiilpaa

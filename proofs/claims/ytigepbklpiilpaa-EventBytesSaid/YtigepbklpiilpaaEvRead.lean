/-
  Readings by the program's and by the document's reader, each as one contract over what is left to be read, or that it has failed.
-/
import Derived.Test.YtigepbklpiilpaaReadV
import Derived.Test.YtigepbklpiilpaaRRefV
import Derived.Test.YtigepbklpiilpaaEvTo
namespace Go.Proofs.Ytigepbklpiilpaa
open Go.RowKit
open CtxM
set_option linter.unusedVariables false
set_option linter.unusedSimpArgs false
set_option maxRecDepth 20000

def dotO : Option (List UInt8) → Option (Dt × List UInt8)
  | some (c :: l) => if 8 ≤ l.length then some (((c.toNat : Int), beN (l.take 8)), l.drop 8) else none
  | _ => none
def numO : Option (List UInt8) → Option (Nat × List UInt8)
  | some l => if 2 ≤ l.length then some (beN (l.take 2), l.drop 2) else none
  | _ => none
def blobO : Option (List UInt8) → Option (List UInt8 × List UInt8)
  | some l => if 2 ≤ l.length ∧ beN (l.take 2) ≤ (l.drop 2).length then some ((l.drop 2).take (beN (l.take 2)), (l.drop 2).drop (beN (l.take 2))) else none
  | _ => none
def vecO : Option (List UInt8) → Option (List Nat × List UInt8)
  | some l => if 128 ≤ l.length then some (vecN (l.take 128), l.drop 128) else none
  | _ => none
/-- What is left. -/
def left {α : Type} (o : Option (α × List UInt8)) : Option (List UInt8) := o.map (·.2)
def Small (o : Option (List UInt8)) : Prop := ∀ l, o = some l → l.length ≤ 100000
theorem Small.dot {o : Option (List UInt8)} (h : Small o) : Small (left (dotO o)) := by
  intro l hl
  match o, h with
  | none, _ => cases hl
  | some [], _ => cases hl
  | some (c :: q), h =>
    by_cases h8 : 8 ≤ q.length
    · simp [left, dotO, h8] at hl
      have := h _ rfl
      rw [← hl, List.length_drop]
      simp at this; omega
    · simp [left, dotO, h8] at hl
theorem Small.num {o : Option (List UInt8)} (h : Small o) : Small (left (numO o)) := by
  intro l hl
  match o, h with
  | none, _ => cases hl
  | some q, h =>
    by_cases h8 : 2 ≤ q.length
    · unfold left numO at hl
      simp only [if_pos h8] at hl
      simp at hl
      have := h _ rfl
      rw [← hl]
      simp only [List.length_drop]; omega
    · unfold left numO at hl
      simp only [if_neg h8] at hl
      cases hl
theorem Small.blob {o : Option (List UInt8)} (h : Small o) : Small (left (blobO o)) := by
  intro l hl
  match o, h with
  | none, _ => cases hl
  | some q, h =>
    by_cases h8 : 2 ≤ q.length ∧ beN (q.take 2) ≤ (q.drop 2).length
    · unfold left blobO at hl
      simp only [if_pos h8] at hl
      simp at hl
      have := h _ rfl
      rw [← hl]
      simp only [List.length_drop]; omega
    · unfold left blobO at hl
      simp only [if_neg h8] at hl
      cases hl
theorem Small.vec {o : Option (List UInt8)} (h : Small o) : Small (left (vecO o)) := by
  intro l hl
  match o, h with
  | none, _ => cases hl
  | some q, h =>
    by_cases h8 : 128 ≤ q.length
    · unfold left vecO at hl
      simp only [if_pos h8] at hl
      simp at hl
      have := h _ rfl
      rw [← hl]
      simp only [List.length_drop]; omega
    · unfold left vecO at hl
      simp only [if_neg h8] at hl
      cases hl

/-- The program's reader. -/
def Ro (w : World) (g : Nat) : Option (List UInt8) → Prop
  | some l => Rd w g l
  | none => Fd w g
theorem Ro.below {w w' : World} {g : Nat} {o : Option (List UInt8)} (h : Ro w g o) (hb : Below w.heap.size w w') : Ro w' g o := by
  cases o with
  | none => exact Fd.below h hb
  | some l => exact Rd.below h hb
theorem Ro.lt {w : World} {g : Nat} {o : Option (List UInt8)} (h : Ro w g o) : g < w.heap.size := by
  cases o with
  | none => exact Fd.lt h
  | some l => exact Rd.lt h
def DotEnd (g : Nat) (o : Option (List UInt8)) (w : World) (e : Ending) (w' : World) : Prop := ∃ d : Dt, e = .returned (.agg #[.int .i64 d.1, .int .u64 (d.2 : Int)]) ∧ (∀ p, dotO o = some p → d = p.1) ∧ Ro w' g (left (dotO o)) ∧ w.grownBy w' (some g)
theorem pdot_any (g : Nat) (o : Option (List UInt8)) (w : World) (hr : Ro w g o) (hs : Small o) : Calls Try.prog 40 #[.pointer (some ⟨g, 0, none⟩)] w (DotEnd g o w) := by
  match o, hr, hs with
  | none, hr, _ => exact (rdot_failed g w hr).mono fun e w' ⟨he, hf, hg⟩ => ⟨(0, 0), he, fun p hp => (by cases hp), hf, hg⟩
  | some [], hr, _ => exact (rdot_short g [] w hr (by simp)).mono fun e w' ⟨he, hf, hg⟩ => ⟨(0, 0), he, fun p hp => (by cases hp), hf, hg⟩
  | some (c :: l), hr, hs =>
    have hl := hs _ rfl
    by_cases h8 : 8 ≤ l.length
    · refine (rdot_ok g (c :: l) c (l.take 8) w hr (by simp; omega) (by omega) (by simp)).mono fun e w' ⟨he, hf, hg⟩ => ⟨((c.toNat : Int), beN (l.take 8)), he, fun p hp => ?_, ?_, hg⟩
      · simp [dotO, h8] at hp; rw [← hp]
      · simp [dotO, h8, left]; exact hf
    · refine (rdot_short g (c :: l) w hr (by simp; omega)).mono fun e w' ⟨he, hf, hg⟩ => ⟨(0, 0), he, fun p hp => ?_, ?_, hg⟩
      · simp [dotO, h8] at hp
      · simp [dotO, h8, left]; exact hf
def NumEnd (g : Nat) (o : Option (List UInt8)) (w : World) (e : Ending) (w' : World) : Prop := ∃ n : Nat, e = .returned (.int .u64 (n : Int)) ∧ (∀ p, numO o = some p → n = p.1) ∧ (numO o = none → n = 0) ∧ n < 65536 ∧ Ro w' g (left (numO o)) ∧ w.grownBy w' (some g)
theorem pnum_any (g : Nat) (o : Option (List UInt8)) (w : World) (hr : Ro w g o) (hs : Small o) : Calls Try.prog 59 #[.pointer (some ⟨g, 0, none⟩), .int .i64 2] w (NumEnd g o w) := by
  match o, hr, hs with
  | none, hr, _ => exact (number_failed g 2 w hr).mono fun e w' ⟨he, hf, hg⟩ => ⟨0, he, fun p hp => (by cases hp), fun _ => rfl, by omega, hf, hg⟩
  | some l, hr, hs =>
    have hl := hs _ rfl
    by_cases h2 : 2 ≤ l.length
    · refine (number_ok g 2 l w hr (by omega) (by omega) h2 (by omega)).mono fun e w' ⟨he, hf, hg⟩ => ⟨beN (l.take 2), he, fun p hp => ?_, fun hp => ?_, beN2_lt l, ?_, hg⟩
      · simp [numO, h2] at hp; rw [← hp]
      · simp [numO, h2] at hp
      · simp [numO, h2, left]; exact hf
    · refine (number_short g 2 l w hr (.inr (by omega)) (by omega)).mono fun e w' ⟨he, hf, hg⟩ => ⟨0, he, fun p hp => ?_, fun _ => rfl, by omega, ?_, hg⟩
      · simp [numO, h2] at hp
      · simp [numO, h2, left]; exact hf
def BlobEnd (g : Nat) (o : Option (List UInt8)) (w : World) (e : Ending) (w' : World) : Prop := ∃ v p, e = .returned v ∧ Sl w' v p ∧ (∀ q, blobO o = some q → p = q.1) ∧ p.length ≤ 100000 ∧ Ro w' g (left (blobO o)) ∧ w.grownBy w' (some g)
theorem pblob_any (g : Nat) (o : Option (List UInt8)) (w : World) (hr : Ro w g o) (hs : Small o) : Calls Try.prog 41 #[.pointer (some ⟨g, 0, none⟩)] w (BlobEnd g o w) := by
  match o, hr, hs with
  | none, hr, _ => exact (rblob_failed g w hr).mono fun e w' ⟨he, hf, hg⟩ => ⟨_, [], he, Sl.nil _ _, fun p hp => (by cases hp), by simp, hf, hg⟩
  | some l, hr, hs =>
    have hl := hs _ rfl
    by_cases h2 : 2 ≤ l.length
    · by_cases hn : beN (l.take 2) ≤ (l.drop 2).length
      · have hc : 2 ≤ l.length ∧ beN (l.take 2) ≤ (l.drop 2).length := ⟨h2, hn⟩
        refine (rblob_ok g (beN (l.take 2)) l w hr h2 rfl hn (by omega)).mono fun e w' ⟨A, he, hf, hg⟩ => ⟨_, (l.drop 2).take (beN (l.take 2)), he, hf.sl (by rw [List.length_take]; omega) (Nat.le_refl _), fun p hp => ?_, ?_, ?_, hg⟩
        · unfold blobO at hp; simp only [if_pos hc] at hp; injection hp with hp; rw [← hp]
        · rw [List.length_take]; have : (l.drop 2).length ≤ l.length := by rw [List.length_drop]; omega
          omega
        · unfold left blobO; simp only [if_pos hc]; exact hf.rd
      · have hc : ¬ (2 ≤ l.length ∧ beN (l.take 2) ≤ (l.drop 2).length) := fun h => hn h.2
        refine (rblob_few g (beN (l.take 2)) l w hr h2 rfl (by omega) (by omega)).mono fun e w' ⟨he, hf, hg⟩ => ⟨_, [], he, Sl.nil _ _, fun p hp => ?_, by simp, ?_, hg⟩
        · unfold blobO at hp; simp only [if_neg hc] at hp; cases hp
        · unfold left blobO; simp only [if_neg hc]; exact hf
    · have hc : ¬ (2 ≤ l.length ∧ beN (l.take 2) ≤ (l.drop 2).length) := fun h => h2 h.1
      refine (rblob_short g l w hr (by omega)).mono fun e w' ⟨he, hf, hg⟩ => ⟨_, [], he, Sl.nil _ _, fun p hp => ?_, by simp, ?_, hg⟩
      · unfold blobO at hp; simp only [if_neg hc] at hp; cases hp
      · unfold left blobO; simp only [if_neg hc]; exact hf
theorem vec_uqs {C : Array Value} {V : List Nat} (h : Vec C V) : C = uqs V := Array.toList_inj.1 h.cells
def VecEnd (g : Nat) (o : Option (List UInt8)) (w : World) (e : Ending) (w' : World) : Prop := ∃ V : List Nat, e = .returned (.agg (uqs V)) ∧ V.length = 16 ∧ (∀ n ∈ V, n < 18446744073709551616) ∧ (∀ q, vecO o = some q → V = q.1) ∧ Ro w' g (left (vecO o)) ∧ w.grownBy w' (some g)
theorem pvec_any (g : Nat) (o : Option (List UInt8)) (w : World) (hr : Ro w g o) (hs : Small o) : Calls Try.prog 43 #[.pointer (some ⟨g, 0, none⟩)] w (VecEnd g o w) := by
  match o, hr, hs with
  | none, hr, _ => exact (rvec_failed g w hr).mono fun e w' ⟨he, hf, hg⟩ => ⟨List.replicate 16 0, by rw [he, vec_uqs zeros_vec], by simp, fun n hn => zeros_vec.lt n hn, fun p hp => (by cases hp), hf, hg⟩
  | some l, hr, hs =>
    have hl := hs _ rfl
    by_cases h2 : 128 ≤ l.length
    · refine (rvec_ok g l w hr h2 (by omega)).mono fun e w' ⟨C, he, hC, hf, hg⟩ => ⟨vecN (l.take 128), by rw [he, vec_uqs hC], hC.len, hC.lt, fun p hp => ?_, ?_, hg⟩
      · simp [vecO, h2] at hp; rw [← hp]
      · simp [vecO, h2, left]; exact hf
    · refine (rvec_short g l w hr (by omega)).mono fun e w' ⟨he, hf, hg⟩ => ⟨List.replicate 16 0, by rw [he, vec_uqs zeros_vec], by simp, fun n hn => zeros_vec.lt n hn, fun p hp => ?_, ?_, hg⟩
      · simp [vecO, h2] at hp
      · simp [vecO, h2, left]; exact hf

/-- The document's reader. -/
def Do (w : World) (h bb cB : Nat) (L : List UInt8) : Option (List UInt8) → Prop
  | some l => ∃ a, RR w h bb cB L a false ∧ L.drop a = l
  | none => ∃ a, RR w h bb cB L a true
section
variable {w w' : World} {h bb cB : Nat} {L : List UInt8} {o : Option (List UInt8)}
theorem Do.below (r : Do w h bb cB L o) (hb : Below w.heap.size w w') : Do w' h bb cB L o := by
  cases o with
  | none => obtain ⟨a, r⟩ := r; exact ⟨a, r.below hb⟩
  | some l => obtain ⟨a, r, e⟩ := r; exact ⟨a, r.below hb, e⟩
end
def DDotEnd (h bb cB : Nat) (L : List UInt8) (o : Option (List UInt8)) (w : World) (e : Ending) (w' : World) : Prop := ∃ d : Dt, e = .returned (.agg #[.int .i64 d.1, .int .u64 (d.2 : Int)]) ∧ (∀ p, dotO o = some p → d = p.1) ∧ Do w' h bb cB L (left (dotO o)) ∧ w.grownBy w' (some h)
theorem ddot_any (h bb cB : Nat) (L : List UInt8) (o : Option (List UInt8)) (w : World) (hr : Do w h bb cB L o) : Calls Try.prog 46 #[.pointer (some ⟨h, 0, none⟩)] w (DDotEnd h bb cB L o w) := by
  match o, hr with
  | none, ⟨a, r⟩ => exact (refDotR_bad h bb cB a true L w r (.inl rfl)).mono fun e w' ⟨he, hf, hg⟩ => ⟨(0, 0), he, fun p hp => (by cases hp), ⟨a, hf⟩, hg⟩
  | some [], ⟨a, r, ea⟩ =>
    have := congrArg List.length ea
    simp at this
    exact (refDotR_bad h bb cB a false L w r (.inr (by omega))).mono fun e w' ⟨he, hf, hg⟩ => ⟨(0, 0), he, fun p hp => (by cases hp), ⟨a, hf⟩, hg⟩
  | some (c :: l), ⟨a, r, ea⟩ =>
    have hlen := congrArg List.length ea
    simp at hlen
    have hle := r.le
    by_cases h8 : 8 ≤ l.length
    · refine (refDotR_ok h bb cB a c (l.take 8) L w r (by omega) (by rw [ea]; simp)).mono fun e w' ⟨he, hf, hg⟩ => ⟨((c.toNat : Int), beN (l.take 8)), he, fun p hp => ?_, ?_, hg⟩
      · simp [dotO, h8] at hp; rw [← hp]
      · simp [dotO, h8, left]; exact ⟨a + 9, hf, by rw [← List.drop_drop, ea]; rfl⟩
    · refine (refDotR_bad h bb cB a false L w r (.inr (by omega))).mono fun e w' ⟨he, hf, hg⟩ => ⟨(0, 0), he, fun p hp => ?_, ?_, hg⟩
      · simp [dotO, h8] at hp
      · simp [dotO, h8, left]; exact ⟨a, hf⟩
def DNumEnd (h bb cB : Nat) (L : List UInt8) (o : Option (List UInt8)) (w : World) (e : Ending) (w' : World) : Prop := ∃ n : Nat, e = .returned (.int .u64 (n : Int)) ∧ (∀ p, numO o = some p → n = p.1) ∧ (numO o = none → n = 0) ∧ n < 65536 ∧ Do w' h bb cB L (left (numO o)) ∧ w.grownBy w' (some h)
theorem dnum_any (h bb cB : Nat) (L : List UInt8) (o : Option (List UInt8)) (w : World) (hr : Do w h bb cB L o) : Calls Try.prog 49 #[.pointer (some ⟨h, 0, none⟩), .int .i64 2] w (DNumEnd h bb cB L o w) := by
  match o, hr with
  | none, ⟨a, r⟩ => exact (refNumber_bad h bb cB a 2 true L w r (.inl rfl)).mono fun e w' ⟨he, hf, hg⟩ => ⟨0, he, fun p hp => (by cases hp), fun _ => rfl, by omega, ⟨a, hf⟩, hg⟩
  | some l, ⟨a, r, ea⟩ =>
    have hlen := congrArg List.length ea
    simp at hlen
    have hle := r.le
    by_cases h2 : 2 ≤ l.length
    · refine (refNumber_ok h bb cB a 2 L w r (by omega) (by omega) (by omega)).mono fun e w' ⟨he, hf, hg⟩ => ⟨beN (l.take 2), by rw [he, ea], fun p hp => ?_, fun hp => ?_, beN2_lt l, ?_, hg⟩
      · simp [numO, h2] at hp; rw [← hp]
      · simp [numO, h2] at hp
      · simp [numO, h2, left]; exact ⟨a + 2, hf, by rw [← List.drop_drop, ea]⟩
    · refine (refNumber_bad h bb cB a 2 false L w r (.inr (.inr (.inr (by omega))))).mono fun e w' ⟨he, hf, hg⟩ => ⟨0, he, fun p hp => ?_, fun _ => rfl, by omega, ?_, hg⟩
      · simp [numO, h2] at hp
      · simp [numO, h2, left]; exact ⟨a, hf⟩
def DBlobEnd (h bb cB : Nat) (L : List UInt8) (o : Option (List UInt8)) (w : World) (e : Ending) (w' : World) : Prop := ∃ v p, e = .returned v ∧ SlB w' bb v p ∧ (∀ q, blobO o = some q → p = q.1) ∧ Do w' h bb cB L (left (blobO o)) ∧ w.grownBy w' (some h)
theorem dblob_any (h bb cB : Nat) (L : List UInt8) (o : Option (List UInt8)) (w : World) (hr : Do w h bb cB L o) : Calls Try.prog 47 #[.pointer (some ⟨h, 0, none⟩)] w (DBlobEnd h bb cB L o w) := by
  match o, hr with
  | none, ⟨a, r⟩ => exact (refBlob_bad h bb cB a true L w r (.inl rfl)).mono fun e w' ⟨he, hf, hg⟩ => ⟨_, [], he, SlB.none_ _ _ 0 _ _ _ rfl rfl, fun p hp => (by cases hp), hf, hg⟩
  | some l, ⟨a, r, ea⟩ =>
    have hlen := congrArg List.length ea
    simp at hlen
    have hle := r.le
    by_cases h2 : 2 ≤ l.length
    · by_cases hn : beN (l.take 2) ≤ (l.drop 2).length
      · have hc : 2 ≤ l.length ∧ beN (l.take 2) ≤ (l.drop 2).length := ⟨h2, hn⟩
        rw [List.length_drop] at hn
        have e2 : L.drop (a + 2) = l.drop 2 := by rw [← List.drop_drop, ea]
        refine (refBlob_ok h bb cB a (beN (l.take 2)) L w r (by omega) (by rw [ea]) (by omega)).mono fun e w' ⟨v, he, hv, hf, hg⟩ => ⟨v, (l.drop 2).take (beN (l.take 2)), he, by rw [← e2]; exact hv, fun p hp => ?_, ?_, hg⟩
        · unfold blobO at hp; simp only [if_pos hc] at hp; injection hp with hp; rw [← hp]
        · unfold left blobO; simp only [if_pos hc]; exact ⟨_, hf, by rw [← List.drop_drop, e2]⟩
      · have hc : ¬ (2 ≤ l.length ∧ beN (l.take 2) ≤ (l.drop 2).length) := fun h => hn h.2
        rw [List.length_drop] at hn
        refine (refBlob_few h bb cB a (beN (l.take 2)) L w r (by omega) (by rw [ea]) (by omega)).mono fun e w' ⟨he, hf, hg⟩ => ⟨_, [], he, SlB.none_ _ _ 0 _ _ _ rfl rfl, fun p hp => ?_, ?_, hg⟩
        · unfold blobO at hp; simp only [if_neg hc] at hp; cases hp
        · unfold left blobO; simp only [if_neg hc]; exact hf
    · have hc : ¬ (2 ≤ l.length ∧ beN (l.take 2) ≤ (l.drop 2).length) := fun h => h2 h.1
      refine (refBlob_bad h bb cB a false L w r (.inr (by omega))).mono fun e w' ⟨he, hf, hg⟩ => ⟨_, [], he, SlB.none_ _ _ 0 _ _ _ rfl rfl, fun p hp => ?_, ?_, hg⟩
      · unfold blobO at hp; simp only [if_neg hc] at hp; cases hp
      · unfold left blobO; simp only [if_neg hc]; exact hf
def DVecEnd (h bb cB : Nat) (L : List UInt8) (o : Option (List UInt8)) (w : World) (e : Ending) (w' : World) : Prop := ∃ V : List Nat, e = .returned (.agg (uqs V)) ∧ V.length = 16 ∧ (∀ n ∈ V, n < 18446744073709551616) ∧ (∀ q, vecO o = some q → V = q.1) ∧ Do w' h bb cB L (left (vecO o)) ∧ w.grownBy w' (some h)
theorem dvec_any (h bb cB : Nat) (L : List UInt8) (o : Option (List UInt8)) (w : World) (hr : Do w h bb cB L o) : Calls Try.prog 48 #[.pointer (some ⟨h, 0, none⟩)] w (DVecEnd h bb cB L o w) := by
  match o, hr with
  | none, ⟨a, r⟩ => exact (refVecR_bad h bb cB a true L w r (.inl rfl)).mono fun e w' ⟨he, hf, hg⟩ => ⟨List.replicate 16 0, by rw [he, vec_uqs zeros_vec], by simp, fun n hn => zeros_vec.lt n hn, fun p hp => (by cases hp), ⟨a, hf⟩, hg⟩
  | some l, ⟨a, r, ea⟩ =>
    have hlen := congrArg List.length ea
    simp at hlen
    have hle := r.le
    by_cases h2 : 128 ≤ l.length
    · refine (refVecR_ok h bb cB a L w r (by omega)).mono fun e w' ⟨C, he, hC, hf, hg⟩ => ⟨vecN (l.take 128), by rw [he, ← ea, vec_uqs hC], by rw [vecN_length], fun n hn => by rw [← ea] at hn; exact hC.lt n hn, fun p hp => ?_, ?_, hg⟩
      · simp [vecO, h2] at hp; rw [← hp]
      · simp [vecO, h2, left]; exact ⟨a + 128, hf, by rw [← List.drop_drop, ea]⟩
    · refine (refVecR_bad h bb cB a false L w r (.inr (by omega))).mono fun e w' ⟨he, hf, hg⟩ => ⟨List.replicate 16 0, by rw [he, vec_uqs zeros_vec], by simp, fun n hn => zeros_vec.lt n hn, fun p hp => ?_, ?_, hg⟩
      · simp [vecO, h2] at hp
      · simp [vecO, h2, left]; exact ⟨a, hf⟩
end Go.Proofs.Ytigepbklpiilpaa

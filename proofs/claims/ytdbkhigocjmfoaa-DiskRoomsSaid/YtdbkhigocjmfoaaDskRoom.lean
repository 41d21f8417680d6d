/-
  The walk of Room: a range over the map, in whatever order.
-/
import Derived.Test.YtdbkhigocjmfoaaDskRead
namespace Go.Proofs.Ytdbkhigocjmfoaa
open Go.RowKit Go.Maps
open DskM
set_option linter.unusedVariables false
set_option linter.unusedSimpArgs false
set_option maxRecDepth 20000

/-- How many bytes the files have that have come. -/
def came (L : List Fo) (left : Lit → Bool) : Nat := ((L.filter fun f => !left (.string f.nm)).map fun f => f.bs.length).sum
theorem came_none {L : List Fo} {left : Lit → Bool} (h : ∀ f ∈ L, left (.string f.nm) = true) : came L left = 0 := by
  unfold came
  rw [List.filter_eq_nil_iff.2 (fun f hf => by simp [h f hf])]
  rfl
theorem came_all {L : List Fo} {left : Lit → Bool} (h : ∀ kl, left kl = false) : came L left = total L := by
  unfold came total
  rw [List.filter_eq_self.2 (fun f hf => by simp [h])]
theorem came_other {L : List Fo} {left : Lit → Bool} {n : Nm} (h : ∀ f ∈ L, f.nm ≠ n) : came L (fun z => left z && !z.sameKey (.string n)) = came L left := by
  unfold came
  congr 2
  refine List.filter_congr fun f hf => ?_
  have : (Lit.string f.nm).sameKey (.string n) = false := by
    show (f.nm == n) = false
    exact beq_eq_false_iff_ne.2 (h f hf)
  simp [this]
theorem came_step : ∀ {L : List Fo} {left : Lit → Bool} {f : Fo}, Rise L → f ∈ L → left (.string f.nm) = true → came L (fun z => left z && !z.sameKey (.string f.nm)) = came L left + f.bs.length
  | [], _, _, _, hf, _ => by cases hf
  | x :: L, left, f, hr, hf, hl => by
    obtain ⟨h1, h2⟩ := List.pairwise_cons.1 hr
    have cons : ∀ l : Lit → Bool, came (x :: L) l = (if l (.string x.nm) = true then 0 else x.bs.length) + came L l := fun l => by
      unfold came
      by_cases h : l (.string x.nm) = true
      · rw [if_pos h, List.filter_cons_of_neg (by simp [h])]; omega
      · rw [if_neg h, List.filter_cons_of_pos (by simp at h; simp [h]), List.map_cons, List.sum_cons]
    rw [cons, cons]
    rcases List.mem_cons.1 hf with e | hf
    · subst e
      rw [came_other (fun y hy => (h1 y hy).ne.symm), hl]
      have : (Lit.string f.nm).sameKey (.string f.nm) = true := by show (f.nm == f.nm) = true; simp
      rw [this]
      simp; omega
    · rw [came_step h2 hf hl]
      have hne : (Lit.string x.nm).sameKey (.string f.nm) = false := by
        show (x.nm == f.nm) = false
        exact beq_eq_false_iff_ne.2 (h1 f hf).ne
      rw [hne]
      simp; omega
theorem sum_filter_le (L : List Fo) (q : Fo → Bool) : ((L.filter q).map fun f => f.bs.length).sum ≤ (L.map fun f => f.bs.length).sum := by
  induction L with
  | nil => simp
  | cons x L ih =>
    by_cases h : q x = true
    · rw [List.filter_cons_of_pos h, List.map_cons, List.sum_cons, List.map_cons, List.sum_cons]; omega
    · rw [List.filter_cons_of_neg h, List.map_cons, List.sum_cons]; omega
def mkP : Option Nat → Value
  | none => .pointer none
  | some g => .pointer (some ⟨g, 0, none⟩)
theorem inv_str (key : Value) (kl : Lit) (h : keyOf Try.prog 9 key = some kl) : ∃ s : ByteArray, key = .string s := by
  cases key <;> simp [keyOf, Try.underlying9, mapKey] at h
  exact ⟨_, rfl⟩
theorem key_lit {s : ByteArray} {kl : Lit} (h : keyOf Try.prog 9 (.string s) = some kl) : kl = .string s.data.toList := by
  simp [keyOf, Try.underlying9, mapKey] at h
  exact h.2.symm
theorem inv_ptr (v : Value) (y : DataW Unit × List MemPlace) (h : ptrR v = some y) : ∃ c, v = mkP c := by
  rcases ptrR_inv h with ⟨rfl, _⟩ | ⟨g, rfl, _⟩
  · exact ⟨none, rfl⟩
  · exact ⟨some g, rfl⟩
/-- What a range's step hands over. -/
theorem entry_is {L : List Fo} {s : ByteArray} {kl : Lit} {c : Option Nat} {y : DataW Unit × List MemPlace} (hk : keyOf Try.prog 9 (.string s) = some kl) (hv : ptrR (mkP c) = some y) (hat : ∀ zd, (DE L).atKey kl zd = y.1) :
    ∃ f ∈ L, f.nm = s.data.toList ∧ kl = .string f.nm ∧ c = some f.g := by
  have e := key_lit hk
  subst e
  cases hf : find L s.data.toList with
  | none =>
    have h1 := hat .nil
    have h2 := hat (.lit (.bool true))
    rw [atKey_DE, hf] at h1 h2
    simp at h1 h2
    rw [← h1] at h2
    cases h2
  | some f =>
    obtain ⟨h1, h2⟩ := find_mem hf
    refine ⟨f, h1, h2, by rw [h2], ?_⟩
    have h3 := hat .nil
    rw [atKey_DE, hf] at h3
    simp at h3
    cases c with
    | none =>
      simp [mkP, ptrR] at hv
      subst hv
      cases h3
    | some g =>
      simp [mkP, ptrR] at hv
      subst hv
      simp at h3
      rw [show f.g = g by omega]

section
variable {w w' : World} {p m : Nat} {S S' : Ds} {L : List Fo}
set_option maxHeartbeats 2000000 in
theorem room_any (h : Dk w p m S L) :
    Calls Try.prog 28 #[.pointer (some ⟨p, 0, none⟩)] w fun e w' => e = .returned (.int .i64 ((S.cap : Int) - (total L : Int))) ∧ Below w.heap.size w w' := by
  have hn := none_any h
  have c0 := h.c0
  have c1 := h.c1
  have hown := h.map
  have H := Lib.hid h
  have hcap := h.cap2
  have hroom := h.room
  clear h
  go_enter Try.func28, Try.ntmps28
  go_wp2_with fail
  refine hn.mono ?_
  rintro e w1 ⟨rfl, rfl⟩
  clear hn
  go_wp2_with (at_range; refine wpList_range_own _ rfl _ 61 rfl 9 75 strKey Try.underlying61 ptrR m L.length (DE L) rfl hown ?_; intro w0 hrg0 hg0 hs0)
  go_frame
  have hb0 : Below w1.heap.size w1 w0 := (Below.refl _ _).grown hg0 (Nat.le_refl _) (fun k e => by cases e)
  have hst : came L (Maps.has (DE L)) = 0 := came_none (fun f hf => by rw [has_DE, find_of_mem H.out.rise hf]; rfl)
  go_loopw [3] (fun v wr => ∃ left cnt, wr.ranges Try.prog 9 ptrR m w1.heap.size L.length (DE L) left cnt ∧ v = .int .i64 ((S.cap : Int) - (came L left : Int)) ∧ came L left ≤ total L ∧ Below w1.heap.size w1 wr) (fun _ wr => wr.rangeLeft m w1.heap.size)
  case atStart => exact ⟨_, _, hrg0, by rw [hst]; simp, by rw [hst]; exact Nat.zero_le _, hb0⟩
  case round =>
    clear hrg0 hg0 hs0 hb0 hst c0 c1 hown
    obtain ⟨left, cnt, hrg, rfl, hle, hb⟩ := hrel
    have HRG := Lib.hid hrg
    go_wp2_with (at_next; refine wpList_next_ranges _ rfl _ rfl 9 strKey ptrR Value.string mkP inv_str inv_ptr m w1.heap.size L.length (DE L) left cnt rfl hrg ?_ ?_)
    · intro hc0 hl0
      have he := came_all (L := L) hl0
      rw [he]
      clear hc0 hl0 hrg hle he
      go_wp2
      go_ret
      exact ⟨rfl, hb⟩
    · intro x c kl yd yp w2 cnt1 hkx hlk hv hat hrg1 hlt hg1 hs1 hen
      obtain ⟨f, hf, hnm, rfl, rfl⟩ := entry_is hkx hv hat
      have hb2 : Below w1.heap.size w1 w2 := hb.grown hg1 hb.size (fun k e => by injection e with e; omega)
      have hfa := (H.out.below hb2).file f hf
      have q0 := hfa.c0
      obtain ⟨A, n, cc, hvv⟩ := hfa.row.shape
      rw [hvv] at q0
      obtain rfl : n = f.bs.length := by have := hfa.row.sl; rw [hvv] at this; exact this.len
      have hst := came_step H.out.rise hf hlk
      have htl : came L left + f.bs.length ≤ total L := by
        rw [← hst]
        unfold came total
        exact sum_filter_le _ _
      simp only [mkP] at hen
      have HST := Lib.hid hst
      have HLT := Lib.hid hlt
      have HRG1 := Lib.hid hrg1
      have hsz := f.bs.length
      clear hkx hlk hv hat hg1 hs1 hfa hvv hst hrg hlt hrg1
      have hw1 : IntKind.i64.wrap ((S.cap : Int) - (came L left : Int) - (f.bs.length : Int)) = (S.cap : Int) - (came L left : Int) - (f.bs.length : Int) := by rw [IntKind.wrap_i64] <;> omega
      go_wp2
      refine ⟨⟨_, _, HRG1.out, ?_, by rw [HST.out]; exact htl, hb2⟩, ?_⟩
      · rw [HST.out]; congr 1; omega
      · rw [HRG1.out.left_eq, HRG.out.left_eq]; exact HLT.out
end
end Go.Proofs.Ytdbkhigocjmfoaa

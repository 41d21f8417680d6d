/-
  The program's disk and the document's, side by side.
-/
import Derived.Test.YtdbkhigocjmfoaaDskLooks
namespace Go.Proofs.Ytdbkhigocjmfoaa
open Go.RowKit Go.Maps Go.Shelf
open DskM
set_option linter.unusedVariables false
set_option linter.unusedSimpArgs false
set_option maxRecDepth 20000
section
variable {A B : Nat → Prop} {w W W' : World} {p p2 q : Nat} {S S2 T : Ds} {F F2 : List Fp} {v : Value} {R : List Fr}
theorem Mx.mono (h : Mx A W p S F) (hA : ∀ j, A j → j < W.heap.size → B j) : Mx B W p S F := by
  obtain ⟨m, L, e, hd, hf⟩ := h
  exact ⟨m, L, e, hd, fun i hi => hA i (hf i hi) (hd.lt i hi)⟩
theorem mx_copy (h : Mx A W p S F) :
    Calls Try.prog 12 #[.pointer (some ⟨p, 0, none⟩)] W fun e W' => ∃ p', e = .returned (.pointer (some ⟨p', 0, none⟩)) ∧ Mx (fun j => W.heap.size ≤ j ∧ j < W'.heap.size) W' p' S F ∧ Below W.heap.size W W' := by
  obtain ⟨m, L, e, hd, hf⟩ := h
  refine (copy_any hd).mono ?_
  rintro e' W' ⟨p', m', L', rfl, e2, hd', hf', hb⟩
  exact ⟨p', rfl, ⟨m', L', by rw [e2, e], hd', fun i hi => ⟨hf' i hi, hd'.lt i hi⟩⟩, hb⟩
theorem mx_same (h : Mx A W p S F) (h2 : Mx B W p2 S2 F2) :
    Calls Try.prog 16 #[.pointer (some ⟨p, 0, none⟩), .pointer (some ⟨p2, 0, none⟩)] W fun e W' => e = .returned (.bool (decide (S.cap = S2.cap ∧ F = F2))) ∧ Below W.heap.size W W' := by
  obtain ⟨m, L, e, hd, _⟩ := h
  obtain ⟨m2, L2, e2, hd2, _⟩ := h2
  rw [← e, ← e2]
  exact same_dd hd hd2
theorem low_write {S : Ds} (h : -1 ≤ S.fuse) (d t F : List Fp) : -1 ≤ (writeS S d t F).2.1.fuse := by
  unfold writeS
  split
  · exact h
  · split
    · exact h
    · show -1 ≤ (if 0 < S.fuse then S.fuse - 1 else S.fuse)
      split <;> omega
theorem low_step {S : Ds} (h : -1 ≤ S.fuse) (F : List Fp) (s : St) : -1 ≤ (doR S F s).2.1.fuse := by
  unfold doR
  split
  · unfold appendS; split
    · split
      · exact h
      · exact low_write h _ _ _
    · exact h
  split
  · unfold syncS; split
    · split
      · exact h
      · exact low_write h _ _ _
    · exact h
  split
  · unfold cutS; split
    · split
      · exact h
      · split
        · exact h
        · exact low_write h _ _ _
    · exact h
  split
  · unfold renameS; split
    · split
      · exact h
      · exact low_write h _ _ _
    · exact h
  split
  · unfold removeS; split
    · split
      · exact h
      · exact low_write h _ _ _
    · exact h
  split
  · unfold layS
    split
    · exact h
    · show -1 ≤ (if s.n < 0 then -1 else s.n)
      split <;> omega
  split
  · show (-1 : Int) ≤ -1
    omega
  · exact h
theorem fit_of (hM : Mx A W p S F) (hs : Sim S T) (hw : S.wr ≤ 1000000) (hl : -1 ≤ T.fuse) : Fit T F := by
  obtain ⟨m, L, e, hd, _⟩ := hM
  obtain ⟨h1, h2, h3, h4⟩ := hs
  subst e
  have f1 := hd.fuse1
  have f2 := hd.fuse2
  have c2 := hd.cap2
  exact ⟨by omega, by omega, by omega, by omega, by rw [total_plain, h1]; exact hd.room, by rw [plain_len]; exact hd.few, rise_plain hd.rise, hd.las⟩
/-- What holds between two steps. -/
structure Pl (w : World) (cn i : Nat) (wr : World) (p q : Nat) (S T : Ds) (F : List Fp) (v : Value) (R : List Fr) (A : Nat → Prop) : Prop where
  hM : Mx A wr p S F
  hR : Rd wr q v T R
  hF : pl R = F
  sim : Sim S T
  low : -1 ≤ T.fuse
  cap : S.cap = cn
  wrs : S.wr ≤ i
  bel : Below w.heap.size w wr
  hA : ∀ j, A j → w.heap.size ≤ j ∧ j < wr.heap.size
  hQ : ∀ j, RFoot q v R j → w.heap.size ≤ j ∧ ¬ A j
theorem Pl.below {cn i : Nat} (h : Pl w cn i W p q S T F v R A) (hb : Below W.heap.size W W') : Pl w cn i W' p q S T F v R A :=
  ⟨h.hM.below hb, h.hR.below hb, h.hF, h.sim, h.low, h.cap, h.wrs, h.bel.trans (hb.mono h.bel.size), fun j hj => ⟨(h.hA j hj).1, Nat.lt_of_lt_of_le (h.hA j hj).2 hb.size⟩, h.hQ⟩
theorem Pl.fit {cn i : Nat} (h : Pl w cn i W p q S T F v R A) (hi : i ≤ 1000) : Fit T (pl R) := by
  rw [h.hF]; exact fit_of h.hM h.sim (by have := h.wrs; omega) h.low
/-- Behind the program's step: its disk has turned, nothing else that lay there. -/
theorem Pl.did {cn i p' : Nat} {r : Int × Ds × List Fp} (h : Pl w cn i W p q S T F v R A) (hm : Mx (fun j => A j ∨ W.heap.size ≤ j) W' p' r.2.1 r.2.2) (hk : Keep (fun j => A j ∨ W.heap.size ≤ j) W W') :
    Mx (fun j => (A j ∨ W.heap.size ≤ j) ∧ j < W'.heap.size) W' p' r.2.1 r.2.2 ∧ Rd W' q v T R ∧ Below w.heap.size w W' := by
  refine ⟨hm.mono (fun j hj hl => ⟨hj, hl⟩), h.hR.kept hk (fun j hj e => ?_), ?_⟩
  · have h1 := (h.hQ j hj).2
    have h2 := h.hR.lt j hj
    rcases e with e | e
    · exact h1 e
    · omega
  · exact Keep.below h.bel hk h.bel.size (fun j hj => by
      rcases hj with e | e
      · exact (h.hA j e).1
      · have := h.bel.size; omega)
end
end Go.Proofs.Ytdbkhigocjmfoaa

/-
  The document's Do; what its steps come to beside the program's.
-/
import Derived.Test.YtdbkhigocjmfoaaDskRefZ
namespace Go.Proofs.Ytdbkhigocjmfoaa
open Go.RowKit
open DskM
set_option linter.unusedVariables false
set_option linter.unusedSimpArgs false
set_option maxRecDepth 100000
attribute [local go_sem] Oper.semAt_some
def layS (S : Ds) (n : Int) : Ds := if S.dead = true then S else { S with fuse := if n < 0 then -1 else n }
/-- What a step comes to, by the document's Do. -/
def doR (S : Ds) (F : List Fp) (s : St) : Int × Ds × List Fp :=
  if s.kind = 1 then appendS S F s.nm.data.toList s.b else
  if s.kind = 2 then syncS S F s.nm.data.toList else
  if s.kind = 3 then cutS S F s.nm.data.toList s.n else
  if s.kind = 4 then renameS S F s.nm.data.toList s.nt.data.toList else
  if s.kind = 5 then removeS S F s.nm.data.toList else
  if s.kind = 6 then (0, layS S s.n, F) else
  if s.kind = 7 then (0, ⟨S.cap, -1, false, 0⟩, crashP s.kp F) else (0, S, F)
/-- Numbers that look alike. -/
def Sim (S T : Ds) : Prop := T.cap = S.cap ∧ T.dead = S.dead ∧ T.wr = S.wr ∧ (T.fuse = S.fuse ∨ T.fuse < 0 ∧ S.fuse < 0)
theorem Sim.writeS {S T : Ds} (h : Sim S T) (d t F : List Fp) : (Go.Proofs.Ytdbkhigocjmfoaa.writeS T d t F).1 = (Go.Proofs.Ytdbkhigocjmfoaa.writeS S d t F).1 ∧ (Go.Proofs.Ytdbkhigocjmfoaa.writeS T d t F).2.2 = (Go.Proofs.Ytdbkhigocjmfoaa.writeS S d t F).2.2 ∧ Sim (Go.Proofs.Ytdbkhigocjmfoaa.writeS S d t F).2.1 (Go.Proofs.Ytdbkhigocjmfoaa.writeS T d t F).2.1 := by
  obtain ⟨h1, h2, h3, h4⟩ := h
  unfold Go.Proofs.Ytdbkhigocjmfoaa.writeS
  rw [h2]
  by_cases hd : S.dead = true
  · rw [if_pos hd, if_pos hd]
    exact ⟨rfl, rfl, h1, h2, h3, h4⟩
  · rw [if_neg hd, if_neg hd]
    by_cases h0 : S.fuse = 0
    · have h5 : T.fuse = 0 := by omega
      rw [if_pos h0, if_pos h5]
      exact ⟨rfl, rfl, h1, rfl, by show T.wr + 1 = S.wr + 1; omega, by show T.fuse = S.fuse ∨ _; exact h4⟩
    · have h5 : ¬ T.fuse = 0 := by omega
      rw [if_neg h0, if_neg h5]
      refine ⟨rfl, rfl, h1, h2, by show T.wr + 1 = S.wr + 1; omega, ?_⟩
      show (if 0 < T.fuse then T.fuse - 1 else T.fuse) = (if 0 < S.fuse then S.fuse - 1 else S.fuse) ∨ (if 0 < T.fuse then T.fuse - 1 else T.fuse) < 0 ∧ (if 0 < S.fuse then S.fuse - 1 else S.fuse) < 0
      split <;> split <;> omega
theorem Sim.step {S T : Ds} (h : Sim S T) (F : List Fp) (s : St) : (doR T F s).1 = (doS S F s).1 ∧ (doR T F s).2.2 = (doS S F s).2.2 ∧ Sim (doS S F s).2.1 (doR T F s).2.1 := by
  have hc : T.cap = S.cap := h.1
  unfold doR doS
  split
  · unfold appendS
    rw [hc]
    split
    · split
      · exact ⟨rfl, rfl, h⟩
      · exact h.writeS _ _ _
    · exact ⟨rfl, rfl, h⟩
  split
  · unfold syncS
    split
    · split
      · exact ⟨rfl, rfl, h⟩
      · exact h.writeS _ _ _
    · exact ⟨rfl, rfl, h⟩
  split
  · unfold cutS
    split
    · split
      · exact ⟨rfl, rfl, h⟩
      · split
        · exact ⟨rfl, rfl, h⟩
        · exact h.writeS _ _ _
    · exact ⟨rfl, rfl, h⟩
  split
  · unfold renameS
    split
    · split
      · exact ⟨rfl, rfl, h⟩
      · exact h.writeS _ _ _
    · exact ⟨rfl, rfl, h⟩
  split
  · unfold removeS
    split
    · split
      · exact ⟨rfl, rfl, h⟩
      · exact h.writeS _ _ _
    · exact ⟨rfl, rfl, h⟩
  split
  · refine ⟨rfl, rfl, ?_⟩
    show Sim (fuseS S s.n) (layS T s.n)
    unfold fuseS layS
    rw [h.2.1]
    split
    · exact h
    · refine ⟨hc, rfl, h.2.2.1, ?_⟩
      show (if s.n < 0 then -1 else s.n) = s.n ∨ (if s.n < 0 then (-1 : Int) else s.n) < 0 ∧ s.n < 0
      split <;> omega
  split
  · exact ⟨rfl, rfl, hc, rfl, rfl, .inl rfl⟩
  · exact ⟨rfl, rfl, h⟩
section
variable {w w' : World} {q : Nat} {v : Value} {S : Ds} {R : List Fr}
/-- What stands where the document's disk stood, or is new. -/
def DRes (w : World) (q : Nat) (v : Value) (R : List Fr) (r : Int × Ds × List Fp) (e : Ending) (w' : World) : Prop :=
  ∃ q' v' R', e = .returned (.tuple #[.int .i64 r.1, .pointer (some ⟨q', 0, none⟩)]) ∧ Rd w' q' v' r.2.1 R' ∧ pl R' = r.2.2 ∧ Keep (fun i => i = q ∨ v.ownBlock = some i) w w' ∧ ∀ i, RFoot q' v' R' i → RFoot q v R i ∨ w.heap.size ≤ i
theorem RRes.from {w0 : World} {r : Int × Ds × List Fp} {x : Int} (hb : Below w0.heap.size w0 w) (h : RRes w q v R r (.returned (.int .i64 x)) w') : x = r.1 ∧ DRes w0 q v R r (.returned (.tuple #[.int .i64 r.1, .pointer (some ⟨q, 0, none⟩)])) w' := by
  obtain ⟨v', R', e, h1, h2, h3, h4⟩ := h
  injection e with e
  injection e with _ e
  exact ⟨e, q, v', R', rfl, h1, h2, trans_q (Keep.of_below hb) h3, fun i hi => (h4 i hi).imp id (fun h => Nat.le_trans hb.size h)⟩
set_option maxHeartbeats 4000000 in
theorem refDo1 (h : Rd w q v S R) (hf : Fit S (pl R)) (s : St) (hs : StAt w s) (hk : s.kind = 1) :
    Calls Try.prog 15 #[.pointer (some ⟨q, 0, none⟩), .agg s.cs] w (DRes w q v R (doR S (pl R) s)) := by
  have hb0 : Below w.heap.size w (w.alloc (.cells s.cs 41)) := al1 w _
  have hB := Blk.new w 41 s.cs
  obtain ⟨kk, n, nm, nt, b, bv, kp, kv⟩ := s
  simp only [St.cs] at hB hb0 hk
  subst hk
  have hd0 := h.below hb0
  have hs0 := hs.below hb0
  have HD := Lib.hid hd0
  have HS := Lib.hid hs0
  have HB0 := Lib.hid hb0
  have HF := Lib.hid hf
  have q0 : (w.alloc (.cells #[.int .i64 1, .int .i64 n, .string nm, .string nt, bv, kv] 41)).cell? ⟨w.heap.size, 0, none⟩ = some (.int .i64 1) := by rw [hB.cell]; rfl
  have q1 : (w.alloc (.cells #[.int .i64 1, .int .i64 n, .string nm, .string nt, bv, kv] 41)).cell? ⟨w.heap.size, 1, none⟩ = some (.int .i64 n) := by rw [hB.cell]; rfl
  have q2 : (w.alloc (.cells #[.int .i64 1, .int .i64 n, .string nm, .string nt, bv, kv] 41)).cell? ⟨w.heap.size, 2, none⟩ = some (.string nm) := by rw [hB.cell]; rfl
  have q3 : (w.alloc (.cells #[.int .i64 1, .int .i64 n, .string nm, .string nt, bv, kv] 41)).cell? ⟨w.heap.size, 3, none⟩ = some (.string nt) := by rw [hB.cell]; rfl
  have q4 : (w.alloc (.cells #[.int .i64 1, .int .i64 n, .string nm, .string nt, bv, kv] 41)).cell? ⟨w.heap.size, 4, none⟩ = some (bv) := by rw [hB.cell]; rfl
  have q5 : (w.alloc (.cells #[.int .i64 1, .int .i64 n, .string nm, .string nt, bv, kv] 41)).cell? ⟨w.heap.size, 5, none⟩ = some (kv) := by rw [hB.cell]; rfl
  have hsb : Sl w bv b := hs.b
  obtain ⟨A0, c0, rfl, _, _⟩ := hsb
  clear hb0 hd0 hs0 h hs hf
  simp only [doR, if_true]
  have hc := refAppend_any HD.out HF.out nm _ b HS.out.b rfl
  have HC := Lib.hid hc
  clear hc
  generalize appendS S (pl R) nm.data.toList b = r at HC ⊢
  show Calls Try.prog _ #[.pointer (some ⟨q, 0, none⟩), .agg #[.int .i64 1, .int .i64 n, .string nm, .string nt, .slice A0 b.length c0, kv]] w _
  go_enter Try.func15, Try.ntmps15
  go_wp2_with fail
  refine HC.out.mono ?_
  rintro e w2 ht
  obtain ⟨x, hx⟩ : ∃ x, e = .returned (.int .i64 x) := by obtain ⟨_, _, e1, _⟩ := ht; exact ⟨_, e1⟩
  subst hx
  obtain ⟨rfl, ht2⟩ := RRes.from HB0.out ht
  have HT := Lib.hid ht2
  clear ht ht2 HC
  go_wp2
  go_ret2
  exact HT.out
set_option maxHeartbeats 4000000 in
theorem refDo2 (h : Rd w q v S R) (hf : Fit S (pl R)) (s : St) (hs : StAt w s) (hk : s.kind = 2) :
    Calls Try.prog 15 #[.pointer (some ⟨q, 0, none⟩), .agg s.cs] w (DRes w q v R (doR S (pl R) s)) := by
  have hb0 : Below w.heap.size w (w.alloc (.cells s.cs 41)) := al1 w _
  have hB := Blk.new w 41 s.cs
  obtain ⟨kk, n, nm, nt, b, bv, kp, kv⟩ := s
  simp only [St.cs] at hB hb0 hk
  subst hk
  have hd0 := h.below hb0
  have hs0 := hs.below hb0
  have HD := Lib.hid hd0
  have HS := Lib.hid hs0
  have HB0 := Lib.hid hb0
  have HF := Lib.hid hf
  have q0 : (w.alloc (.cells #[.int .i64 2, .int .i64 n, .string nm, .string nt, bv, kv] 41)).cell? ⟨w.heap.size, 0, none⟩ = some (.int .i64 2) := by rw [hB.cell]; rfl
  have q1 : (w.alloc (.cells #[.int .i64 2, .int .i64 n, .string nm, .string nt, bv, kv] 41)).cell? ⟨w.heap.size, 1, none⟩ = some (.int .i64 n) := by rw [hB.cell]; rfl
  have q2 : (w.alloc (.cells #[.int .i64 2, .int .i64 n, .string nm, .string nt, bv, kv] 41)).cell? ⟨w.heap.size, 2, none⟩ = some (.string nm) := by rw [hB.cell]; rfl
  have q3 : (w.alloc (.cells #[.int .i64 2, .int .i64 n, .string nm, .string nt, bv, kv] 41)).cell? ⟨w.heap.size, 3, none⟩ = some (.string nt) := by rw [hB.cell]; rfl
  have q4 : (w.alloc (.cells #[.int .i64 2, .int .i64 n, .string nm, .string nt, bv, kv] 41)).cell? ⟨w.heap.size, 4, none⟩ = some (bv) := by rw [hB.cell]; rfl
  have q5 : (w.alloc (.cells #[.int .i64 2, .int .i64 n, .string nm, .string nt, bv, kv] 41)).cell? ⟨w.heap.size, 5, none⟩ = some (kv) := by rw [hB.cell]; rfl
  clear hb0 hd0 hs0 h hs hf
  simp only [doR, if_neg (show ¬ ((2 : Int) = 1) by decide), if_true]
  have hc := sync_ref HD.out HF.out nm rfl
  have HC := Lib.hid hc
  clear hc
  generalize syncS S (pl R) nm.data.toList = r at HC ⊢
  show Calls Try.prog _ #[.pointer (some ⟨q, 0, none⟩), .agg #[.int .i64 2, .int .i64 n, .string nm, .string nt, bv, kv]] w _
  go_enter Try.func15, Try.ntmps15
  go_wp2_with fail
  refine HC.out.mono ?_
  rintro e w2 ht
  obtain ⟨x, hx⟩ : ∃ x, e = .returned (.int .i64 x) := by obtain ⟨_, _, e1, _⟩ := ht; exact ⟨_, e1⟩
  subst hx
  obtain ⟨rfl, ht2⟩ := RRes.from HB0.out ht
  have HT := Lib.hid ht2
  clear ht ht2 HC
  go_wp2
  go_ret2
  exact HT.out
set_option maxHeartbeats 4000000 in
theorem refDo3 (h : Rd w q v S R) (hf : Fit S (pl R)) (s : St) (hs : StAt w s) (hk : s.kind = 3) :
    Calls Try.prog 15 #[.pointer (some ⟨q, 0, none⟩), .agg s.cs] w (DRes w q v R (doR S (pl R) s)) := by
  have hb0 : Below w.heap.size w (w.alloc (.cells s.cs 41)) := al1 w _
  have hB := Blk.new w 41 s.cs
  obtain ⟨kk, n, nm, nt, b, bv, kp, kv⟩ := s
  simp only [St.cs] at hB hb0 hk
  subst hk
  have hd0 := h.below hb0
  have hs0 := hs.below hb0
  have HD := Lib.hid hd0
  have HS := Lib.hid hs0
  have HB0 := Lib.hid hb0
  have HF := Lib.hid hf
  have q0 : (w.alloc (.cells #[.int .i64 3, .int .i64 n, .string nm, .string nt, bv, kv] 41)).cell? ⟨w.heap.size, 0, none⟩ = some (.int .i64 3) := by rw [hB.cell]; rfl
  have q1 : (w.alloc (.cells #[.int .i64 3, .int .i64 n, .string nm, .string nt, bv, kv] 41)).cell? ⟨w.heap.size, 1, none⟩ = some (.int .i64 n) := by rw [hB.cell]; rfl
  have q2 : (w.alloc (.cells #[.int .i64 3, .int .i64 n, .string nm, .string nt, bv, kv] 41)).cell? ⟨w.heap.size, 2, none⟩ = some (.string nm) := by rw [hB.cell]; rfl
  have q3 : (w.alloc (.cells #[.int .i64 3, .int .i64 n, .string nm, .string nt, bv, kv] 41)).cell? ⟨w.heap.size, 3, none⟩ = some (.string nt) := by rw [hB.cell]; rfl
  have q4 : (w.alloc (.cells #[.int .i64 3, .int .i64 n, .string nm, .string nt, bv, kv] 41)).cell? ⟨w.heap.size, 4, none⟩ = some (bv) := by rw [hB.cell]; rfl
  have q5 : (w.alloc (.cells #[.int .i64 3, .int .i64 n, .string nm, .string nt, bv, kv] 41)).cell? ⟨w.heap.size, 5, none⟩ = some (kv) := by rw [hB.cell]; rfl
  clear hb0 hd0 hs0 h hs hf
  simp only [doR, if_neg (show ¬ ((3 : Int) = 1) by decide), if_neg (show ¬ ((3 : Int) = 2) by decide), if_true]
  have hc := cut_ref HD.out HF.out nm n rfl
  have HC := Lib.hid hc
  clear hc
  generalize cutS S (pl R) nm.data.toList n = r at HC ⊢
  show Calls Try.prog _ #[.pointer (some ⟨q, 0, none⟩), .agg #[.int .i64 3, .int .i64 n, .string nm, .string nt, bv, kv]] w _
  go_enter Try.func15, Try.ntmps15
  go_wp2_with fail
  refine HC.out.mono ?_
  rintro e w2 ht
  obtain ⟨x, hx⟩ : ∃ x, e = .returned (.int .i64 x) := by obtain ⟨_, _, e1, _⟩ := ht; exact ⟨_, e1⟩
  subst hx
  obtain ⟨rfl, ht2⟩ := RRes.from HB0.out ht
  have HT := Lib.hid ht2
  clear ht ht2 HC
  go_wp2
  go_ret2
  exact HT.out
set_option maxHeartbeats 4000000 in
theorem refDo4 (h : Rd w q v S R) (hf : Fit S (pl R)) (s : St) (hs : StAt w s) (hk : s.kind = 4) :
    Calls Try.prog 15 #[.pointer (some ⟨q, 0, none⟩), .agg s.cs] w (DRes w q v R (doR S (pl R) s)) := by
  have hb0 : Below w.heap.size w (w.alloc (.cells s.cs 41)) := al1 w _
  have hB := Blk.new w 41 s.cs
  obtain ⟨kk, n, nm, nt, b, bv, kp, kv⟩ := s
  simp only [St.cs] at hB hb0 hk
  subst hk
  have hd0 := h.below hb0
  have hs0 := hs.below hb0
  have HD := Lib.hid hd0
  have HS := Lib.hid hs0
  have HB0 := Lib.hid hb0
  have HF := Lib.hid hf
  have q0 : (w.alloc (.cells #[.int .i64 4, .int .i64 n, .string nm, .string nt, bv, kv] 41)).cell? ⟨w.heap.size, 0, none⟩ = some (.int .i64 4) := by rw [hB.cell]; rfl
  have q1 : (w.alloc (.cells #[.int .i64 4, .int .i64 n, .string nm, .string nt, bv, kv] 41)).cell? ⟨w.heap.size, 1, none⟩ = some (.int .i64 n) := by rw [hB.cell]; rfl
  have q2 : (w.alloc (.cells #[.int .i64 4, .int .i64 n, .string nm, .string nt, bv, kv] 41)).cell? ⟨w.heap.size, 2, none⟩ = some (.string nm) := by rw [hB.cell]; rfl
  have q3 : (w.alloc (.cells #[.int .i64 4, .int .i64 n, .string nm, .string nt, bv, kv] 41)).cell? ⟨w.heap.size, 3, none⟩ = some (.string nt) := by rw [hB.cell]; rfl
  have q4 : (w.alloc (.cells #[.int .i64 4, .int .i64 n, .string nm, .string nt, bv, kv] 41)).cell? ⟨w.heap.size, 4, none⟩ = some (bv) := by rw [hB.cell]; rfl
  have q5 : (w.alloc (.cells #[.int .i64 4, .int .i64 n, .string nm, .string nt, bv, kv] 41)).cell? ⟨w.heap.size, 5, none⟩ = some (kv) := by rw [hB.cell]; rfl
  clear hb0 hd0 hs0 h hs hf
  simp only [doR, if_neg (show ¬ ((4 : Int) = 1) by decide), if_neg (show ¬ ((4 : Int) = 2) by decide), if_neg (show ¬ ((4 : Int) = 3) by decide), if_true]
  have hc := rename_ref HD.out HF.out nm nt rfl
  have HC := Lib.hid hc
  clear hc
  generalize renameS S (pl R) nm.data.toList nt.data.toList = r at HC ⊢
  show Calls Try.prog _ #[.pointer (some ⟨q, 0, none⟩), .agg #[.int .i64 4, .int .i64 n, .string nm, .string nt, bv, kv]] w _
  go_enter Try.func15, Try.ntmps15
  go_wp2_with fail
  refine HC.out.mono ?_
  rintro e w2 ht
  obtain ⟨x, hx⟩ : ∃ x, e = .returned (.int .i64 x) := by obtain ⟨_, _, e1, _⟩ := ht; exact ⟨_, e1⟩
  subst hx
  obtain ⟨rfl, ht2⟩ := RRes.from HB0.out ht
  have HT := Lib.hid ht2
  clear ht ht2 HC
  go_wp2
  go_ret2
  exact HT.out
set_option maxHeartbeats 4000000 in
theorem refDo5 (h : Rd w q v S R) (hf : Fit S (pl R)) (s : St) (hs : StAt w s) (hk : s.kind = 5) :
    Calls Try.prog 15 #[.pointer (some ⟨q, 0, none⟩), .agg s.cs] w (DRes w q v R (doR S (pl R) s)) := by
  have hb0 : Below w.heap.size w (w.alloc (.cells s.cs 41)) := al1 w _
  have hB := Blk.new w 41 s.cs
  obtain ⟨kk, n, nm, nt, b, bv, kp, kv⟩ := s
  simp only [St.cs] at hB hb0 hk
  subst hk
  have hd0 := h.below hb0
  have hs0 := hs.below hb0
  have HD := Lib.hid hd0
  have HS := Lib.hid hs0
  have HB0 := Lib.hid hb0
  have HF := Lib.hid hf
  have q0 : (w.alloc (.cells #[.int .i64 5, .int .i64 n, .string nm, .string nt, bv, kv] 41)).cell? ⟨w.heap.size, 0, none⟩ = some (.int .i64 5) := by rw [hB.cell]; rfl
  have q1 : (w.alloc (.cells #[.int .i64 5, .int .i64 n, .string nm, .string nt, bv, kv] 41)).cell? ⟨w.heap.size, 1, none⟩ = some (.int .i64 n) := by rw [hB.cell]; rfl
  have q2 : (w.alloc (.cells #[.int .i64 5, .int .i64 n, .string nm, .string nt, bv, kv] 41)).cell? ⟨w.heap.size, 2, none⟩ = some (.string nm) := by rw [hB.cell]; rfl
  have q3 : (w.alloc (.cells #[.int .i64 5, .int .i64 n, .string nm, .string nt, bv, kv] 41)).cell? ⟨w.heap.size, 3, none⟩ = some (.string nt) := by rw [hB.cell]; rfl
  have q4 : (w.alloc (.cells #[.int .i64 5, .int .i64 n, .string nm, .string nt, bv, kv] 41)).cell? ⟨w.heap.size, 4, none⟩ = some (bv) := by rw [hB.cell]; rfl
  have q5 : (w.alloc (.cells #[.int .i64 5, .int .i64 n, .string nm, .string nt, bv, kv] 41)).cell? ⟨w.heap.size, 5, none⟩ = some (kv) := by rw [hB.cell]; rfl
  clear hb0 hd0 hs0 h hs hf
  simp only [doR, if_neg (show ¬ ((5 : Int) = 1) by decide), if_neg (show ¬ ((5 : Int) = 2) by decide), if_neg (show ¬ ((5 : Int) = 3) by decide), if_neg (show ¬ ((5 : Int) = 4) by decide), if_true]
  have hc := remove_ref HD.out HF.out nm rfl
  have HC := Lib.hid hc
  clear hc
  generalize removeS S (pl R) nm.data.toList = r at HC ⊢
  show Calls Try.prog _ #[.pointer (some ⟨q, 0, none⟩), .agg #[.int .i64 5, .int .i64 n, .string nm, .string nt, bv, kv]] w _
  go_enter Try.func15, Try.ntmps15
  go_wp2_with fail
  refine HC.out.mono ?_
  rintro e w2 ht
  obtain ⟨x, hx⟩ : ∃ x, e = .returned (.int .i64 x) := by obtain ⟨_, _, e1, _⟩ := ht; exact ⟨_, e1⟩
  subst hx
  obtain ⟨rfl, ht2⟩ := RRes.from HB0.out ht
  have HT := Lib.hid ht2
  clear ht ht2 HC
  go_wp2
  go_ret2
  exact HT.out
set_option maxHeartbeats 4000000 in
theorem refDo6 (h : Rd w q v S R) (hf : Fit S (pl R)) (s : St) (hs : StAt w s) (hk : s.kind = 6) :
    Calls Try.prog 15 #[.pointer (some ⟨q, 0, none⟩), .agg s.cs] w (DRes w q v R (doR S (pl R) s)) := by
  have hb0 : Below w.heap.size w (w.alloc (.cells s.cs 41)) := al1 w _
  have hB := Blk.new w 41 s.cs
  obtain ⟨kk, n, nm, nt, b, bv, kp, kv⟩ := s
  simp only [St.cs] at hB hb0 hk
  subst hk
  have hd0 := h.below hb0
  have hs0 := hs.below hb0
  have HD := Lib.hid hd0
  have HS := Lib.hid hs0
  have HB0 := Lib.hid hb0
  have HF := Lib.hid hf
  have q0 : (w.alloc (.cells #[.int .i64 6, .int .i64 n, .string nm, .string nt, bv, kv] 41)).cell? ⟨w.heap.size, 0, none⟩ = some (.int .i64 6) := by rw [hB.cell]; rfl
  have q1 : (w.alloc (.cells #[.int .i64 6, .int .i64 n, .string nm, .string nt, bv, kv] 41)).cell? ⟨w.heap.size, 1, none⟩ = some (.int .i64 n) := by rw [hB.cell]; rfl
  have q2 : (w.alloc (.cells #[.int .i64 6, .int .i64 n, .string nm, .string nt, bv, kv] 41)).cell? ⟨w.heap.size, 2, none⟩ = some (.string nm) := by rw [hB.cell]; rfl
  have q3 : (w.alloc (.cells #[.int .i64 6, .int .i64 n, .string nm, .string nt, bv, kv] 41)).cell? ⟨w.heap.size, 3, none⟩ = some (.string nt) := by rw [hB.cell]; rfl
  have q4 : (w.alloc (.cells #[.int .i64 6, .int .i64 n, .string nm, .string nt, bv, kv] 41)).cell? ⟨w.heap.size, 4, none⟩ = some (bv) := by rw [hB.cell]; rfl
  have q5 : (w.alloc (.cells #[.int .i64 6, .int .i64 n, .string nm, .string nt, bv, kv] 41)).cell? ⟨w.heap.size, 5, none⟩ = some (kv) := by rw [hB.cell]; rfl
  clear hb0 hs0 h hs hf
  simp only [doR, if_neg (show ¬ ((6 : Int) = 1) by decide), if_neg (show ¬ ((6 : Int) = 2) by decide), if_neg (show ¬ ((6 : Int) = 3) by decide), if_neg (show ¬ ((6 : Int) = 4) by decide), if_neg (show ¬ ((6 : Int) = 5) by decide), if_true]
  have c3 := HD.out.c3
  cases hdd : S.dead with
  | true =>
    rw [hdd] at c3
    have E := Lib.hid (show layS S n = S by unfold layS; rw [if_pos hdd])
    clear hdd hd0
    show Calls Try.prog _ #[.pointer (some ⟨q, 0, none⟩), .agg #[.int .i64 6, .int .i64 n, .string nm, .string nt, bv, kv]] w _
    go_enter Try.func15, Try.ntmps15
    go_wp2
    go_ret2
    rw [E.out]
    exact ⟨q, v, R, rfl, HD.out, rfl, Keep.of_below HB0.out, fun i hi => .inl hi⟩
  | false =>
    rw [hdd] at c3
    obtain ⟨T, hT⟩ : ∃ T, layS S n = T := ⟨_, rfl⟩
    have HL := Lib.hid (lay_ref HD.out n (S' := T) (by rw [← hT]; exact (if_neg (show ¬ S.dead = true by rw [hdd]; simp)).symm))
    rw [hT]
    clear hdd hd0 hT
    show Calls Try.prog _ #[.pointer (some ⟨q, 0, none⟩), .agg #[.int .i64 6, .int .i64 n, .string nm, .string nt, bv, kv]] w _
    go_enter Try.func15, Try.ntmps15
    go_wp2_with fail
    refine HL.out.mono ?_
    rintro e w2 ⟨rfl, h2, k2⟩
    have H2 := Lib.hid h2
    have HK2 := Lib.hid (trans_q (Keep.of_below (S := fun i => i = q) HB0.out) k2)
    clear h2 k2 HL
    go_wp2
    go_ret2
    exact ⟨q, v, R, rfl, H2.out, rfl, HK2.out.mono (fun i hi => .inl hi), fun i hi => .inl hi⟩
set_option maxHeartbeats 4000000 in
theorem refDo7 (h : Rd w q v S R) (hf : Fit S (pl R)) (s : St) (hs : StAt w s) (hk : s.kind = 7) :
    Calls Try.prog 15 #[.pointer (some ⟨q, 0, none⟩), .agg s.cs] w (DRes w q v R (doR S (pl R) s)) := by
  have hb0 : Below w.heap.size w (w.alloc (.cells s.cs 41)) := al1 w _
  have hB := Blk.new w 41 s.cs
  obtain ⟨kk, n, nm, nt, b, bv, kp, kv⟩ := s
  simp only [St.cs] at hB hb0 hk
  subst hk
  have hd0 := h.below hb0
  have hs0 := hs.below hb0
  have HD := Lib.hid hd0
  have HS := Lib.hid hs0
  have HB0 := Lib.hid hb0
  have HF := Lib.hid hf
  have q0 : (w.alloc (.cells #[.int .i64 7, .int .i64 n, .string nm, .string nt, bv, kv] 41)).cell? ⟨w.heap.size, 0, none⟩ = some (.int .i64 7) := by rw [hB.cell]; rfl
  have q1 : (w.alloc (.cells #[.int .i64 7, .int .i64 n, .string nm, .string nt, bv, kv] 41)).cell? ⟨w.heap.size, 1, none⟩ = some (.int .i64 n) := by rw [hB.cell]; rfl
  have q2 : (w.alloc (.cells #[.int .i64 7, .int .i64 n, .string nm, .string nt, bv, kv] 41)).cell? ⟨w.heap.size, 2, none⟩ = some (.string nm) := by rw [hB.cell]; rfl
  have q3 : (w.alloc (.cells #[.int .i64 7, .int .i64 n, .string nm, .string nt, bv, kv] 41)).cell? ⟨w.heap.size, 3, none⟩ = some (.string nt) := by rw [hB.cell]; rfl
  have q4 : (w.alloc (.cells #[.int .i64 7, .int .i64 n, .string nm, .string nt, bv, kv] 41)).cell? ⟨w.heap.size, 4, none⟩ = some (bv) := by rw [hB.cell]; rfl
  have q5 : (w.alloc (.cells #[.int .i64 7, .int .i64 n, .string nm, .string nt, bv, kv] 41)).cell? ⟨w.heap.size, 5, none⟩ = some (kv) := by rw [hB.cell]; rfl
  have hsk : SlN w kv kp := hs.k
  obtain ⟨A0, c0, rfl, _, _⟩ := hsk
  clear hb0 hd0 hs0 h hs hf
  simp only [doR, if_neg (show ¬ ((7 : Int) = 1) by decide), if_neg (show ¬ ((7 : Int) = 2) by decide), if_neg (show ¬ ((7 : Int) = 3) by decide), if_neg (show ¬ ((7 : Int) = 4) by decide), if_neg (show ¬ ((7 : Int) = 5) by decide), if_neg (show ¬ ((7 : Int) = 6) by decide), if_true]
  have HC := Lib.hid (refCrash_any HD.out HF.out _ kp HS.out.k)
  show Calls Try.prog _ #[.pointer (some ⟨q, 0, none⟩), .agg #[.int .i64 7, .int .i64 n, .string nm, .string nt, bv, .slice A0 kp.length c0]] w _
  go_enter Try.func15, Try.ntmps15
  go_wp2_with fail
  refine HC.out.mono ?_
  rintro e w2 ⟨q2, v2, R2, rfl, h2, p2, b2, f2, g2, s2⟩
  have H2 := Lib.hid (And.intro h2 (And.intro p2 (And.intro b2 (And.intro f2 (And.intro g2 s2)))))
  clear h2 p2 b2 f2 g2 s2 HC
  go_wp2
  go_ret2
  obtain ⟨h2, p2, b2, f2, g2, s2⟩ := H2.out
  refine ⟨q2, v2, R2, rfl, h2, p2, Keep.of_below (HB0.out.trans (b2.mono HB0.out.size)), ?_⟩
  rintro i (rfl | hi | ⟨f, hf, hi⟩)
  · exact .inr (Nat.le_trans HB0.out.size f2)
  · exact .inr (Nat.le_trans HB0.out.size (g2 i hi))
  · obtain ⟨f', hf', e⟩ := s2 f hf
    exact .inl (.inr (.inr ⟨f', hf', e i hi⟩))
set_option maxHeartbeats 4000000 in
theorem refDo0 (h : Rd w q v S R) (hf : Fit S (pl R)) (s : St) (hs : StAt w s) (hk : ∀ k : Int, 1 ≤ k → k ≤ 7 → s.kind ≠ k) :
    Calls Try.prog 15 #[.pointer (some ⟨q, 0, none⟩), .agg s.cs] w (DRes w q v R (doR S (pl R) s)) := by
  have hb0 : Below w.heap.size w (w.alloc (.cells s.cs 41)) := al1 w _
  have hB := Blk.new w 41 s.cs
  obtain ⟨kk, n, nm, nt, b, bv, kp, kv⟩ := s
  simp only [St.cs] at hB hb0 hk
  have hd0 := h.below hb0
  have hs0 := hs.below hb0
  have HD := Lib.hid hd0
  have HS := Lib.hid hs0
  have HB0 := Lib.hid hb0
  have HF := Lib.hid hf
  have q0 : (w.alloc (.cells #[.int .i64 kk, .int .i64 n, .string nm, .string nt, bv, kv] 41)).cell? ⟨w.heap.size, 0, none⟩ = some (.int .i64 kk) := by rw [hB.cell]; rfl
  have q1 : (w.alloc (.cells #[.int .i64 kk, .int .i64 n, .string nm, .string nt, bv, kv] 41)).cell? ⟨w.heap.size, 1, none⟩ = some (.int .i64 n) := by rw [hB.cell]; rfl
  have q2 : (w.alloc (.cells #[.int .i64 kk, .int .i64 n, .string nm, .string nt, bv, kv] 41)).cell? ⟨w.heap.size, 2, none⟩ = some (.string nm) := by rw [hB.cell]; rfl
  have q3 : (w.alloc (.cells #[.int .i64 kk, .int .i64 n, .string nm, .string nt, bv, kv] 41)).cell? ⟨w.heap.size, 3, none⟩ = some (.string nt) := by rw [hB.cell]; rfl
  have q4 : (w.alloc (.cells #[.int .i64 kk, .int .i64 n, .string nm, .string nt, bv, kv] 41)).cell? ⟨w.heap.size, 4, none⟩ = some (bv) := by rw [hB.cell]; rfl
  have q5 : (w.alloc (.cells #[.int .i64 kk, .int .i64 n, .string nm, .string nt, bv, kv] 41)).cell? ⟨w.heap.size, 5, none⟩ = some (kv) := by rw [hB.cell]; rfl
  have n1 : (kk == 1) = false := beq_eq_false_iff_ne.2 (hk 1 (by decide) (by decide))
  have n2 : (kk == 2) = false := beq_eq_false_iff_ne.2 (hk 2 (by decide) (by decide))
  have n3 : (kk == 3) = false := beq_eq_false_iff_ne.2 (hk 3 (by decide) (by decide))
  have n4 : (kk == 4) = false := beq_eq_false_iff_ne.2 (hk 4 (by decide) (by decide))
  have n5 : (kk == 5) = false := beq_eq_false_iff_ne.2 (hk 5 (by decide) (by decide))
  have n6 : (kk == 6) = false := beq_eq_false_iff_ne.2 (hk 6 (by decide) (by decide))
  have n7 : (kk == 7) = false := beq_eq_false_iff_ne.2 (hk 7 (by decide) (by decide))
  simp only [doR, if_neg (hk 1 (by decide) (by decide)), if_neg (hk 2 (by decide) (by decide)), if_neg (hk 3 (by decide) (by decide)), if_neg (hk 4 (by decide) (by decide)), if_neg (hk 5 (by decide) (by decide)), if_neg (hk 6 (by decide) (by decide)), if_neg (hk 7 (by decide) (by decide))]
  clear hb0 hd0 h hs hf hk hB hs0
  show Calls Try.prog _ #[.pointer (some ⟨q, 0, none⟩), .agg #[.int .i64 kk, .int .i64 n, .string nm, .string nt, bv, kv]] w _
  go_enter Try.func15, Try.ntmps15
  go_wp2
  go_ret2
  exact ⟨q, v, R, rfl, HD.out, rfl, Keep.of_below HB0.out, fun i hi => .inl hi⟩
theorem refDo_any (h : Rd w q v S R) (hf : Fit S (pl R)) (s : St) (hs : StAt w s) :
    Calls Try.prog 15 #[.pointer (some ⟨q, 0, none⟩), .agg s.cs] w (DRes w q v R (doR S (pl R) s)) := by
  by_cases h1 : s.kind = 1
  · exact refDo1 h hf s hs h1
  by_cases h2 : s.kind = 2
  · exact refDo2 h hf s hs h2
  by_cases h3 : s.kind = 3
  · exact refDo3 h hf s hs h3
  by_cases h4 : s.kind = 4
  · exact refDo4 h hf s hs h4
  by_cases h5 : s.kind = 5
  · exact refDo5 h hf s hs h5
  by_cases h6 : s.kind = 6
  · exact refDo6 h hf s hs h6
  by_cases h7 : s.kind = 7
  · exact refDo7 h hf s hs h7
  exact refDo0 h hf s hs (fun k a b e => by omega)
end
end Go.Proofs.Ytdbkhigocjmfoaa

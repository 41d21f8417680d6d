/-
  The law's do: a step, done to a disk.
-/
import Derived.Test.YtdbkhigocjmfoaaDskLawNil
namespace Go.Proofs.Ytdbkhigocjmfoaa
open Go.RowKit Go.Maps Go.Shelf
open DskM
set_option linter.unusedVariables false
set_option linter.unusedSimpArgs false
set_option maxRecDepth 100000

/-- A step, as the laws are handed it. -/
structure St where
  kind : Int
  n : Int
  nm : ByteArray
  nt : ByteArray
  b : List UInt8
  bv : Value
  kp : List Int
  kv : Value
def St.cs (s : St) : Array Value := #[.int .i64 s.kind, .int .i64 s.n, .string s.nm, .string s.nt, s.bv, s.kv]
structure StAt (w : World) (s : St) : Prop where
  b : Sl w s.bv s.b
  k : SlN w s.kv s.kp
  n1 : -9223372036854775808 ≤ s.n
  n2 : s.n ≤ 9223372036854775807
  len : s.b.length ≤ 20000
theorem StAt.below {w w' : World} {s : St} (h : StAt w s) (hb : Below w.heap.size w w') : StAt w' s := ⟨h.b.below hb, h.k.below hb, h.n1, h.n2, h.len⟩
/-- What a step comes to. -/
def doS (S : Ds) (F : List Fp) (s : St) : Int × Ds × List Fp :=
  if s.kind = 1 then appendS S F s.nm.data.toList s.b else
  if s.kind = 2 then syncS S F s.nm.data.toList else
  if s.kind = 3 then cutS S F s.nm.data.toList s.n else
  if s.kind = 4 then renameS S F s.nm.data.toList s.nt.data.toList else
  if s.kind = 5 then removeS S F s.nm.data.toList else
  if s.kind = 6 then (0, fuseS S s.n, F) else
  if s.kind = 7 then (0, ⟨S.cap, -1, false, 0⟩, crashP s.kp F) else (0, S, F)
/-- What stands where d stood, or is new. -/
def TurnP (w : World) (p m : Nat) (L : List Fo) (S' : Ds) (F' : List Fp) (w' : World) (p' : Nat) : Prop :=
  ∃ m' L', plain L' = F' ∧ Dk w' p' m' S' L' ∧ Keep (fun i => Foot p m L i ∨ w.heap.size ≤ i) w w' ∧ ∀ i, Foot p' m' L' i → Foot p m L i ∨ w.heap.size ≤ i
section
variable {w w' W : World} {p m : Nat} {S S' : Ds} {L : List Fo} {F' : List Fp}
theorem TurnP.of (h : Turn w.heap.size W p m L S' F' w') (hb : Below w.heap.size w W) : TurnP w p m L S' F' w' p := by
  obtain ⟨L', a, b, c, d⟩ := h.from hb
  exact ⟨m, L', a, b, c, d⟩
theorem TurnP.thin {B : Nat} (h : Turn B W p m L S' F' w') (hB : w.heap.size ≤ B) : Turn w.heap.size W p m L S' F' w' := by
  obtain ⟨L', a, b, c, d⟩ := h
  exact ⟨L', a, b, c.mono (fun i hi => hi.imp id (fun h => Nat.le_trans hB h)), fun i hi => (d i hi).imp id (fun h => Nat.le_trans hB h)⟩
end
set_option maxHeartbeats 1000000 in
theorem do2 {w : World} {p m : Nat} {S : Ds} {L : List Fo} (h : Dk w p m S L) (hw : S.wr ≤ 1000000) (s : St) (hs : StAt w s) (hk : s.kind = 2) :
    Calls Try.prog 13 #[.pointer (some ⟨p, 0, none⟩), .agg s.cs] w fun e w' => ∃ p', e = .returned (.tuple #[.int .i64 (doS S (plain L) s).1, .pointer (some ⟨p', 0, none⟩)]) ∧ TurnP w p m L (doS S (plain L) s).2.1 (doS S (plain L) s).2.2 w' p' := by
  have hb0 : Below w.heap.size w (w.alloc (.cells s.cs 41)) := al1 w _
  have hB := Blk.new w 41 s.cs
  obtain ⟨kk, n, nm, nt, b, bv, kp, kv⟩ := s
  simp only [St.cs] at hB hb0 hk
  subst hk
  have hd0 := h.below hb0
  have hs0 := hs.below hb0
  have HD := Lib.hid hd0
  have HS := Lib.hid hs0
  have HB0 := Lib.hid hb0
  have HW := Lib.hid hw
  have q0 : (w.alloc (.cells #[.int .i64 2, .int .i64 n, .string nm, .string nt, bv, kv] 41)).cell? ⟨w.heap.size, 0, none⟩ = some (.int .i64 2) := by rw [hB.cell]; rfl
  have q1 : (w.alloc (.cells #[.int .i64 2, .int .i64 n, .string nm, .string nt, bv, kv] 41)).cell? ⟨w.heap.size, 1, none⟩ = some (.int .i64 n) := by rw [hB.cell]; rfl
  have q2 : (w.alloc (.cells #[.int .i64 2, .int .i64 n, .string nm, .string nt, bv, kv] 41)).cell? ⟨w.heap.size, 2, none⟩ = some (.string nm) := by rw [hB.cell]; rfl
  have q3 : (w.alloc (.cells #[.int .i64 2, .int .i64 n, .string nm, .string nt, bv, kv] 41)).cell? ⟨w.heap.size, 3, none⟩ = some (.string nt) := by rw [hB.cell]; rfl
  have q4 : (w.alloc (.cells #[.int .i64 2, .int .i64 n, .string nm, .string nt, bv, kv] 41)).cell? ⟨w.heap.size, 4, none⟩ = some bv := by rw [hB.cell]; rfl
  have q5 : (w.alloc (.cells #[.int .i64 2, .int .i64 n, .string nm, .string nt, bv, kv] 41)).cell? ⟨w.heap.size, 5, none⟩ = some kv := by rw [hB.cell]; rfl
  clear hb0 hd0 hs0 h hs hw
  simp only [doS, if_neg (show ¬ ((2 : Int) = 1) by decide), if_true]
  have hc := sync_any HD.out HW.out nm
  have HC := Lib.hid hc
  clear hc
  generalize syncS S (plain L) nm.data.toList = r at HC ⊢
  show Calls Try.prog _ #[.pointer (some ⟨p, 0, none⟩), .agg #[.int .i64 2, .int .i64 n, .string nm, .string nt, bv, kv]] w _
  go_enter Try.func13, Try.ntmps13
  go_wp2_with fail
  refine HC.out.mono ?_
  rintro e w2 ⟨rfl, ht⟩
  have HT := Lib.hid ht
  clear ht HC
  go_wp2_with fail
  refine (num_any r.1 w2).mono ?_
  rintro e wx ⟨rfl, hwx⟩
  rw [hwx]
  clear hwx wx
  go_wp2
  go_ret2
  exact ⟨p, rfl, TurnP.of (TurnP.thin HT.out HB0.out.size) HB0.out⟩
set_option maxHeartbeats 1000000 in
theorem do3 {w : World} {p m : Nat} {S : Ds} {L : List Fo} (h : Dk w p m S L) (hw : S.wr ≤ 1000000) (s : St) (hs : StAt w s) (hk : s.kind = 3) :
    Calls Try.prog 13 #[.pointer (some ⟨p, 0, none⟩), .agg s.cs] w fun e w' => ∃ p', e = .returned (.tuple #[.int .i64 (doS S (plain L) s).1, .pointer (some ⟨p', 0, none⟩)]) ∧ TurnP w p m L (doS S (plain L) s).2.1 (doS S (plain L) s).2.2 w' p' := by
  have hb0 : Below w.heap.size w (w.alloc (.cells s.cs 41)) := al1 w _
  have hB := Blk.new w 41 s.cs
  obtain ⟨kk, n, nm, nt, b, bv, kp, kv⟩ := s
  simp only [St.cs] at hB hb0 hk
  subst hk
  have hd0 := h.below hb0
  have hs0 := hs.below hb0
  have HD := Lib.hid hd0
  have HS := Lib.hid hs0
  have HB0 := Lib.hid hb0
  have HW := Lib.hid hw
  have q0 : (w.alloc (.cells #[.int .i64 3, .int .i64 n, .string nm, .string nt, bv, kv] 41)).cell? ⟨w.heap.size, 0, none⟩ = some (.int .i64 3) := by rw [hB.cell]; rfl
  have q1 : (w.alloc (.cells #[.int .i64 3, .int .i64 n, .string nm, .string nt, bv, kv] 41)).cell? ⟨w.heap.size, 1, none⟩ = some (.int .i64 n) := by rw [hB.cell]; rfl
  have q2 : (w.alloc (.cells #[.int .i64 3, .int .i64 n, .string nm, .string nt, bv, kv] 41)).cell? ⟨w.heap.size, 2, none⟩ = some (.string nm) := by rw [hB.cell]; rfl
  have q3 : (w.alloc (.cells #[.int .i64 3, .int .i64 n, .string nm, .string nt, bv, kv] 41)).cell? ⟨w.heap.size, 3, none⟩ = some (.string nt) := by rw [hB.cell]; rfl
  have q4 : (w.alloc (.cells #[.int .i64 3, .int .i64 n, .string nm, .string nt, bv, kv] 41)).cell? ⟨w.heap.size, 4, none⟩ = some bv := by rw [hB.cell]; rfl
  have q5 : (w.alloc (.cells #[.int .i64 3, .int .i64 n, .string nm, .string nt, bv, kv] 41)).cell? ⟨w.heap.size, 5, none⟩ = some kv := by rw [hB.cell]; rfl
  clear hb0 hd0 hs0 h hs hw
  simp only [doS, if_neg (show ¬ ((3 : Int) = 1) by decide), if_neg (show ¬ ((3 : Int) = 2) by decide), if_true]
  have hc := cut_any HD.out HW.out nm n
  have HC := Lib.hid hc
  clear hc
  generalize cutS S (plain L) nm.data.toList n = r at HC ⊢
  show Calls Try.prog _ #[.pointer (some ⟨p, 0, none⟩), .agg #[.int .i64 3, .int .i64 n, .string nm, .string nt, bv, kv]] w _
  go_enter Try.func13, Try.ntmps13
  go_wp2_with fail
  refine HC.out.mono ?_
  rintro e w2 ⟨rfl, ht⟩
  have HT := Lib.hid ht
  clear ht HC
  go_wp2_with fail
  refine (num_any r.1 w2).mono ?_
  rintro e wx ⟨rfl, hwx⟩
  rw [hwx]
  clear hwx wx
  go_wp2
  go_ret2
  exact ⟨p, rfl, TurnP.of (TurnP.thin HT.out HB0.out.size) HB0.out⟩
set_option maxHeartbeats 1000000 in
theorem do4 {w : World} {p m : Nat} {S : Ds} {L : List Fo} (h : Dk w p m S L) (hw : S.wr ≤ 1000000) (s : St) (hs : StAt w s) (hk : s.kind = 4) :
    Calls Try.prog 13 #[.pointer (some ⟨p, 0, none⟩), .agg s.cs] w fun e w' => ∃ p', e = .returned (.tuple #[.int .i64 (doS S (plain L) s).1, .pointer (some ⟨p', 0, none⟩)]) ∧ TurnP w p m L (doS S (plain L) s).2.1 (doS S (plain L) s).2.2 w' p' := by
  have hb0 : Below w.heap.size w (w.alloc (.cells s.cs 41)) := al1 w _
  have hB := Blk.new w 41 s.cs
  obtain ⟨kk, n, nm, nt, b, bv, kp, kv⟩ := s
  simp only [St.cs] at hB hb0 hk
  subst hk
  have hd0 := h.below hb0
  have hs0 := hs.below hb0
  have HD := Lib.hid hd0
  have HS := Lib.hid hs0
  have HB0 := Lib.hid hb0
  have HW := Lib.hid hw
  have q0 : (w.alloc (.cells #[.int .i64 4, .int .i64 n, .string nm, .string nt, bv, kv] 41)).cell? ⟨w.heap.size, 0, none⟩ = some (.int .i64 4) := by rw [hB.cell]; rfl
  have q1 : (w.alloc (.cells #[.int .i64 4, .int .i64 n, .string nm, .string nt, bv, kv] 41)).cell? ⟨w.heap.size, 1, none⟩ = some (.int .i64 n) := by rw [hB.cell]; rfl
  have q2 : (w.alloc (.cells #[.int .i64 4, .int .i64 n, .string nm, .string nt, bv, kv] 41)).cell? ⟨w.heap.size, 2, none⟩ = some (.string nm) := by rw [hB.cell]; rfl
  have q3 : (w.alloc (.cells #[.int .i64 4, .int .i64 n, .string nm, .string nt, bv, kv] 41)).cell? ⟨w.heap.size, 3, none⟩ = some (.string nt) := by rw [hB.cell]; rfl
  have q4 : (w.alloc (.cells #[.int .i64 4, .int .i64 n, .string nm, .string nt, bv, kv] 41)).cell? ⟨w.heap.size, 4, none⟩ = some bv := by rw [hB.cell]; rfl
  have q5 : (w.alloc (.cells #[.int .i64 4, .int .i64 n, .string nm, .string nt, bv, kv] 41)).cell? ⟨w.heap.size, 5, none⟩ = some kv := by rw [hB.cell]; rfl
  clear hb0 hd0 hs0 h hs hw
  simp only [doS, if_neg (show ¬ ((4 : Int) = 1) by decide), if_neg (show ¬ ((4 : Int) = 2) by decide), if_neg (show ¬ ((4 : Int) = 3) by decide), if_true]
  have hc := rename_any HD.out HW.out nm nt
  have HC := Lib.hid hc
  clear hc
  generalize renameS S (plain L) nm.data.toList nt.data.toList = r at HC ⊢
  show Calls Try.prog _ #[.pointer (some ⟨p, 0, none⟩), .agg #[.int .i64 4, .int .i64 n, .string nm, .string nt, bv, kv]] w _
  go_enter Try.func13, Try.ntmps13
  go_wp2_with fail
  refine HC.out.mono ?_
  rintro e w2 ⟨rfl, ht⟩
  have HT := Lib.hid ht
  clear ht HC
  go_wp2_with fail
  refine (num_any r.1 w2).mono ?_
  rintro e wx ⟨rfl, hwx⟩
  rw [hwx]
  clear hwx wx
  go_wp2
  go_ret2
  exact ⟨p, rfl, TurnP.of (TurnP.thin HT.out HB0.out.size) HB0.out⟩
set_option maxHeartbeats 1000000 in
theorem do5 {w : World} {p m : Nat} {S : Ds} {L : List Fo} (h : Dk w p m S L) (hw : S.wr ≤ 1000000) (s : St) (hs : StAt w s) (hk : s.kind = 5) :
    Calls Try.prog 13 #[.pointer (some ⟨p, 0, none⟩), .agg s.cs] w fun e w' => ∃ p', e = .returned (.tuple #[.int .i64 (doS S (plain L) s).1, .pointer (some ⟨p', 0, none⟩)]) ∧ TurnP w p m L (doS S (plain L) s).2.1 (doS S (plain L) s).2.2 w' p' := by
  have hb0 : Below w.heap.size w (w.alloc (.cells s.cs 41)) := al1 w _
  have hB := Blk.new w 41 s.cs
  obtain ⟨kk, n, nm, nt, b, bv, kp, kv⟩ := s
  simp only [St.cs] at hB hb0 hk
  subst hk
  have hd0 := h.below hb0
  have hs0 := hs.below hb0
  have HD := Lib.hid hd0
  have HS := Lib.hid hs0
  have HB0 := Lib.hid hb0
  have HW := Lib.hid hw
  have q0 : (w.alloc (.cells #[.int .i64 5, .int .i64 n, .string nm, .string nt, bv, kv] 41)).cell? ⟨w.heap.size, 0, none⟩ = some (.int .i64 5) := by rw [hB.cell]; rfl
  have q1 : (w.alloc (.cells #[.int .i64 5, .int .i64 n, .string nm, .string nt, bv, kv] 41)).cell? ⟨w.heap.size, 1, none⟩ = some (.int .i64 n) := by rw [hB.cell]; rfl
  have q2 : (w.alloc (.cells #[.int .i64 5, .int .i64 n, .string nm, .string nt, bv, kv] 41)).cell? ⟨w.heap.size, 2, none⟩ = some (.string nm) := by rw [hB.cell]; rfl
  have q3 : (w.alloc (.cells #[.int .i64 5, .int .i64 n, .string nm, .string nt, bv, kv] 41)).cell? ⟨w.heap.size, 3, none⟩ = some (.string nt) := by rw [hB.cell]; rfl
  have q4 : (w.alloc (.cells #[.int .i64 5, .int .i64 n, .string nm, .string nt, bv, kv] 41)).cell? ⟨w.heap.size, 4, none⟩ = some bv := by rw [hB.cell]; rfl
  have q5 : (w.alloc (.cells #[.int .i64 5, .int .i64 n, .string nm, .string nt, bv, kv] 41)).cell? ⟨w.heap.size, 5, none⟩ = some kv := by rw [hB.cell]; rfl
  clear hb0 hd0 hs0 h hs hw
  simp only [doS, if_neg (show ¬ ((5 : Int) = 1) by decide), if_neg (show ¬ ((5 : Int) = 2) by decide), if_neg (show ¬ ((5 : Int) = 3) by decide), if_neg (show ¬ ((5 : Int) = 4) by decide), if_true]
  have hc := remove_any HD.out HW.out nm
  have HC := Lib.hid hc
  clear hc
  generalize removeS S (plain L) nm.data.toList = r at HC ⊢
  show Calls Try.prog _ #[.pointer (some ⟨p, 0, none⟩), .agg #[.int .i64 5, .int .i64 n, .string nm, .string nt, bv, kv]] w _
  go_enter Try.func13, Try.ntmps13
  go_wp2_with fail
  refine HC.out.mono ?_
  rintro e w2 ⟨rfl, ht⟩
  have HT := Lib.hid ht
  clear ht HC
  go_wp2_with fail
  refine (num_any r.1 w2).mono ?_
  rintro e wx ⟨rfl, hwx⟩
  rw [hwx]
  clear hwx wx
  go_wp2
  go_ret2
  exact ⟨p, rfl, TurnP.of (TurnP.thin HT.out HB0.out.size) HB0.out⟩
set_option maxHeartbeats 1000000 in
theorem do6 {w : World} {p m : Nat} {S : Ds} {L : List Fo} (h : Dk w p m S L) (hw : S.wr ≤ 1000000) (s : St) (hs : StAt w s) (hk : s.kind = 6) :
    Calls Try.prog 13 #[.pointer (some ⟨p, 0, none⟩), .agg s.cs] w fun e w' => ∃ p', e = .returned (.tuple #[.int .i64 (doS S (plain L) s).1, .pointer (some ⟨p', 0, none⟩)]) ∧ TurnP w p m L (doS S (plain L) s).2.1 (doS S (plain L) s).2.2 w' p' := by
  have hb0 : Below w.heap.size w (w.alloc (.cells s.cs 41)) := al1 w _
  have hB := Blk.new w 41 s.cs
  obtain ⟨kk, n, nm, nt, b, bv, kp, kv⟩ := s
  simp only [St.cs] at hB hb0 hk
  subst hk
  have hd0 := h.below hb0
  have hs0 := hs.below hb0
  have HD := Lib.hid hd0
  have HS := Lib.hid hs0
  have HB0 := Lib.hid hb0
  have HW := Lib.hid hw
  have q0 : (w.alloc (.cells #[.int .i64 6, .int .i64 n, .string nm, .string nt, bv, kv] 41)).cell? ⟨w.heap.size, 0, none⟩ = some (.int .i64 6) := by rw [hB.cell]; rfl
  have q1 : (w.alloc (.cells #[.int .i64 6, .int .i64 n, .string nm, .string nt, bv, kv] 41)).cell? ⟨w.heap.size, 1, none⟩ = some (.int .i64 n) := by rw [hB.cell]; rfl
  have q2 : (w.alloc (.cells #[.int .i64 6, .int .i64 n, .string nm, .string nt, bv, kv] 41)).cell? ⟨w.heap.size, 2, none⟩ = some (.string nm) := by rw [hB.cell]; rfl
  have q3 : (w.alloc (.cells #[.int .i64 6, .int .i64 n, .string nm, .string nt, bv, kv] 41)).cell? ⟨w.heap.size, 3, none⟩ = some (.string nt) := by rw [hB.cell]; rfl
  have q4 : (w.alloc (.cells #[.int .i64 6, .int .i64 n, .string nm, .string nt, bv, kv] 41)).cell? ⟨w.heap.size, 4, none⟩ = some bv := by rw [hB.cell]; rfl
  have q5 : (w.alloc (.cells #[.int .i64 6, .int .i64 n, .string nm, .string nt, bv, kv] 41)).cell? ⟨w.heap.size, 5, none⟩ = some kv := by rw [hB.cell]; rfl
  clear hb0 hd0 hs0 h hs hw
  show Calls Try.prog _ #[.pointer (some ⟨p, 0, none⟩), .agg #[.int .i64 6, .int .i64 n, .string nm, .string nt, bv, kv]] w _
  go_enter Try.func13, Try.ntmps13
  simp only [doS, if_neg (show ¬ ((6 : Int) = 1) by decide), if_neg (show ¬ ((6 : Int) = 2) by decide), if_neg (show ¬ ((6 : Int) = 3) by decide), if_neg (show ¬ ((6 : Int) = 4) by decide), if_neg (show ¬ ((6 : Int) = 5) by decide), if_true]
  have hc := fuse_any HD.out n HS.out.n1 HS.out.n2
  have HC := Lib.hid hc
  clear hc
  go_wp2_with fail
  refine HC.out.mono ?_
  rintro e w2 ⟨rfl, hd, hk, hz⟩
  have HT := Lib.hid (And.intro hd (And.intro hk hz))
  clear hd hk hz HC
  go_wp2
  go_ret2
  refine ⟨p, rfl, m, L, rfl, HT.out.1, ?_, fun i hi => .inl hi⟩
  exact (Keep.of_below (S := fun i => Foot p m L i ∨ w.heap.size ≤ i) HB0.out).trans HT.out.2.1 (fun _ h => h) (fun i _ e => .inl (.inl e))
set_option maxHeartbeats 1000000 in
theorem do7 {w : World} {p m : Nat} {S : Ds} {L : List Fo} (h : Dk w p m S L) (hw : S.wr ≤ 1000000) (s : St) (hs : StAt w s) (hk : s.kind = 7) :
    Calls Try.prog 13 #[.pointer (some ⟨p, 0, none⟩), .agg s.cs] w fun e w' => ∃ p', e = .returned (.tuple #[.int .i64 (doS S (plain L) s).1, .pointer (some ⟨p', 0, none⟩)]) ∧ TurnP w p m L (doS S (plain L) s).2.1 (doS S (plain L) s).2.2 w' p' := by
  have hb0 : Below w.heap.size w (w.alloc (.cells s.cs 41)) := al1 w _
  have hB := Blk.new w 41 s.cs
  obtain ⟨kk, n, nm, nt, b, bv, kp, kv⟩ := s
  simp only [St.cs] at hB hb0 hk
  subst hk
  have hd0 := h.below hb0
  have hs0 := hs.below hb0
  have HD := Lib.hid hd0
  have HS := Lib.hid hs0
  have HB0 := Lib.hid hb0
  have HW := Lib.hid hw
  have q0 : (w.alloc (.cells #[.int .i64 7, .int .i64 n, .string nm, .string nt, bv, kv] 41)).cell? ⟨w.heap.size, 0, none⟩ = some (.int .i64 7) := by rw [hB.cell]; rfl
  have q1 : (w.alloc (.cells #[.int .i64 7, .int .i64 n, .string nm, .string nt, bv, kv] 41)).cell? ⟨w.heap.size, 1, none⟩ = some (.int .i64 n) := by rw [hB.cell]; rfl
  have q2 : (w.alloc (.cells #[.int .i64 7, .int .i64 n, .string nm, .string nt, bv, kv] 41)).cell? ⟨w.heap.size, 2, none⟩ = some (.string nm) := by rw [hB.cell]; rfl
  have q3 : (w.alloc (.cells #[.int .i64 7, .int .i64 n, .string nm, .string nt, bv, kv] 41)).cell? ⟨w.heap.size, 3, none⟩ = some (.string nt) := by rw [hB.cell]; rfl
  have q4 : (w.alloc (.cells #[.int .i64 7, .int .i64 n, .string nm, .string nt, bv, kv] 41)).cell? ⟨w.heap.size, 4, none⟩ = some bv := by rw [hB.cell]; rfl
  have q5 : (w.alloc (.cells #[.int .i64 7, .int .i64 n, .string nm, .string nt, bv, kv] 41)).cell? ⟨w.heap.size, 5, none⟩ = some kv := by rw [hB.cell]; rfl
  clear hb0 hd0 hs0 h hs hw
  show Calls Try.prog _ #[.pointer (some ⟨p, 0, none⟩), .agg #[.int .i64 7, .int .i64 n, .string nm, .string nt, bv, kv]] w _
  go_enter Try.func13, Try.ntmps13
  simp only [doS, if_neg (show ¬ ((7 : Int) = 1) by decide), if_neg (show ¬ ((7 : Int) = 2) by decide), if_neg (show ¬ ((7 : Int) = 3) by decide), if_neg (show ¬ ((7 : Int) = 4) by decide), if_neg (show ¬ ((7 : Int) = 5) by decide), if_neg (show ¬ ((7 : Int) = 6) by decide), if_true]
  have hc := crash_any HD.out kp kv HS.out.k
  have HC := Lib.hid hc
  clear hc
  go_wp2_with fail
  refine HC.out.mono ?_
  rintro e w2 ⟨p', m', L', rfl, e1, hd, hf, hb⟩
  have HT := Lib.hid (And.intro e1 (And.intro hd (And.intro hf hb)))
  clear e1 hd hf hb HC
  go_wp2
  go_ret2
  refine ⟨p', rfl, m', L', HT.out.1, HT.out.2.1, ?_, fun i hi => .inr (Nat.le_trans HB0.out.size (HT.out.2.2.1 i hi))⟩
  exact Keep.of_below (HB0.out.trans (HT.out.2.2.2.mono HB0.out.size))
set_option maxHeartbeats 1000000 in
theorem do0 {w : World} {p m : Nat} {S : Ds} {L : List Fo} (h : Dk w p m S L) (hw : S.wr ≤ 1000000) (s : St) (hs : StAt w s) (hk : ∀ k : Int, 1 ≤ k → k ≤ 7 → s.kind ≠ k) :
    Calls Try.prog 13 #[.pointer (some ⟨p, 0, none⟩), .agg s.cs] w fun e w' => ∃ p', e = .returned (.tuple #[.int .i64 (doS S (plain L) s).1, .pointer (some ⟨p', 0, none⟩)]) ∧ TurnP w p m L (doS S (plain L) s).2.1 (doS S (plain L) s).2.2 w' p' := by
  have hb0 : Below w.heap.size w (w.alloc (.cells s.cs 41)) := al1 w _
  have hB := Blk.new w 41 s.cs
  obtain ⟨kk, n, nm, nt, b, bv, kp, kv⟩ := s
  simp only [St.cs] at hB hb0 hk
  have hd0 := h.below hb0
  have HD := Lib.hid hd0
  have HB0 := Lib.hid hb0
  have q0 : (w.alloc (.cells #[.int .i64 kk, .int .i64 n, .string nm, .string nt, bv, kv] 41)).cell? ⟨w.heap.size, 0, none⟩ = some (.int .i64 kk) := by rw [hB.cell]; rfl
  have n1 : (kk == 1) = false := beq_eq_false_iff_ne.2 (hk 1 (by decide) (by decide))
  have n2 : (kk == 2) = false := beq_eq_false_iff_ne.2 (hk 2 (by decide) (by decide))
  have n3 : (kk == 3) = false := beq_eq_false_iff_ne.2 (hk 3 (by decide) (by decide))
  have n4 : (kk == 4) = false := beq_eq_false_iff_ne.2 (hk 4 (by decide) (by decide))
  have n5 : (kk == 5) = false := beq_eq_false_iff_ne.2 (hk 5 (by decide) (by decide))
  have n6 : (kk == 6) = false := beq_eq_false_iff_ne.2 (hk 6 (by decide) (by decide))
  have n7 : (kk == 7) = false := beq_eq_false_iff_ne.2 (hk 7 (by decide) (by decide))
  simp only [doS, if_neg (hk 1 (by decide) (by decide)), if_neg (hk 2 (by decide) (by decide)), if_neg (hk 3 (by decide) (by decide)), if_neg (hk 4 (by decide) (by decide)), if_neg (hk 5 (by decide) (by decide)), if_neg (hk 6 (by decide) (by decide)), if_neg (hk 7 (by decide) (by decide))]
  clear hb0 hd0 h hs hw hk hB
  show Calls Try.prog _ #[.pointer (some ⟨p, 0, none⟩), .agg #[.int .i64 kk, .int .i64 n, .string nm, .string nt, bv, kv]] w _
  go_enter Try.func13, Try.ntmps13
  go_wp2
  go_ret2
  exact ⟨p, rfl, m, L, rfl, HD.out, Keep.of_below HB0.out, fun i hi => .inl hi⟩
end Go.Proofs.Ytdbkhigocjmfoaa

/-
  A disk of the law's own, plainly: its numbers and its files; each call's contract in these words.
-/
import Derived.Test.YtibifnknkphanaaGreatDoorDskSameNo
namespace Go.Proofs.YtibifnknkphanaaGreatDoor
open Go.RowKit Go.Maps Go.Shelf
open DskM
set_option linter.unusedVariables false
set_option linter.unusedSimpArgs false
set_option maxRecDepth 20000

/-- At p a disk stands that was made behind B: these are its numbers and its files. -/
def My (B : Nat) (W : World) (p : Nat) (S : Ds) (F : List Fp) : Prop := ∃ m L, plain L = F ∧ Dk W p m S L ∧ ∀ i, Foot p m L i → B ≤ i
section
variable {B : Nat} {w W W' : World} {p : Nat} {S S' : Ds} {F F' : List Fp}
theorem My.below (h : My B W p S F) (hb : Below W.heap.size W W') : My B W' p S F := by
  obtain ⟨m, L, e, hd, hf⟩ := h
  exact ⟨m, L, e, hd.below hb, hf⟩
theorem My.mono (h : My B W p S F) {A : Nat} (hA : A ≤ B) : My A W p S F := by
  obtain ⟨m, L, e, hd, hf⟩ := h
  exact ⟨m, L, e, hd, fun i hi => Nat.le_trans hA (hf i hi)⟩
theorem My.lt (h : My B W p S F) : p < W.heap.size := by
  obtain ⟨m, L, e, hd, hf⟩ := h
  exact hd.blk.lt
theorem My.grown (h : My B W p S F) (hB : B ≤ W.heap.size) {r : Int × Ds × List Fp} {R : Ending → World → Prop}
    {f : FuncId} {args : Array Value} (hc : ∀ m L, plain L = F → Dk W p m S L → Calls Tryz.prog f args W (Res W p m L r)) :
    Calls Tryz.prog f args W fun e W' => e = .returned (.int .i64 r.1) ∧ My B W' p r.2.1 r.2.2 ∧ Below B W W' := by
  obtain ⟨m, L, e, hd, hf⟩ := h
  refine (hc m L e hd).mono ?_
  rintro e' W' ⟨rfl, L', e2, hd', hk, hf'⟩
  exact ⟨rfl, ⟨m, L', e2, hd', fun i hi => (hf' i hi).elim (hf i) (fun h => Nat.le_trans hB h)⟩, Keep.below (Below.refl B W) hk hB (fun i hi => hi.elim (hf i) (fun h => Nat.le_trans hB h))⟩
theorem my_append (h : My B W p S F) (hB : B ≤ W.heap.size) (hw : S.wr ≤ 1000000) (s : ByteArray) (vb : Value) (b : List UInt8) (hs : Sl W vb b) {r : Int × Ds × List Fp} (hr : appendS S F s.data.toList b = r) :
    Calls Tryz.prog 30 #[.pointer (some ⟨p, 0, none⟩), .string s, vb] W fun e W' => e = .returned (.int .i64 r.1) ∧ My B W' p r.2.1 r.2.2 ∧ Below B W W' :=
  h.grown hB (R := fun _ _ => True) (fun m L e hd => by rw [← hr, ← e]; exact append_any hd hw s vb b hs)
theorem my_sync (h : My B W p S F) (hB : B ≤ W.heap.size) (hw : S.wr ≤ 1000000) (s : ByteArray) {r : Int × Ds × List Fp} (hr : syncS S F s.data.toList = r) :
    Calls Tryz.prog 63 #[.pointer (some ⟨p, 0, none⟩), .string s] W fun e W' => e = .returned (.int .i64 r.1) ∧ My B W' p r.2.1 r.2.2 ∧ Below B W W' :=
  h.grown hB (R := fun _ _ => True) (fun m L e hd => by rw [← hr, ← e]; exact sync_any hd hw s)
theorem my_remove (h : My B W p S F) (hB : B ≤ W.heap.size) (hw : S.wr ≤ 1000000) (s : ByteArray) {r : Int × Ds × List Fp} (hr : removeS S F s.data.toList = r) :
    Calls Tryz.prog 85 #[.pointer (some ⟨p, 0, none⟩), .string s] W fun e W' => e = .returned (.int .i64 r.1) ∧ My B W' p r.2.1 r.2.2 ∧ Below B W W' :=
  h.grown hB (R := fun _ _ => True) (fun m L e hd => by rw [← hr, ← e]; exact remove_any hd hw s)
theorem my_cut (h : My B W p S F) (hB : B ≤ W.heap.size) (hw : S.wr ≤ 1000000) (s : ByteArray) (n : Int) {r : Int × Ds × List Fp} (hr : cutS S F s.data.toList n = r) :
    Calls Tryz.prog 135 #[.pointer (some ⟨p, 0, none⟩), .string s, .int .i64 n] W fun e W' => e = .returned (.int .i64 r.1) ∧ My B W' p r.2.1 r.2.2 ∧ Below B W W' :=
  h.grown hB (R := fun _ _ => True) (fun m L e hd => by rw [← hr, ← e]; exact cut_any hd hw s n)
theorem my_fuse (h : My B W p S F) (hB : B ≤ W.heap.size) (n : Int) (h1 : -9223372036854775808 ≤ n) (h2 : n ≤ 9223372036854775807) :
    Calls Tryz.prog 18 #[.pointer (some ⟨p, 0, none⟩), .int .i64 n] W fun e W' => e = .returned (.tuple #[]) ∧ My B W' p (fuseS S n) F ∧ Below B W W' := by
  obtain ⟨m, L, e, hd, hf⟩ := h
  refine (fuse_any hd n h1 h2).mono ?_
  rintro e' W' ⟨rfl, hd', hk, _⟩
  exact ⟨rfl, ⟨m, L, e, hd', hf⟩, Keep.below (Below.refl B W) hk hB (fun i hi => hf i (.inl hi))⟩
theorem my_read (h : My B W p S F) (s : ByteArray) :
    Calls Tryz.prog 37 #[.pointer (some ⟨p, 0, none⟩), .string s] W fun e W' => ∃ v, e = .returned (.tuple #[v, .int .i64 (readE F s.data.toList)]) ∧ Own W' W.heap.size 5 v (bytesP F s.data.toList) ∧ Below W.heap.size W W' := by
  obtain ⟨m, L, e, hd, hf⟩ := h
  rw [← e]
  exact dread_any hd s
theorem my_lasts (h : My B W p S F) (s : ByteArray) :
    Calls Tryz.prog 38 #[.pointer (some ⟨p, 0, none⟩), .string s] W fun e W' => e = .returned (.tuple #[.int .i64 (lastsP F s.data.toList : Int), .int .i64 (readE F s.data.toList)]) ∧ Below W.heap.size W W' := by
  obtain ⟨m, L, e, hd, hf⟩ := h
  rw [← e]
  exact lasts_any hd s
theorem my_read_is (h : My B W p S F) (s : ByteArray) {r : Int} {b : List UInt8} (hr : readE F s.data.toList = r) (hb : bytesP F s.data.toList = b) :
    Calls Tryz.prog 37 #[.pointer (some ⟨p, 0, none⟩), .string s] W fun e W' => ∃ A c, e = .returned (.tuple #[.slice A b.length c, .int .i64 r]) ∧ Sl W' (.slice A b.length c) b ∧ Below W.heap.size W W' := by
  subst hr hb
  refine (my_read h s).mono ?_
  rintro e W' ⟨v, rfl, ho, hb⟩
  obtain ⟨A, n, c, rfl⟩ := ho.shape
  have hs := ho.sl
  obtain rfl := hs.len
  exact ⟨A, c, rfl, hs, hb⟩
theorem my_lasts_is (h : My B W p S F) (s : ByteArray) {r : Int} {n : Nat} (hr : readE F s.data.toList = r) (hn : lastsP F s.data.toList = n) :
    Calls Tryz.prog 38 #[.pointer (some ⟨p, 0, none⟩), .string s] W fun e W' => e = .returned (.tuple #[.int .i64 (n : Int), .int .i64 r]) ∧ Below W.heap.size W W' := by
  subst hr hn
  exact my_lasts h s
theorem my_room (h : My B W p S F) : Calls Tryz.prog 71 #[.pointer (some ⟨p, 0, none⟩)] W fun e W' => e = .returned (.int .i64 ((S.cap : Int) - (totalP F : Int))) ∧ Below W.heap.size W W' := by
  obtain ⟨m, L, e, hd, hf⟩ := h
  rw [← e, total_plain]
  exact room_any hd
theorem my_dead (h : My B W p S F) : Calls Tryz.prog 19 #[.pointer (some ⟨p, 0, none⟩)] W fun e W' => e = .returned (.bool S.dead) ∧ W' = W := by
  obtain ⟨m, L, e, hd, hf⟩ := h
  exact dead_any hd
theorem my_crash (h : My B W p S F) (keep : List Int) (kv : Value) (hk : SlN W kv keep) :
    Calls Tryz.prog 23 #[.pointer (some ⟨p, 0, none⟩), kv] W fun e W' => ∃ p', e = .returned (.pointer (some ⟨p', 0, none⟩)) ∧ My W.heap.size W' p' ⟨S.cap, -1, false, 0⟩ (crashP keep F) ∧ Below W.heap.size W W' := by
  obtain ⟨m, L, e, hd, hf⟩ := h
  refine (crash_any hd keep kv hk).mono ?_
  rintro e' W' ⟨p', m', L', rfl, e2, hd', hf', hb⟩
  exact ⟨p', rfl, ⟨m', L', by rw [e2, e], hd', hf'⟩, hb⟩
theorem my_new (c : Nat) (w : World) (h1 : 1 ≤ c) (h2 : c ≤ 16777216) :
    Calls Tryz.prog 16 #[.int .i64 (c : Int)] w fun e w' => ∃ p, e = .returned (.tuple #[.pointer (some ⟨p, 0, none⟩), .int .i64 0]) ∧ My w.heap.size w' p ⟨c, -1, false, 0⟩ [] ∧ Below w.heap.size w w' := by
  refine (new_any c w h1 h2).mono ?_
  rintro e w' ⟨p, m, rfl, hd, hf, hb⟩
  exact ⟨p, rfl, ⟨m, [], rfl, hd, hf⟩, hb⟩
end
end Go.Proofs.YtibifnknkphanaaGreatDoor

namespace Go.Proofs.YtibifnknkphanaaGreatDoor
open Go.RowKit Go.Maps Go.Shelf
open DskM
set_option linter.unusedVariables false
set_option linter.unusedSimpArgs false
set_option maxRecDepth 20000

/-- At p a disk stands, all of whose blocks are among A. -/
def Mx (A : Nat → Prop) (W : World) (p : Nat) (S : Ds) (F : List Fp) : Prop := ∃ m L, plain L = F ∧ Dk W p m S L ∧ ∀ i, Foot p m L i → A i
section
variable {A : Nat → Prop} {w W W' : World} {p : Nat} {S S' : Ds} {F F' : List Fp}
theorem Mx.kept {T : Nat → Prop} (h : Mx A W p S F) (k : Keep T W W') (hT : ∀ i, A i → ¬ T i) : Mx A W' p S F := by
  obtain ⟨m, L, e, hd, hf⟩ := h
  exact ⟨m, L, e, hd.kept k (fun i hi => hT i (hf i hi)), hf⟩
theorem Mx.below (h : Mx A W p S F) (hb : Below W.heap.size W W') : Mx A W' p S F := by
  obtain ⟨m, L, e, hd, hf⟩ := h
  exact ⟨m, L, e, hd.below hb, hf⟩
theorem Mx.my (h : Mx A W p S F) : My 0 W p S F := by
  obtain ⟨m, L, e, hd, hf⟩ := h
  exact ⟨m, L, e, hd, fun i _ => Nat.zero_le i⟩
theorem My.mx {B : Nat} (h : My B W p S F) (hA : ∀ i, B ≤ i → i < W.heap.size → A i) : Mx A W p S F := by
  obtain ⟨m, L, e, hd, hf⟩ := h
  exact ⟨m, L, e, hd, fun i hi => hA i (hf i hi) (hd.lt i hi)⟩
/-- A write, in these words. -/
theorem mx_res (h : Mx A W p S F) {r : Int × Ds × List Fp} {f : FuncId} {args : Array Value} (hc : ∀ m L, plain L = F → Dk W p m S L → Calls Tryz.prog f args W (Res W p m L r)) :
    Calls Tryz.prog f args W fun e W' => e = .returned (.int .i64 r.1) ∧ Mx (fun j => A j ∨ W.heap.size ≤ j) W' p r.2.1 r.2.2 ∧ Keep (fun j => A j ∨ W.heap.size ≤ j) W W' := by
  obtain ⟨m, L, e, hd, hf⟩ := h
  refine (hc m L e hd).mono ?_
  rintro e' W' ⟨rfl, L', e2, hd', hk, hf'⟩
  exact ⟨rfl, ⟨m, L', e2, hd', fun i hi => (hf' i hi).imp (hf i) id⟩, hk.mono (fun i hi => hi.imp (hf i) id)⟩
theorem mx_append (h : Mx A W p S F) (hw : S.wr ≤ 1000000) (s : ByteArray) (vb : Value) (b : List UInt8) (hs : Sl W vb b) :
    Calls Tryz.prog 30 #[.pointer (some ⟨p, 0, none⟩), .string s, vb] W fun e W' => e = .returned (.int .i64 (appendS S F s.data.toList b).1) ∧ Mx (fun j => A j ∨ W.heap.size ≤ j) W' p (appendS S F s.data.toList b).2.1 (appendS S F s.data.toList b).2.2 ∧ Keep (fun j => A j ∨ W.heap.size ≤ j) W W' :=
  mx_res h (fun m L e hd => by rw [← e]; exact append_any hd hw s vb b hs)
theorem mx_sync (h : Mx A W p S F) (hw : S.wr ≤ 1000000) (s : ByteArray) :
    Calls Tryz.prog 63 #[.pointer (some ⟨p, 0, none⟩), .string s] W fun e W' => e = .returned (.int .i64 (syncS S F s.data.toList).1) ∧ Mx (fun j => A j ∨ W.heap.size ≤ j) W' p (syncS S F s.data.toList).2.1 (syncS S F s.data.toList).2.2 ∧ Keep (fun j => A j ∨ W.heap.size ≤ j) W W' :=
  mx_res h (fun m L e hd => by rw [← e]; exact sync_any hd hw s)
theorem mx_remove (h : Mx A W p S F) (hw : S.wr ≤ 1000000) (s : ByteArray) :
    Calls Tryz.prog 85 #[.pointer (some ⟨p, 0, none⟩), .string s] W fun e W' => e = .returned (.int .i64 (removeS S F s.data.toList).1) ∧ Mx (fun j => A j ∨ W.heap.size ≤ j) W' p (removeS S F s.data.toList).2.1 (removeS S F s.data.toList).2.2 ∧ Keep (fun j => A j ∨ W.heap.size ≤ j) W W' :=
  mx_res h (fun m L e hd => by rw [← e]; exact remove_any hd hw s)
theorem mx_cut (h : Mx A W p S F) (hw : S.wr ≤ 1000000) (s : ByteArray) (n : Int) :
    Calls Tryz.prog 135 #[.pointer (some ⟨p, 0, none⟩), .string s, .int .i64 n] W fun e W' => e = .returned (.int .i64 (cutS S F s.data.toList n).1) ∧ Mx (fun j => A j ∨ W.heap.size ≤ j) W' p (cutS S F s.data.toList n).2.1 (cutS S F s.data.toList n).2.2 ∧ Keep (fun j => A j ∨ W.heap.size ≤ j) W W' :=
  mx_res h (fun m L e hd => by rw [← e]; exact cut_any hd hw s n)
end
end Go.Proofs.YtibifnknkphanaaGreatDoor

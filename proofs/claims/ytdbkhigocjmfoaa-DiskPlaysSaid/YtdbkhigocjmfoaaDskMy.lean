/-
  A disk of the law's own, plainly: its numbers and its files; each call's contract in these words.
-/
import Derived.Test.YtdbkhigocjmfoaaDskNothing
namespace Go.Proofs.Ytdbkhigocjmfoaa
open Go.RowKit Go.Maps Go.Shelf
open DskM
set_option linter.unusedVariables false
set_option linter.unusedSimpArgs false
set_option maxRecDepth 20000

/-- At p a disk stands that was made behind B: these are its numbers and its files. -/
def My (B : Nat) (W : World) (p : Nat) (S : Ds) (F : List Fp) : Prop := ∃ m L, plain L = F ∧ Dk W p m S L ∧ ∀ i, Foot p m L i → B ≤ i
section
variable {B : Nat} {w W W' : World} {p : Nat} {S S' : Ds} {F F' : List Fp}
theorem My.below (h : My B W p S F) (hb : Below W.heap.size W W') : My B W' p S F := by
  obtain ⟨m, L, e, hd, hf⟩ := h
  exact ⟨m, L, e, hd.below hb, hf⟩
theorem My.mono (h : My B W p S F) {A : Nat} (hA : A ≤ B) : My A W p S F := by
  obtain ⟨m, L, e, hd, hf⟩ := h
  exact ⟨m, L, e, hd, fun i hi => Nat.le_trans hA (hf i hi)⟩
theorem My.lt (h : My B W p S F) : p < W.heap.size := by
  obtain ⟨m, L, e, hd, hf⟩ := h
  exact hd.blk.lt
theorem My.grown (h : My B W p S F) (hB : B ≤ W.heap.size) {r : Int × Ds × List Fp} {R : Ending → World → Prop}
    {f : FuncId} {args : Array Value} (hc : ∀ m L, plain L = F → Dk W p m S L → Calls Try.prog f args W (Res W p m L r)) :
    Calls Try.prog f args W fun e W' => e = .returned (.int .i64 r.1) ∧ My B W' p r.2.1 r.2.2 ∧ Below B W W' := by
  obtain ⟨m, L, e, hd, hf⟩ := h
  refine (hc m L e hd).mono ?_
  rintro e' W' ⟨rfl, L', e2, hd', hk, hf'⟩
  exact ⟨rfl, ⟨m, L', e2, hd', fun i hi => (hf' i hi).elim (hf i) (fun h => Nat.le_trans hB h)⟩, Keep.below (Below.refl B W) hk hB (fun i hi => hi.elim (hf i) (fun h => Nat.le_trans hB h))⟩
theorem my_append (h : My B W p S F) (hB : B ≤ W.heap.size) (hw : S.wr ≤ 1000000) (s : ByteArray) (vb : Value) (b : List UInt8) (hs : Sl W vb b) {r : Int × Ds × List Fp} (hr : appendS S F s.data.toList b = r) :
    Calls Try.prog 26 #[.pointer (some ⟨p, 0, none⟩), .string s, vb] W fun e W' => e = .returned (.int .i64 r.1) ∧ My B W' p r.2.1 r.2.2 ∧ Below B W W' :=
  h.grown hB (R := fun _ _ => True) (fun m L e hd => by rw [← hr, ← e]; exact append_any hd hw s vb b hs)
theorem my_sync (h : My B W p S F) (hB : B ≤ W.heap.size) (hw : S.wr ≤ 1000000) (s : ByteArray) {r : Int × Ds × List Fp} (hr : syncS S F s.data.toList = r) :
    Calls Try.prog 32 #[.pointer (some ⟨p, 0, none⟩), .string s] W fun e W' => e = .returned (.int .i64 r.1) ∧ My B W' p r.2.1 r.2.2 ∧ Below B W W' :=
  h.grown hB (R := fun _ _ => True) (fun m L e hd => by rw [← hr, ← e]; exact sync_any hd hw s)
theorem my_remove (h : My B W p S F) (hB : B ≤ W.heap.size) (hw : S.wr ≤ 1000000) (s : ByteArray) {r : Int × Ds × List Fp} (hr : removeS S F s.data.toList = r) :
    Calls Try.prog 40 #[.pointer (some ⟨p, 0, none⟩), .string s] W fun e W' => e = .returned (.int .i64 r.1) ∧ My B W' p r.2.1 r.2.2 ∧ Below B W W' :=
  h.grown hB (R := fun _ _ => True) (fun m L e hd => by rw [← hr, ← e]; exact remove_any hd hw s)
theorem my_cut (h : My B W p S F) (hB : B ≤ W.heap.size) (hw : S.wr ≤ 1000000) (s : ByteArray) (n : Int) {r : Int × Ds × List Fp} (hr : cutS S F s.data.toList n = r) :
    Calls Try.prog 34 #[.pointer (some ⟨p, 0, none⟩), .string s, .int .i64 n] W fun e W' => e = .returned (.int .i64 r.1) ∧ My B W' p r.2.1 r.2.2 ∧ Below B W W' :=
  h.grown hB (R := fun _ _ => True) (fun m L e hd => by rw [← hr, ← e]; exact cut_any hd hw s n)
theorem my_rename (h : My B W p S F) (hB : B ≤ W.heap.size) (hw : S.wr ≤ 1000000) (s t : ByteArray) {r : Int × Ds × List Fp} (hr : renameS S F s.data.toList t.data.toList = r) :
    Calls Try.prog 27 #[.pointer (some ⟨p, 0, none⟩), .string s, .string t] W fun e W' => e = .returned (.int .i64 r.1) ∧ My B W' p r.2.1 r.2.2 ∧ Below B W W' :=
  h.grown hB (R := fun _ _ => True) (fun m L e hd => by rw [← hr, ← e]; exact rename_any hd hw s t)
theorem my_fuse (h : My B W p S F) (hB : B ≤ W.heap.size) (n : Int) (h1 : -9223372036854775808 ≤ n) (h2 : n ≤ 9223372036854775807) :
    Calls Try.prog 33 #[.pointer (some ⟨p, 0, none⟩), .int .i64 n] W fun e W' => e = .returned (.tuple #[]) ∧ My B W' p (fuseS S n) F ∧ Below B W W' := by
  obtain ⟨m, L, e, hd, hf⟩ := h
  refine (fuse_any hd n h1 h2).mono ?_
  rintro e' W' ⟨rfl, hd', hk, _⟩
  exact ⟨rfl, ⟨m, L, e, hd', hf⟩, Keep.below (Below.refl B W) hk hB (fun i hi => hf i (.inl hi))⟩
theorem my_read (h : My B W p S F) (s : ByteArray) :
    Calls Try.prog 24 #[.pointer (some ⟨p, 0, none⟩), .string s] W fun e W' => ∃ v, e = .returned (.tuple #[v, .int .i64 (readE F s.data.toList)]) ∧ Own W' W.heap.size 5 v (bytesP F s.data.toList) ∧ Below W.heap.size W W' := by
  obtain ⟨m, L, e, hd, hf⟩ := h
  rw [← e]
  exact read_any hd s
theorem my_lasts (h : My B W p S F) (s : ByteArray) :
    Calls Try.prog 25 #[.pointer (some ⟨p, 0, none⟩), .string s] W fun e W' => e = .returned (.tuple #[.int .i64 (lastsP F s.data.toList : Int), .int .i64 (readE F s.data.toList)]) ∧ Below W.heap.size W W' := by
  obtain ⟨m, L, e, hd, hf⟩ := h
  rw [← e]
  exact lasts_any hd s
theorem my_read_is (h : My B W p S F) (s : ByteArray) {r : Int} {b : List UInt8} (hr : readE F s.data.toList = r) (hb : bytesP F s.data.toList = b) :
    Calls Try.prog 24 #[.pointer (some ⟨p, 0, none⟩), .string s] W fun e W' => ∃ A c, e = .returned (.tuple #[.slice A b.length c, .int .i64 r]) ∧ Sl W' (.slice A b.length c) b ∧ Below W.heap.size W W' := by
  subst hr hb
  refine (my_read h s).mono ?_
  rintro e W' ⟨v, rfl, ho, hb⟩
  obtain ⟨A, n, c, rfl⟩ := ho.shape
  have hs := ho.sl
  obtain rfl := hs.len
  exact ⟨A, c, rfl, hs, hb⟩
theorem my_lasts_is (h : My B W p S F) (s : ByteArray) {r : Int} {n : Nat} (hr : readE F s.data.toList = r) (hn : lastsP F s.data.toList = n) :
    Calls Try.prog 25 #[.pointer (some ⟨p, 0, none⟩), .string s] W fun e W' => e = .returned (.tuple #[.int .i64 (n : Int), .int .i64 r]) ∧ Below W.heap.size W W' := by
  subst hr hn
  exact my_lasts h s
theorem my_room (h : My B W p S F) : Calls Try.prog 28 #[.pointer (some ⟨p, 0, none⟩)] W fun e W' => e = .returned (.int .i64 ((S.cap : Int) - (totalP F : Int))) ∧ Below W.heap.size W W' := by
  obtain ⟨m, L, e, hd, hf⟩ := h
  rw [← e, total_plain]
  exact room_any hd
theorem my_dead (h : My B W p S F) : Calls Try.prog 21 #[.pointer (some ⟨p, 0, none⟩)] W fun e W' => e = .returned (.bool S.dead) ∧ W' = W := by
  obtain ⟨m, L, e, hd, hf⟩ := h
  exact dead_any hd
theorem my_writes (h : My B W p S F) : Calls Try.prog 22 #[.pointer (some ⟨p, 0, none⟩)] W fun e W' => e = .returned (.int .i64 (S.wr : Int)) ∧ W' = W := by
  obtain ⟨m, L, e, hd, hf⟩ := h
  exact writes_any hd
theorem my_crash (h : My B W p S F) (keep : List Int) (kv : Value) (hk : SlN W kv keep) :
    Calls Try.prog 20 #[.pointer (some ⟨p, 0, none⟩), kv] W fun e W' => ∃ p', e = .returned (.pointer (some ⟨p', 0, none⟩)) ∧ My W.heap.size W' p' ⟨S.cap, -1, false, 0⟩ (crashP keep F) ∧ Below W.heap.size W W' := by
  obtain ⟨m, L, e, hd, hf⟩ := h
  refine (crash_any hd keep kv hk).mono ?_
  rintro e' W' ⟨p', m', L', rfl, e2, hd', hf', hb⟩
  exact ⟨p', rfl, ⟨m', L', by rw [e2, e], hd', hf'⟩, hb⟩
theorem my_new (c : Nat) (w : World) (h1 : 1 ≤ c) (h2 : c ≤ 16777216) :
    Calls Try.prog 7 #[.int .i64 (c : Int)] w fun e w' => ∃ p, e = .returned (.tuple #[.pointer (some ⟨p, 0, none⟩), .int .i64 0]) ∧ My w.heap.size w' p ⟨c, -1, false, 0⟩ [] ∧ Below w.heap.size w w' := by
  refine (new_any c w h1 h2).mono ?_
  rintro e w' ⟨p, m, rfl, hd, hf, hb⟩
  exact ⟨p, rfl, ⟨m, [], rfl, hd, hf⟩, hb⟩
end
end Go.Proofs.Ytdbkhigocjmfoaa

/-
  A log in memory, beside its disk; what its steps come to, plainly. No function of the program is walked here.
-/
import Derived.Test.YtibifnknkphanaaGreatDoorDskMxA
import Derived.Test.YtibifnknkphanaaGreatDoorWStrA
import Derived.Test.YtibifnknkphanaaGreatDoorWWhole
namespace Go.Proofs.YtibifnknkphanaaGreatDoor
open Go.RowKit Go.Maps
open DskM WalM
set_option linter.unusedVariables false
set_option linter.unusedSimpArgs false
set_option maxRecDepth 20000

/-- A log, plainly. -/
structure Lg where
  num : Nat
  snap : List UInt8
  recs : List (List UInt8)
  size : Int
  synced : Nat
  dead : Bool
/-- A slice of bytes in a block of T. -/
def SlT (T : Nat → Prop) (w : World) (v : Value) (l : List UInt8) : Prop :=
  ∃ A c, v = .slice A l.length c ∧ l.length ≤ c ∧ (0 < l.length → ∃ b o cs, A = some ⟨b, o, none⟩ ∧ T b ∧ Blk w b 5 cs ∧ ∀ j (h : j < l.length), cs[o + j]? = some (.int .u8 (l[j].toNat : Int)))
theorem SlT.sl {T : Nat → Prop} {w : World} {v : Value} {l : List UInt8} (h : SlT T w v l) : Sl w v l := by
  obtain ⟨A, c, rfl, hc, ha⟩ := h
  refine ⟨A, c, rfl, hc, fun hn => ?_⟩
  obtain ⟨b, o, cs, rfl, _, hb, hx⟩ := ha hn
  exact ⟨b, o, rfl, fun j hj => by rw [hb.cell]; exact hx j hj⟩
theorem SlT.kept {T T' : Nat → Prop} {w w' : World} {v : Value} {l : List UInt8} (h : SlT T w v l) (hk : ∀ k cs, T k → Blk w k 5 cs → T' k ∧ Blk w' k 5 cs) : SlT T' w' v l := by
  obtain ⟨A, c, rfl, hc, ha⟩ := h
  refine ⟨A, c, rfl, hc, fun hn => ?_⟩
  obtain ⟨b, o, cs, rfl, ht, hb, hx⟩ := ha hn
  exact ⟨b, o, cs, rfl, (hk b cs ht hb).1, (hk b cs ht hb).2, hx⟩
theorem SlT.nil (T : Nat → Prop) (w : World) (A : Option Addr) (c : Nat) : SlT T w (.slice A 0 c) [] := ⟨A, c, rfl, Nat.zero_le _, fun h => absurd h (by simp)⟩
theorem SlC.slT {T : Nat → Prop} {B : Nat} {w : World} {v : Value} {l : List UInt8} (h : SlC B w v l) (hT : ∀ k, B ≤ k → k < w.heap.size → T k) : SlT T w v l := by
  obtain ⟨A, rfl, ha⟩ := h
  refine ⟨A, _, rfl, Nat.le_refl _, fun hn => ?_⟩
  obtain ⟨b, o, cs, rfl, hb, hx⟩ := ha hn
  exact ⟨b, o, cs, rfl, hT b hb.ge hb.lt, hb.blk, hx⟩
theorem Own.slT {T : Nat → Prop} {B : Nat} {w : World} {v : Value} {l : List UInt8} (h : Own w B 5 v l) (hT : ∀ k, B ≤ k → k < w.heap.size → T k) : SlT T w v l := by
  rcases h.2 with ⟨rfl, h0⟩ | ⟨g, cap, cur, rfl, hg, hh, hnc, _, hs, ht⟩
  · refine ⟨none, 0, by rw [h0], by omega, fun hn => absurd hn (by omega)⟩
  · refine ⟨some ⟨g, 0, none⟩, cap, rfl, hnc, fun _ => ⟨g, 0, cur, rfl, hT g hg (Blk.lt (cs := cur) hh), hh, fun j hj => ?_⟩⟩
    have e : (cur.toList.take (l.length * 1))[j]? = some (bv l[j]) := by rw [ht]; simp [List.getElem?_eq_getElem hj]
    rw [List.getElem?_take] at e
    rw [if_pos (by omega)] at e
    rw [Nat.zero_add]
    simpa [bv] using e
/-- A list of byte slices (their bytes in blocks of X) in a row of T; the row may begin in the midst of its block. -/
def RowT (T X : Nat → Prop) (w : World) (v : Value) (ls : List (List UInt8)) : Prop :=
  ∃ (A : Option Addr) (c : Nat) (vs : List Value), v = .slice A ls.length c ∧ ls.length ≤ c ∧ c ≤ maxLen ∧ vs.length = ls.length ∧ (∀ i (h : i < ls.length) (h2 : i < vs.length), SlT X w vs[i] ls[i]) ∧
    ((A = none ∧ c = 0) ∨ ∃ r o C, A = some ⟨r, o, none⟩ ∧ T r ∧ Blk w r 22 C ∧ o + c ≤ C.size ∧ ∀ i, i < ls.length → C[o + i]? = vs[i]?)
theorem RowT.kept {T X T' X' : Nat → Prop} {w w' : World} {v : Value} {ls : List (List UInt8)} (h : RowT T X w v ls) (hx : ∀ k cs, X k → Blk w k 5 cs → X' k ∧ Blk w' k 5 cs) (hk : ∀ k cs, T k → Blk w k 22 cs → T' k ∧ Blk w' k 22 cs) : RowT T' X' w' v ls := by
  obtain ⟨A, c, vs, e, h1, h2, h3, h4, h5⟩ := h
  refine ⟨A, c, vs, e, h1, h2, h3, fun i hi hi2 => (h4 i hi hi2).kept hx, ?_⟩
  rcases h5 with h5 | ⟨r, o, C, e1, ht, hb, h6, h7⟩
  · exact .inl h5
  · exact .inr ⟨r, o, C, e1, (hk r C ht hb).1, (hk r C ht hb).2, h6, h7⟩
theorem RowT.nil (T X : Nat → Prop) (w : World) : RowT T X w (.slice none 0 0) [] := ⟨none, 0, [], rfl, Nat.le_refl _, Nat.zero_le _, rfl, fun i h => absurd h (by simp), .inl ⟨rfl, rfl⟩⟩
/-- The log's own cells. -/
def lgCells (p : Nat) (s : ByteArray) (most : Int) (num : Nat) (vs vr : Value) (size : Int) (synced : Nat) (dead : Bool) : Array Value :=
  #[.pointer (some ⟨p, 0, none⟩), .string s, .int .i64 most, .int .i64 (num : Int), vs, vr, .int .i64 size, .int .i64 (synced : Int), .bool dead]
/-- At g a log stands, on the disk at p; what it turns is among T, its bytes among X. -/
def LogAt (T X : Nat → Prop) (w : World) (g p : Nat) (s : ByteArray) (most : Int) (L : Lg) : Prop :=
  ∃ vs vr, Blk w g 60 (lgCells p s most L.num vs vr L.size L.synced L.dead) ∧ T g ∧ SlT X w vs L.snap ∧ RowT T X w vr L.recs
theorem LogAt.kept {T X T' X' : Nat → Prop} {w w' : World} {g p : Nat} {s : ByteArray} {most : Int} {L : Lg} (h : LogAt T X w g p s most L) (hx : ∀ k cs, X k → Blk w k 5 cs → X' k ∧ Blk w' k 5 cs) (hk : ∀ k t cs, T k → Blk w k t cs → T' k ∧ Blk w' k t cs) : LogAt T' X' w' g p s most L := by
  obtain ⟨vs, vr, hb, ht, h1, h2⟩ := h
  exact ⟨vs, vr, (hk _ _ _ ht hb).2, (hk _ _ _ ht hb).1, h1.kept hx, h2.kept hx (fun k cs => hk k _ cs)⟩
/-- A log and its disk, side by side. -/
structure LW (D T : Nat → Prop) (w : World) (g p : Nat) (s : ByteArray) (most : Int) (S : Ds) (F : List Fp) (L : Lg) : Prop where
  disk : Mx D w p S F
  log : LogAt T (fun k => ¬ D k ∧ ¬ T k) w g p s most L
  sep : ∀ j, D j → ¬ T j
  dlt : ∀ j, D j → j < w.heap.size
  tlt : ∀ j, T j → j < w.heap.size
  ld : Ld w
  fd : Far D
  ft : Far T
  nb : L.num ≤ 2147483647
/-- What has become of both; nothing else has turned. -/
def LT (D T : Nat → Prop) (w : World) (g p : Nat) (s : ByteArray) (most : Int) (S : Ds) (F : List Fp) (L : Lg) (w' : World) : Prop :=
  ∃ D' T', LW D' T' w' g p s most S F L ∧ (∀ j, D' j → D j ∨ w.heap.size ≤ j) ∧ (∀ j, T' j → T j ∨ w.heap.size ≤ j) ∧ Keep (fun j => D j ∨ T j) w w'
section
variable {D T D' T' : Nat → Prop} {w w' w1 : World} {g p : Nat} {s : ByteArray} {most : Int} {S S' : Ds} {F F' : List Fp} {L L' : Lg}
theorem LW.refl (h : LW D T w g p s most S F L) : LT D T w g p s most S F L w := ⟨D, T, h, fun _ h => .inl h, fun _ h => .inl h, Keep.refl _ _⟩
theorem LW.below (h : LW D T w g p s most S F L) (hb : Below w.heap.size w w') : LW D T w' g p s most S F L :=
  ⟨h.disk.below hb, h.log.kept (fun k cs hT hk => ⟨hT, hk.below hb hk.lt⟩) (fun k t cs hT hk => ⟨hT, hk.below hb hk.lt⟩), h.sep, fun j hj => Nat.lt_of_lt_of_le (h.dlt j hj) hb.size, fun j hj => Nat.lt_of_lt_of_le (h.tlt j hj) hb.size, h.ld.below hb, h.fd, h.ft, h.nb⟩
theorem LT.trans (h : LT D T w g p s most S F L w1) (k : ∀ D1 T1, LW D1 T1 w1 g p s most S F L → LT D1 T1 w1 g p s most S' F' L' w') : LT D T w g p s most S' F' L' w' := by
  obtain ⟨D1, T1, h1, h2, h3, h4⟩ := h
  obtain ⟨D2, T2, k1, k2, k3, k4⟩ := k D1 T1 h1
  have hs := h4.size
  refine ⟨D2, T2, k1, fun j hj => ?_, fun j hj => ?_, h4.trans k4 (fun _ h => h) (fun i hi e => ?_)⟩
  · rcases k2 j hj with e | e
    · exact h2 j e
    · exact .inr (Nat.le_trans hs e)
  · rcases k3 j hj with e | e
    · exact h3 j e
    · exact .inr (Nat.le_trans hs e)
  · rcases e with e | e
    · rcases h2 i e with e | e
      · exact .inl e
      · omega
    · rcases h3 i e with e | e
      · exact .inr e
      · omega
theorem LT.below (h : LT D T w g p s most S F L w1) (hb : Below w1.heap.size w1 w') : LT D T w g p s most S F L w' := by
  obtain ⟨D1, T1, h1, h2, h3, h4⟩ := h
  exact ⟨D1, T1, h1.below hb, h2, h3, h4.trans (Keep.of_below hb) (fun _ h => h) (fun _ _ h => h)⟩
theorem LT.from (hb : Below w.heap.size w w1) (h : LT D T w1 g p s most S F L w') : LT D T w g p s most S F L w' := by
  obtain ⟨D1, T1, h1, h2, h3, h4⟩ := h
  have hs := hb.size
  exact ⟨D1, T1, h1, fun j hj => (h2 j hj).imp id (fun e => Nat.le_trans hs e), fun j hj => (h3 j hj).imp id (fun e => Nat.le_trans hs e), (Keep.of_below hb).trans h4 (fun _ h => h) (fun _ _ h => h)⟩
theorem LT.cell (h : LT D T w g p s most S F L w') {a : Addr} {u : Value} (hu : w.cell? a = some u) (hn : ¬ (D a.block ∨ T a.block)) : w'.cell? a = some u := by
  obtain ⟨D1, T1, h1, h2, h3, h4⟩ := h
  exact h4.cell hu hn
/-- Behind a write on the disk alone. -/
theorem LW.wrote {r : Int × Ds × List Fp} (h : LW D T w g p s most S F L) (hm : Mx (fun j => D j ∨ w.heap.size ≤ j) w' p r.2.1 r.2.2) (hk : Keep (fun j => D j ∨ w.heap.size ≤ j) w w') : LT D T w g p s most r.2.1 r.2.2 L w' := by
  have hT : ∀ k, T k → ¬ (D k ∨ w.heap.size ≤ k) := fun k hk e => by
    rcases e with e | e
    · exact h.sep k e hk
    · have := h.tlt k hk; omega
  have hfar : Far (fun j => (D j ∨ w.heap.size ≤ j) ∧ j < w'.heap.size) := fun i hi => by
    rcases hi.1 with e | e
    · exact h.fd i e
    · exact h.ld.far (S := fun j => w.heap.size ≤ j) (fun _ h => h) i e
  obtain ⟨m, L1, e1, hd, hf⟩ := hm
  refine ⟨fun j => (D j ∨ w.heap.size ≤ j) ∧ j < w'.heap.size, T, ⟨⟨m, L1, e1, hd, fun i hi => ⟨hf i hi, hd.lt i hi⟩⟩, h.log.kept (fun k cs hx hb => ⟨⟨fun e => e.1.elim hx.1 (fun e => by have := hb.lt; omega), hx.2⟩, hb.kept hk (fun e => e.elim hx.1 (fun e => by have := hb.lt; omega))⟩) (fun k t cs ht hb => ⟨ht, hb.kept hk (hT k ht)⟩), fun j hj ht => hT j ht hj.1, fun j hj => hj.2, fun j hj => Nat.lt_of_lt_of_le (h.tlt j hj) hk.size, ?_, hfar, h.ft, h.nb⟩, fun j hj => hj.1, fun j hj => .inl hj, ?_⟩
  · exact h.ld.keep hk (fun i hi => by
      rcases hi with e | e
      · exact h.fd i e
      · exact h.ld.far (S := fun j => w.heap.size ≤ j) (fun _ h => h) i e)
  · exact ⟨hk.os, hk.tape, hk.output, hk.size, fun k hk' hn => hk.block k hk' (fun e => by
      rcases e with e | e
      · exact hn (.inl e)
      · omega)⟩
end
end Go.Proofs.YtibifnknkphanaaGreatDoor

/-
  Words for memory: a file, a disk as objects, what is kept from world to world; a look into its map. No function of the program is walked here.
-/
import Derived.Test.YtdbkhigocjmfoaaMem
import Derived.Test.YtdbkhigocjmfoaaDskM
import Derived.Test.YtdbkhigocjmfoaaDskName
namespace Go.Proofs.Ytdbkhigocjmfoaa
open Go.RowKit Go.Maps
open DskM
set_option linter.unusedVariables false
set_option linter.unusedSimpArgs false

/-! What is kept from world to world: all blocks but those of S. -/
structure Keep (S : Nat → Prop) (w w' : World) : Prop where
  os : w'.os = w.os
  tape : w'.tape = w.tape
  output : w'.output = w.output
  size : w.heap.size ≤ w'.heap.size
  block : ∀ k, k < w.heap.size → ¬ S k → w'.heap[k]? = w.heap[k]?
theorem Keep.of_below {S : Nat → Prop} {w w' : World} (h : Below w.heap.size w w') : Keep S w w' := ⟨h.os, h.tape, h.output, h.size, fun k hk _ => h.block k hk⟩
theorem Keep.refl (S : Nat → Prop) (w : World) : Keep S w w := .of_below (Below.refl _ _)
theorem Keep.trans {S T U : Nat → Prop} {a b c : World} (h : Keep S a b) (k : Keep T b c) (hS : ∀ i, S i → U i) (hT : ∀ i, i < a.heap.size → T i → U i) : Keep U a c :=
  ⟨k.os.trans h.os, k.tape.trans h.tape, k.output.trans h.output, Nat.le_trans h.size k.size, fun i hi hn => (k.block i (Nat.lt_of_lt_of_le hi h.size) fun ht => hn (hT i hi ht)).trans (h.block i hi fun hs => hn (hS i hs))⟩
theorem Keep.below {S : Nat → Prop} {B : Nat} {a b c : World} (h : Below B a b) (k : Keep S b c) (hB : B ≤ b.heap.size) (hS : ∀ i, S i → B ≤ i) : Below B a c :=
  ⟨k.os.trans h.os, k.tape.trans h.tape, k.output.trans h.output, Nat.le_trans h.size k.size, fun i hi => (k.block i (by omega) fun hs => by have := hS i hs; omega).trans (h.block i hi)⟩
theorem Keep.of_grown {S : Nat → Prop} {w w' : World} {row : Option Nat} (h : w.grownBy w' row) (hr : ∀ k, row = some k → S k) : Keep S w w' :=
  ⟨h.os, h.tape, h.output, h.size, fun k hk hn => h.block k hk fun e => hn (hr k e.symm)⟩
theorem Keep.setCell {S : Nat → Prop} (w : World) (p : Addr) (u : Value) (hS : S p.block) : Keep S w (w.setCell p u) :=
  ⟨rfl, rfl, rfl, Nat.le_of_eq (by unfold World.setCell; simp), fun k hk hn => Below.heap_setCell w p u k fun e => hn (e ▸ hS)⟩
theorem Keep.cell {S : Nat → Prop} {w w' : World} (h : Keep S w w') {p : Addr} {u : Value} (hu : w.cell? p = some u) (hn : ¬ S p.block) : w'.cell? p = some u :=
  (World.cell?_of_block (h.block p.block (World.block_lt_of_cell? w p hu) hn)).trans hu
theorem Keep.mono {S T : Nat → Prop} {w w' : World} (h : Keep S w w') (hT : ∀ i, S i → T i) : Keep T w w' :=
  ⟨h.os, h.tape, h.output, h.size, fun k hk hn => h.block k hk fun e => hn (hT k e)⟩
theorem Blk.kept {S : Nat → Prop} {w w' : World} {g : Nat} {t : TypeId} {cs : Array Value} (h : Blk w g t cs) (k : Keep S w w') (hn : ¬ S g) : Blk w' g t cs := (k.block g h.lt hn).trans h
theorem Own.keep {w w' : World} {base : Nat} {e : TypeId} {v : Value} {l : List UInt8} (h : Own w base e v l) (hk : ∀ k, v.ownBlock = some k → w'.heap[k]? = w.heap[k]?) : Own w' base e v l := by
  refine ⟨h.1, ?_⟩
  rcases h.2 with h2 | ⟨g, cap, cur, rfl, hg, hh, r⟩
  · exact Or.inl h2
  · exact Or.inr ⟨g, cap, cur, rfl, hg, (hk g rfl).trans hh, r⟩
theorem Own.lt {w : World} {base : Nat} {e : TypeId} {v : Value} {l : List UInt8} (h : Own w base e v l) : ∀ k, v.ownBlock = some k → base ≤ k ∧ k < w.heap.size := World.ownsRow.lt h
theorem Own.kept {S : Nat → Prop} {w w' : World} {base : Nat} {e : TypeId} {v : Value} {l : List UInt8} (h : Own w base e v l) (k : Keep S w w') (hn : ∀ i, v.ownBlock = some i → ¬ S i) : Own w' base e v l :=
  h.keep fun i hi => k.block i (h.lt i hi).2 (hn i hi)
theorem Own.isRow {w : World} {base : Nat} {e : TypeId} {v : Value} {l : List UInt8} (h : Own w base e v l) {i : Nat} (hi : v.ownBlock = some i) : ∃ cs, Blk w i e cs := by
  rcases h.2 with ⟨rfl, _⟩ | ⟨g, cap, cur, rfl, _, hh, _⟩
  · cases hi
  · simp [Value.ownBlock] at hi
    subst hi
    exact ⟨cur, hh⟩

/-! Maps. -/
theorem ownsMap_kept {H : Type} {S : Nat → Prop} {w w' : World} {P : Program} {k : TypeId} {R : Value → Option (DataW H × List MemPlace)} {b n : Nat} {D : DataW H} (h : w.ownsMap P k R b n D) (hk : Keep S w w') (hn : ¬ S b) : w'.ownsMap P k R b n D := by
  have hlt := h.lt
  obtain ⟨es, clock, hb, F, hs, hD⟩ := h
  exact ⟨es, clock, (hk.block b hlt hn).trans hb, F, hs, hD⟩
theorem ownsMap_exact {H : Type} {w : World} {P : Program} {k : TypeId} {R : Value → Option (DataW H × List MemPlace)} {b n : Nat} {D : DataW H} (h : w.ownsMap P k R b n D) : w.ownsMap P k R b (Maps.size D) D := by
  obtain ⟨es, clock, hb, F, hs, rfl⟩ := h
  refine ⟨es, clock, hb, F, ?_, rfl⟩
  show es.size ≤ List.length _
  rw [length_read]
  exact Nat.le_refl _
theorem ownsMap_notcells {H : Type} {w : World} {P : Program} {k : TypeId} {R : Value → Option (DataW H × List MemPlace)} {b n : Nat} {D : DataW H} (h : w.ownsMap P k R b n D) {g : Nat} {t : TypeId} {cs : Array Value} (hg : Blk w g t cs) : b ≠ g := by
  rintro rfl
  obtain ⟨es, clock, hb, _⟩ := h
  unfold Blk at hg
  rw [hb] at hg
  cases hg

theorem strKey : Keyed Try.prog 9 := string_keyed Try.underlying9
theorem zeroFile (w : World) : (zeroValue 75).run Try.prog w = .ok (.pointer none) w := by kernel_rfl
/-- The pointer to a file, or none. -/
def ptrOf : Option Fo → Value
  | some f => .pointer (some ⟨f.g, 0, none⟩)
  | none => .pointer none

/-! Files and disks. -/
def foc (f : Fo) : Array Value := #[f.v, .int .i64 (f.la : Int)]
structure FoAt (w : World) (f : Fo) : Prop where
  blk : Blk w f.g 78 (foc f)
  row : Own w 0 5 f.v f.bs
  la : f.la ≤ f.bs.length
  may : mayB f.nm = true
/-- A disk's own numbers. -/
structure Ds where
  cap : Nat
  fuse : Int
  dead : Bool
  wr : Nat
def dkc (S : Ds) (m : Nat) : Array Value := #[.int .i64 (S.cap : Int), .map (some m), .int .i64 S.fuse, .bool S.dead, .int .i64 (S.wr : Int)]
structure Dk (w : World) (p m : Nat) (S : Ds) (L : List Fo) : Prop where
  blk : Blk w p 63 (dkc S m)
  map : w.ownsMap Try.prog 9 ptrR m L.length (DE L)
  rise : Rise L
  file : ∀ f ∈ L, FoAt w f
  apart : ∀ f ∈ L, ∀ f' ∈ L, f.nm ≠ f'.nm → f.g ≠ f'.g ∧ ∀ i, f.v.ownBlock = some i → f'.v.ownBlock ≠ some i
  cap1 : 1 ≤ S.cap
  cap2 : S.cap ≤ 16777216
  room : total L ≤ S.cap
  few : L.length ≤ 64
  fuse1 : -9223372036854775808 ≤ S.fuse
  fuse2 : S.fuse ≤ 9223372036854775807
/-- The blocks in which a disk stands. -/
def Foot (p m : Nat) (L : List Fo) : Nat → Prop := fun i => i = p ∨ i = m ∨ ∃ f ∈ L, i = f.g ∨ f.v.ownBlock = some i
section
variable {w w' : World} {p m : Nat} {S : Ds} {L : List Fo}
theorem FoAt.kept {T : Nat → Prop} {f : Fo} (h : FoAt w f) (k : Keep T w w') (h1 : ¬ T f.g) (h2 : ∀ i, f.v.ownBlock = some i → ¬ T i) : FoAt w' f :=
  ⟨h.blk.kept k h1, h.row.kept k h2, h.la, h.may⟩
theorem Dk.kept {T : Nat → Prop} (h : Dk w p m S L) (k : Keep T w w') (hn : ∀ i, Foot p m L i → ¬ T i) : Dk w' p m S L :=
  ⟨h.blk.kept k (hn p (.inl rfl)), ownsMap_kept h.map k (hn m (.inr (.inl rfl))), h.rise, fun f hf => (h.file f hf).kept k (hn _ (.inr (.inr ⟨f, hf, .inl rfl⟩))) (fun i hi => hn i (.inr (.inr ⟨f, hf, .inr hi⟩))), h.apart, h.cap1, h.cap2, h.room, h.few, h.fuse1, h.fuse2⟩
theorem Dk.below (h : Dk w p m S L) (k : Below w.heap.size w w') : Dk w' p m S L := h.kept (T := fun _ => False) (.of_below k) fun _ _ h => h
theorem Dk.lt (h : Dk w p m S L) : ∀ i, Foot p m L i → i < w.heap.size := by
  rintro i (rfl | rfl | ⟨f, hf, rfl | hi⟩)
  · exact h.blk.lt
  · exact h.map.lt
  · exact (h.file f hf).blk.lt
  · exact ((h.file f hf).row.lt i hi).2
theorem Dk.c0 (h : Dk w p m S L) : w.cell? ⟨p, 0, none⟩ = some (.int .i64 (S.cap : Int)) := by rw [h.blk.cell]; rfl
theorem Dk.c1 (h : Dk w p m S L) : w.cell? ⟨p, 1, none⟩ = some (.map (some m)) := by rw [h.blk.cell]; rfl
theorem Dk.c2 (h : Dk w p m S L) : w.cell? ⟨p, 2, none⟩ = some (.int .i64 S.fuse) := by rw [h.blk.cell]; rfl
theorem Dk.c3 (h : Dk w p m S L) : w.cell? ⟨p, 3, none⟩ = some (.bool S.dead) := by rw [h.blk.cell]; rfl
theorem Dk.c4 (h : Dk w p m S L) : w.cell? ⟨p, 4, none⟩ = some (.int .i64 (S.wr : Int)) := by rw [h.blk.cell]; rfl
theorem FoAt.c0 {f : Fo} (h : FoAt w f) : w.cell? ⟨f.g, 0, none⟩ = some f.v := by rw [h.blk.cell]; rfl
theorem FoAt.c1 {f : Fo} (h : FoAt w f) : w.cell? ⟨f.g, 1, none⟩ = some (.int .i64 (f.la : Int)) := by rw [h.blk.cell]; rfl
theorem Dk.look (h : Dk w p m S L) (s : ByteArray) (hs : s.size ≤ maxLen) : (Instr.lookup 61 (.map (some m)) (.string s) false).run Try.prog w = .ok (ptrOf (find L s.data.toList)) w := by
  obtain ⟨v, ps, hrun, hv⟩ := h.map.lookup strKey Try.underlying61 (zeroFile w) ptrR_nil (WideMaps.keyOf_string_mk Try.underlying9 hs)
  rw [atKey_DE] at hv
  have e : v = ptrOf (find L s.data.toList) := by
    clear hrun
    cases hf : find L s.data.toList with
    | none =>
      rw [hf] at hv
      rcases ptrR_inv hv with ⟨rfl, _⟩ | ⟨g, rfl, e⟩
      · rfl
      · cases e
    | some f =>
      rw [hf] at hv
      rcases ptrR_inv hv with ⟨rfl, e⟩ | ⟨g, rfl, e⟩
      · cases e
      · simp at e
        show _ = Value.pointer (some ⟨f.g, 0, none⟩)
        rw [show f.g = g by omega]
  rw [hrun, e]
end
end Go.Proofs.Ytdbkhigocjmfoaa

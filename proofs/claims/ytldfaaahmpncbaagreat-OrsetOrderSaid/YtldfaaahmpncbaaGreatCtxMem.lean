/-
  Words for memory: a dot's cells, a slice of dots and what it reads as, a row of dots of the call's own, a context and a plain set as objects, what is kept from world to world. No function of the program is walked here.
-/
import Derived.Test.YtldfaaahmpncbaaGreatMem
import Derived.Test.YtldfaaahmpncbaaGreatCtxMath
import Derived.Deep.MidRow
import Derived.Sort.Grow
namespace Go.Proofs.YtldfaaahmpncbaaGreat
open Go.RowKit
open CtxM
set_option linter.unusedVariables false
set_option linter.unusedSimpArgs false

def uq (n : Nat) : Value := .int .u64 (n : Int)
def dv (d : Dt) : List Value := [.int .i64 d.1, .int .u64 (d.2 : Int)]
def dvs (L : List Dt) : List Value := L.flatMap dv
theorem dvs_cons (d : Dt) (L : List Dt) : dvs (d :: L) = .int .i64 d.1 :: .int .u64 (d.2 : Int) :: dvs L := rfl
theorem dvs_append (L M : List Dt) : dvs (L ++ M) = dvs L ++ dvs M := by unfold dvs; rw [List.flatMap_append]
theorem dvs_length : ∀ L : List Dt, (dvs L).length = L.length * 2
  | [] => rfl
  | d :: L => by rw [dvs_cons, List.length_cons, List.length_cons, List.length_cons, dvs_length L]; omega
theorem dvs_get : ∀ (L : List Dt) (j : Nat) (h : j < L.length), (dvs L)[j * 2]? = some (.int .i64 L[j].1) ∧ (dvs L)[j * 2 + 1]? = some (.int .u64 (L[j].2 : Int))
  | [], j, h => absurd h (by simp)
  | d :: L, 0, _ => by rw [dvs_cons]; exact ⟨rfl, rfl⟩
  | d :: L, j + 1, h => by
    rw [dvs_cons, show (j + 1) * 2 = j * 2 + 1 + 1 by omega]
    exact dvs_get L j (by simpa using h)
theorem dvs_one (L : List Dt) : ∀ v ∈ dvs L, v.oneCell' = true := by
  intro v hv
  obtain ⟨d, _, hd⟩ := List.mem_flatMap.1 hv
  simp [dv] at hd
  rcases hd with rfl | rfl <;> rfl
theorem dvs_take : ∀ (L : List Dt) (n : Nat), (dvs L).take (n * 2) = dvs (L.take n)
  | [], n => by simp [dvs]
  | d :: L, 0 => by simp [dvs]
  | d :: L, n + 1 => by rw [dvs_cons, show (n + 1) * 2 = n * 2 + 1 + 1 by omega, List.take_succ_cons, List.take_succ_cons, dvs_take L n, List.take_succ_cons, dvs_cons]
theorem dvs_drop : ∀ (L : List Dt) (n : Nat), (dvs L).drop (n * 2) = dvs (L.drop n)
  | [], n => by simp [dvs]
  | d :: L, 0 => by simp
  | d :: L, n + 1 => by rw [dvs_cons, show (n + 1) * 2 = n * 2 + 1 + 1 by omega, List.drop_succ_cons, List.drop_succ_cons, dvs_drop L n, List.drop_succ_cons]

/-- The value v is a slice that reads as the dots L in the world w. -/
def Sd (w : World) (v : Value) (L : List Dt) : Prop :=
  ∃ A c, v = .slice A L.length c ∧ L.length ≤ c ∧ (0 < L.length → ∃ b o, A = some ⟨b, o, none⟩ ∧ ∀ j (h : j < L.length), w.cell? ⟨b, o + j * 2, none⟩ = some (.int .i64 L[j].1) ∧ w.cell? ⟨b, o + j * 2 + 1, none⟩ = some (.int .u64 (L[j].2 : Int)))
theorem Sd.nil {w : World} (A : Option Addr) (c : Nat) : Sd w (.slice A 0 c) [] := ⟨A, c, rfl, Nat.zero_le _, fun h => absurd h (by simp)⟩
theorem Sd.keep {w w' : World} {v : Value} {L : List Dt} (h : Sd w v L) (hk : ∀ p : Addr, ∀ u, v.ownBlock = some p.block → w.cell? p = some u → w'.cell? p = some u) : Sd w' v L := by
  obtain ⟨A, c, rfl, hc, ha⟩ := h
  refine ⟨A, c, rfl, hc, fun hn => ?_⟩
  obtain ⟨b, o, rfl, hx⟩ := ha hn
  exact ⟨b, o, rfl, fun j hj => ⟨hk _ _ rfl (hx j hj).1, hk _ _ rfl (hx j hj).2⟩⟩
theorem Sd.below {w w' : World} {v : Value} {L : List Dt} (h : Sd w v L) (hb : Below w.heap.size w w') : Sd w' v L :=
  h.keep fun p u _ hu => (hb.cell (World.block_lt_of_cell? w p hu)).trans hu
theorem Sd.alloc {w : World} {v : Value} {L : List Dt} (h : Sd w v L) (o : Obj) : Sd (w.alloc o) v L :=
  h.keep fun p u _ hu => (World.cell?_alloc_lt w o p (World.block_lt_of_cell? w p hu)).trans hu
theorem Sd.drew {w : World} {v : Value} {L : List Dt} (h : Sd w v L) : Sd w.drew v L := h
theorem Sd.drewN {w : World} {v : Value} {L : List Dt} (h : Sd w v L) (n : Nat) : Sd (w.drewN n) v L := h
theorem Sd.len {w : World} {A : Option Addr} {n c : Nat} {L : List Dt} (h : Sd w (.slice A n c) L) : n = L.length := by
  obtain ⟨A, c, e, _⟩ := h
  injection e
theorem Sd.shape {w : World} {v : Value} {L : List Dt} (h : Sd w v L) : ∃ A n c, v = .slice A n c := by
  obtain ⟨A, c, rfl, _⟩ := h
  exact ⟨A, _, c, rfl⟩
/-- A part of a slice. -/
theorem Sd.sub {w : World} {A : Option Addr} {n c : Nat} {L : List Dt} (h : Sd w (.slice A n c) L) (i j : Nat) (hij : i ≤ j) (hj : j ≤ L.length) (B : Option Addr) (hB : ∀ b o, A = some ⟨b, o, none⟩ → i < j → B = some ⟨b, o + i * 2, none⟩) (hc : j ≤ c) :
    Sd w (.slice B (j - i) (c - i)) ((L.take j).drop i) := by
  obtain ⟨A', c', e, hcc, ha⟩ := h
  injection e with e1 e2 e3
  subst e1; subst e3
  have hl : ((L.take j).drop i).length = j - i := by rw [List.length_drop, List.length_take]; omega
  refine ⟨B, c - i, by rw [hl], by rw [hl]; omega, fun hn => ?_⟩
  rw [hl] at hn
  obtain ⟨b, o, rfl, hx⟩ := ha (by omega)
  refine ⟨b, o + i * 2, hB b o rfl (by omega), fun k hk => ?_⟩
  rw [hl] at hk
  have := hx (i + k) (by omega)
  have e : ((L.take j).drop i)[k]'(by rw [hl]; exact hk) = L[i + k] := by simp
  rw [e, show o + i * 2 + k * 2 = o + (i + k) * 2 by omega]
  exact this

/-- A row of dots of the call's own (or nil). -/
def OwnD (w : World) (base : Nat) (v : Value) (L : List Dt) : Prop := w.ownsRow base 41 2 v L.length (dvs L)
theorem OwnD.nil {w : World} {base : Nat} : OwnD w base (.slice none 0 0) [] := World.ownsRow_nil w base _ 2
theorem OwnD.alloc {w : World} {base : Nat} {v : Value} {L : List Dt} (h : OwnD w base v L) (o : Obj) : OwnD (w.alloc o) base v L := World.ownsRow.alloc h o
theorem OwnD.drew {w : World} {base : Nat} {v : Value} {L : List Dt} (h : OwnD w base v L) : OwnD w.drew base v L := h
theorem OwnD.drewN {w : World} {base : Nat} {v : Value} {L : List Dt} (h : OwnD w base v L) (n : Nat) : OwnD (w.drewN n) base v L := h
theorem OwnD.mono {w : World} {base B : Nat} {v : Value} {L : List Dt} (h : OwnD w base v L) (hB : B ≤ base) : OwnD w B v L := by
  refine ⟨h.1, ?_⟩
  rcases h.2 with h2 | ⟨g, cap, cur, hv, hg, hh, r⟩
  · exact Or.inl h2
  · exact Or.inr ⟨g, cap, cur, hv, by omega, hh, r⟩
theorem OwnD.lt {w : World} {base : Nat} {v : Value} {L : List Dt} (h : OwnD w base v L) : ∀ k, v.ownBlock = some k → base ≤ k ∧ k < w.heap.size := World.ownsRow.lt h
theorem OwnD.keep {w w' : World} {base : Nat} {v : Value} {L : List Dt} (h : OwnD w base v L) (hk : ∀ k, v.ownBlock = some k → w'.heap[k]? = w.heap[k]?) : OwnD w' base v L := by
  refine ⟨h.1, ?_⟩
  rcases h.2 with h2 | ⟨g, cap, cur, rfl, hg, hh, r⟩
  · exact Or.inl h2
  · exact Or.inr ⟨g, cap, cur, rfl, hg, (hk g rfl).trans hh, r⟩
theorem OwnD.below {w w' : World} {base : Nat} {v : Value} {L : List Dt} (h : OwnD w base v L) (hb : Below w.heap.size w w') : OwnD w' base v L :=
  h.keep fun k hk => hb.block k (h.lt k hk).2
theorem OwnD.sd {w : World} {base : Nat} {v : Value} {L : List Dt} (h : OwnD w base v L) : Sd w v L := by
  rcases h.2 with ⟨rfl, h0⟩ | ⟨g, cap, cur, rfl, _, hh, hnc, _, hs, ht⟩
  · refine ⟨none, 0, by rw [h0], by omega, fun hn => absurd hn (by omega)⟩
  · refine ⟨some ⟨g, 0, none⟩, cap, rfl, hnc, fun _ => ⟨g, 0, rfl, fun j hj => ?_⟩⟩
    have h1 := World.ownsRow.cells h (g := g) rfl (j * 2) _ (dvs_get L j hj).1
    have h2 := World.ownsRow.cells h (g := g) rfl (j * 2 + 1) _ (dvs_get L j hj).2
    rw [add_plain] at h1 h2
    exact ⟨h1, by rw [show 0 + j * 2 + 1 = 0 + (j * 2 + 1) by omega]; exact h2⟩
/-- Rising from nothing: nil just where there is none? Where a row of the call's own lies it is no other block. -/
theorem OwnD.shape {w : World} {base : Nat} {v : Value} {L : List Dt} (h : OwnD w base v L) : ∃ A n c, v = .slice A n c := h.sd.shape

/-! What is kept from world to world: all blocks but those of S. -/
structure Keep (S : Nat → Prop) (w w' : World) : Prop where
  os : w'.os = w.os
  tape : w'.tape = w.tape
  output : w'.output = w.output
  size : w.heap.size ≤ w'.heap.size
  block : ∀ k, k < w.heap.size → ¬ S k → w'.heap[k]? = w.heap[k]?
theorem Keep.of_below {S : Nat → Prop} {w w' : World} (h : Below w.heap.size w w') : Keep S w w' := ⟨h.os, h.tape, h.output, h.size, fun k hk _ => h.block k hk⟩
theorem Keep.refl (S : Nat → Prop) (w : World) : Keep S w w := .of_below (Below.refl _ _)
theorem Keep.trans {S T U : Nat → Prop} {a b c : World} (h : Keep S a b) (k : Keep T b c) (hS : ∀ i, S i → U i) (hT : ∀ i, i < a.heap.size → T i → U i) : Keep U a c :=
  ⟨k.os.trans h.os, k.tape.trans h.tape, k.output.trans h.output, Nat.le_trans h.size k.size, fun i hi hn => (k.block i (Nat.lt_of_lt_of_le hi h.size) fun ht => hn (hT i hi ht)).trans (h.block i hi fun hs => hn (hS i hs))⟩
theorem Keep.below {S : Nat → Prop} {B : Nat} {a b c : World} (h : Below B a b) (k : Keep S b c) (hB : B ≤ b.heap.size) (hS : ∀ i, S i → B ≤ i) : Below B a c :=
  ⟨k.os.trans h.os, k.tape.trans h.tape, k.output.trans h.output, Nat.le_trans h.size k.size, fun i hi => (k.block i (by omega) fun hs => by have := hS i hs; omega).trans (h.block i hi)⟩
theorem Keep.of_grown {S : Nat → Prop} {w w' : World} {row : Option Nat} (h : w.grownBy w' row) (hr : ∀ k, row = some k → S k) : Keep S w w' :=
  ⟨h.os, h.tape, h.output, h.size, fun k hk hn => h.block k hk fun e => hn (hr k e.symm)⟩
theorem Keep.setCell {S : Nat → Prop} (w : World) (p : Addr) (u : Value) (hS : S p.block) : Keep S w (w.setCell p u) :=
  ⟨rfl, rfl, rfl, Nat.le_of_eq (by unfold World.setCell; simp), fun k hk hn => Below.heap_setCell w p u k fun e => hn (e ▸ hS)⟩
theorem Keep.cell {S : Nat → Prop} {w w' : World} (h : Keep S w w') {p : Addr} {u : Value} (hu : w.cell? p = some u) (hn : ¬ S p.block) : w'.cell? p = some u :=
  (World.cell?_of_block (h.block p.block (World.block_lt_of_cell? w p hu) hn)).trans hu
theorem Keep.mono {S T : Nat → Prop} {w w' : World} (h : Keep S w w') (hT : ∀ i, S i → T i) : Keep T w w' :=
  ⟨h.os, h.tape, h.output, h.size, fun k hk hn => h.block k hk fun e => hn (hT k e)⟩
theorem Blk.kept {S : Nat → Prop} {w w' : World} {g : Nat} {t : TypeId} {cs : Array Value} (h : Blk w g t cs) (k : Keep S w w') (hn : ¬ S g) : Blk w' g t cs := (k.block g h.lt hn).trans h
theorem Sd.kept {S : Nat → Prop} {w w' : World} {v : Value} {L : List Dt} (h : Sd w v L) (k : Keep S w w') (hn : ∀ i, v.ownBlock = some i → ¬ S i) : Sd w' v L :=
  h.keep fun p u hp hu => k.cell hu (hn _ hp)
theorem OwnD.kept {S : Nat → Prop} {w w' : World} {base : Nat} {v : Value} {L : List Dt} (h : OwnD w base v L) (k : Keep S w w') (hn : ∀ i, v.ownBlock = some i → ¬ S i) : OwnD w' base v L :=
  h.keep fun i hi => k.block i (h.lt i hi).2 (hn i hi)

/-! A context, and a plain set, as objects. -/
def cxc (V : List Nat) (v : Value) : Array Value := (Value.bool true :: (V.map uq ++ [v])).toArray
def sxc (V : List Nat) (v : Value) : Array Value := (V.map uq ++ [v]).toArray
structure Cx (w : World) (g : Nat) (v : Value) (V : List Nat) (X : List Dt) : Prop where
  blk : Blk w g 109 (cxc V v)
  row : OwnD w 0 v X
  ne : v.ownBlock ≠ some g
  fit : Fit V X
structure Sx (w : World) (g : Nat) (v : Value) (V : List Nat) (X : List Dt) : Prop where
  blk : Blk w g 32 (sxc V v)
  row : Sd w v X
  old : ∀ i, v.ownBlock = some i → i < w.heap.size
  ne : v.ownBlock ≠ some g
  fit : Fit V X
def Foot (g : Nat) (v : Value) : Nat → Prop := fun i => i = g ∨ v.ownBlock = some i
/-- The row v' is v's block, or a newer one than all of a world of size n. -/
def Newer (n : Nat) (v v' : Value) : Prop := ∀ i, v'.ownBlock = some i → v.ownBlock = some i ∨ n ≤ i
theorem Cx.kept {S : Nat → Prop} {w w' : World} {g : Nat} {v : Value} {V : List Nat} {X : List Dt} (h : Cx w g v V X) (k : Keep S w w') (hn : ∀ i, Foot g v i → ¬ S i) : Cx w' g v V X :=
  ⟨h.blk.kept k (hn g (.inl rfl)), h.row.kept k fun i hi => hn i (.inr hi), h.ne, h.fit⟩
theorem Sx.kept {S : Nat → Prop} {w w' : World} {g : Nat} {v : Value} {V : List Nat} {X : List Dt} (h : Sx w g v V X) (k : Keep S w w') (hn : ∀ i, Foot g v i → ¬ S i) : Sx w' g v V X :=
  ⟨h.blk.kept k (hn g (.inl rfl)), h.row.kept k fun i hi => hn i (.inr hi), fun i hi => Nat.lt_of_lt_of_le (h.old i hi) k.size, h.ne, h.fit⟩
theorem Cx.below {w w' : World} {g : Nat} {v : Value} {V : List Nat} {X : List Dt} (h : Cx w g v V X) (k : Below w.heap.size w w') : Cx w' g v V X := h.kept (S := fun _ => False) (.of_below k) fun _ _ h => h
theorem Sx.below {w w' : World} {g : Nat} {v : Value} {V : List Nat} {X : List Dt} (h : Sx w g v V X) (k : Below w.heap.size w w') : Sx w' g v V X := h.kept (S := fun _ => False) (.of_below k) fun _ _ h => h
theorem Cx.lt {w : World} {g : Nat} {v : Value} {V : List Nat} {X : List Dt} (h : Cx w g v V X) : ∀ i, Foot g v i → i < w.heap.size := by
  rintro i (rfl | hi)
  · exact h.blk.lt
  · exact (h.row.lt i hi).2
theorem Sx.lt {w : World} {g : Nat} {v : Value} {V : List Nat} {X : List Dt} (h : Sx w g v V X) : ∀ i, Foot g v i → i < w.heap.size := by
  rintro i (rfl | hi)
  · exact h.blk.lt
  · exact h.old i hi

theorem cxc_size {V : List Nat} (h : V.length = 16) (v : Value) : (cxc V v).size = 18 := by simp [cxc, h]
theorem Cx.made {w : World} {g : Nat} {v : Value} {V : List Nat} {X : List Dt} (h : Cx w g v V X) : w.cell? ⟨g, 0, none⟩ = some (.bool true) := by rw [h.blk.cell]; rfl
theorem Cx.at_ {w : World} {g : Nat} {v : Value} {V : List Nat} {X : List Dt} (h : Cx w g v V X) (r : Int) (h1 : 1 ≤ r) (h2 : r ≤ 16) : w.cell? ⟨g, 1 + (r - 1).toNat, none⟩ = some (.int .u64 (at_ V r : Int)) := by
  have hl : (r - 1).toNat < V.length := by rw [h.fit.len]; omega
  rw [h.blk.cell, cxc]
  simp only [List.getElem?_toArray]
  rw [show 1 + (r - 1).toNat = (r - 1).toNat + 1 by omega, List.getElem?_cons_succ, List.getElem?_append_left (by simpa using hl), List.getElem?_map, List.getElem?_eq_getElem hl]
  show some (uq _) = _
  unfold CtxM.at_
  rw [List.getD_eq_getElem?_getD, List.getElem?_eq_getElem hl]
  rfl
theorem Cx.atk {w : World} {g : Nat} {v : Value} {V : List Nat} {X : List Dt} (h : Cx w g v V X) (k : Nat) (h2 : k < 16) : w.cell? ⟨g, 1 + k, none⟩ = some (.int .u64 (CtxM.at_ V ((k : Int) + 1) : Int)) := by
  have := h.at_ ((k : Int) + 1) (by omega) (by omega)
  rw [show ((k : Int) + 1 - 1).toNat = k by omega] at this
  exact this
theorem Cx.extra {w : World} {g : Nat} {v : Value} {V : List Nat} {X : List Dt} (h : Cx w g v V X) : w.cell? ⟨g, 17, none⟩ = some v := by
  rw [h.blk.cell, cxc]
  simp only [List.getElem?_toArray]
  rw [List.getElem?_cons_succ, List.getElem?_append_right (by simp [h.fit.len])]
  simp [h.fit.len]
theorem Cx.range {w : World} {g : Nat} {v : Value} {V : List Nat} {X : List Dt} (h : Cx w g v V X) : w.rangeAt g 1 (V.map uq) := by
  intro j u hu
  have hj : j < V.length := by simpa using (List.getElem?_eq_some_iff.1 hu).1
  rw [h.blk.cell, cxc]
  simp only [List.getElem?_toArray]
  rw [show 1 + j = j + 1 by omega, List.getElem?_cons_succ, List.getElem?_append_left (by simpa using hj)]
  exact hu
theorem Sx.at_ {w : World} {g : Nat} {v : Value} {V : List Nat} {X : List Dt} (h : Sx w g v V X) (k : Nat) (h2 : k < 16) : w.cell? ⟨g, k, none⟩ = some (.int .u64 (V[k]'(by rw [h.fit.len]; exact h2) : Int)) := by
  have hl : k < V.length := by rw [h.fit.len]; omega
  rw [h.blk.cell, sxc]
  simp only [List.getElem?_toArray]
  rw [List.getElem?_append_left (by simpa using hl), List.getElem?_map, List.getElem?_eq_getElem hl]
  rfl
theorem Sx.extra {w : World} {g : Nat} {v : Value} {V : List Nat} {X : List Dt} (h : Sx w g v V X) : w.cell? ⟨g, 16, none⟩ = some v := by
  rw [h.blk.cell, sxc]
  simp only [List.getElem?_toArray]
  rw [List.getElem?_append_right (by simp [h.fit.len])]
  simp [h.fit.len]
theorem Sx.range {w : World} {g : Nat} {v : Value} {V : List Nat} {X : List Dt} (h : Sx w g v V X) : w.rangeAt g 0 (V.map uq) := by
  intro j u hu
  have hj : j < V.length := by simpa using (List.getElem?_eq_some_iff.1 hu).1
  rw [h.blk.cell, sxc]
  simp only [List.getElem?_toArray]
  rw [Nat.zero_add, List.getElem?_append_left (by simpa using hj)]
  exact hu

/-! Growing worlds: draws and new blocks. -/
def Grw (w w' : World) : Prop := ∃ q os, w' = Go.Sort.grow (w.drewN q) os
theorem Grw.refl (w : World) : Grw w w := ⟨0, #[], by rw [Go.Sort.grow_empty]; rfl⟩
theorem Grw.drewN {a b : World} (h : Grw a b) (n : Nat) : Grw a (b.drewN n) := by
  obtain ⟨q, os, rfl⟩ := h
  exact ⟨q + n, os, by simp [World.drewN, Go.Sort.grow, Nat.add_assoc]⟩
theorem Grw.drew {a b : World} (h : Grw a b) : Grw a b.drew := h.drewN 1
theorem Grw.alloc {a b : World} (h : Grw a b) (o : Obj) : Grw a (b.alloc o) := by
  obtain ⟨q, os, rfl⟩ := h
  exact ⟨q, os ++ #[o], by rw [Go.Sort.alloc_eq_grow, Go.Sort.grow_grow]⟩
theorem Grw.trans {a b c : World} (h : Grw a b) (k : Grw b c) : Grw a c := by
  obtain ⟨q, os, rfl⟩ := k
  obtain ⟨p, ps, e⟩ := h.drewN q
  exact ⟨p, ps ++ os, by rw [e, Go.Sort.grow_grow]⟩
theorem Grw.below {a b : World} (h : Grw a b) : Below a.heap.size a b := by
  obtain ⟨q, os, rfl⟩ := h
  exact ⟨rfl, rfl, rfl, by rw [Go.Sort.size_grow]; exact Nat.le_add_right _ _, fun k hk => Go.Sort.heap_grow_old _ os hk⟩
end Go.Proofs.YtldfaaahmpncbaaGreat

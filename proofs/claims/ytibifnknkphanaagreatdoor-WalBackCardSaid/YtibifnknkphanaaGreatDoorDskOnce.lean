/-
  The law's once: a disk's files gone over beside the document's list of them.
-/
import Derived.Test.YtibifnknkphanaaGreatDoorDskCrash
import Derived.BigQuiet
namespace Go.Proofs.YtibifnknkphanaaGreatDoor
open Go.RowKit Go.Maps Go.Shelf
open DskM
set_option linter.unusedVariables false
set_option linter.unusedSimpArgs false
set_option maxRecDepth 100000
attribute [local go_sem] Oper.semAt_some

/-- The document's files in memory: a row of names, bytes, numbers. -/
def RowAt (w : World) (A : Option Addr) (F : List Fp) : Prop :=
  ∀ k (h : k < F.length), ∃ b o A1 c1, A = some ⟨b, o, none⟩ ∧ w.cell? ⟨b, o + k * 3, none⟩ = some (.string ⟨F[k].1.toArray⟩) ∧ w.cell? ⟨b, o + k * 3 + 1, none⟩ = some (.slice A1 F[k].2.1.length c1) ∧
    w.cell? ⟨b, o + k * 3 + 2, none⟩ = some (.int .i64 (F[k].2.2 : Int)) ∧ Sl w (.slice A1 F[k].2.1.length c1) F[k].2.1
theorem RowAt.below {w w' : World} {A : Option Addr} {F : List Fp} (h : RowAt w A F) (hb : Below w.heap.size w w') : RowAt w' A F := fun k hk => by
  obtain ⟨b, o, A1, c1, e, h1, h2, h3, h4⟩ := h k hk
  exact ⟨b, o, A1, c1, e, (hb.cell (World.block_lt_of_cell? w _ h1)).trans h1, (hb.cell (World.block_lt_of_cell? w _ h2)).trans h2, (hb.cell (World.block_lt_of_cell? w _ h3)).trans h3, h4.below hb⟩
section
variable {N : List Nm} {Z : List Nat}
def OnI (w : World) (hi q : Nat) (most : Int) (pre : List (Ent N Z)) (W : World) : Prop :=
  (Below w.heap.size w W ∧ hi ≤ W.heap.size) ∧ Blk W w.heap.size 62 #[.pointer (some ⟨q, 0, none⟩)] ∧ Blk W (w.heap.size + 1) 3 #[.int .i64 most] ∧ Blk W (w.heap.size + 1 + 1) 4 #[.bool false] ∧ Blk W (w.heap.size + 1 + 1 + 1) 3 #[.int .i64 (pre.length : Int)] ∧
    pre.map (·.1) = (N.zip Z).take pre.length
def OnX (w : World) (c : Code) (pre : List (Ent N Z)) (W : World) : Prop :=
  Below w.heap.size w W ∧ c = .ret ∧ ∃ v, Blk W (w.heap.size + 1 + 1) 4 #[.bool v] ∧ (v = true ∨ ¬ pre.map (·.1) = (N.zip Z).take pre.length)
theorem OnI.own {w : World} {q : Nat} {most : Int} {hi : Nat} (h0 : w.heap.size ≤ hi) : OwnFrom hi (OnI (N := N) (Z := Z) w hi q most) := by
  rintro pre X Y row ⟨⟨hb, hz⟩, b1, b2, b3, b4, e⟩ hg hr
  exact ⟨⟨hb.grown hg hb.size (fun k e => by have := (hr k e).1; omega), Nat.le_trans hz hg.size⟩, b1.own hg (fun r e => hr r e), b2.own hg (fun r e => hr r e), b3.own hg (fun r e => hr r e), b4.own hg (fun r e => hr r e), e⟩
theorem OnX.own {w : World} {hi : Nat} (h0 : w.heap.size ≤ hi) (c : Code) : OwnFrom hi (OnX (N := N) (Z := Z) w c) := by
  rintro pre X Y row ⟨hb, rfl, v, b3, e⟩ hg hr
  exact ⟨hb.grown hg hb.size (fun k e => by have := (hr k e).1; omega), rfl, v, b3.own hg (fun r e => hr r e), e⟩
end
end Go.Proofs.YtibifnknkphanaaGreatDoor

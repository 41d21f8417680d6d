/-
  The marks that ranges leave behind among the deferred calls.
-/
import Derived.Test.YtibifnknkphanaaGreatDoorDskEach
namespace Go.Proofs.YtibifnknkphanaaGreatDoor
open Go.RowKit Go.Maps Go.Shelf
open DskM
set_option linter.unusedVariables false
set_option linter.unusedSimpArgs false
set_option maxRecDepth 100000

/-! Marks. -/
def mark (D : Nat) : Deferred := { target := .collected D, args := #[] }
def putAll (W : World) : List Nat → World
  | [] => W
  | D :: r => putAll (W.putObj D (.deferred none)) r
/-- The blocks of the marks: each later than the ones behind it, each open. -/
def Marks (B : Nat) (W : World) : List Nat → Prop
  | [] => True
  | D :: r => B ≤ D ∧ W.heap[D]? = some (.deferred (some [])) ∧ (∀ E ∈ r, E < D) ∧ Marks B W r
theorem Marks.open : ∀ {B : Nat} {W : World} {l : List Nat}, Marks B W l → ∀ D ∈ l, B ≤ D ∧ W.heap[D]? = some (.deferred (some []))
  | B, W, [], _, D, hD => by cases hD
  | B, W, E :: r, ⟨h1, h2, h3, h4⟩, D, hD => by
    rcases List.mem_cons.1 hD with rfl | hD
    · exact ⟨h1, h2⟩
    · exact h4.open D hD
theorem Marks.lt {B : Nat} {W : World} {l : List Nat} (h : Marks B W l) : ∀ D ∈ l, D < W.heap.size := fun D hD => (Array.getElem?_eq_some_iff.1 (h.open D hD).2).1
theorem Marks.kept : ∀ {B : Nat} {W W' : World} {l : List Nat}, Marks B W l → (∀ D ∈ l, W'.heap[D]? = W.heap[D]?) → Marks B W' l
  | _, _, _, [], _, _ => trivial
  | _, _, _, E :: r, ⟨h1, h2, h3, h4⟩, hk => ⟨h1, (hk E (List.mem_cons_self ..)).trans h2, h3, h4.kept (fun D hD => hk D (List.mem_cons_of_mem _ hD))⟩
theorem Marks.below {B : Nat} {W W' : World} {l : List Nat} (h : Marks B W l) (hb : Below W.heap.size W W') : Marks B W' l := h.kept (fun D hD => hb.block D (h.lt D hD))
theorem leaves_marks {F : Fence} {n : Nat} {P : Program} {fn : Func} {tmps : Array Value} {R : Ending → World → Prop} {B : Nat} : ∀ (l : List Nat) (W : World), Marks B W l → LeavesIn F n P fn tmps R [] .returning (putAll W l) → LeavesInM F n P fn tmps R (l.map mark) .returning W
  | [], W, _, h => h
  | D :: r, W, ⟨h1, h2, h3, h4⟩, h => by
    refine ⟨by simp, .inl ⟨D, _, rfl, run_takeDeferred h2, ?_⟩⟩
    refine leaves_marks r _ (h4.kept (fun E hE => ?_)) h
    have hlt := h3 E hE
    show (W.heap.setIfInBounds D _)[E]? = W.heap[E]?
    rw [Array.getElem?_setIfInBounds_ne (by omega)]
theorem putAll_below : ∀ (l : List Nat) {B : Nat} {w W : World}, B ≤ w.heap.size → Below B w W → (∀ D ∈ l, B ≤ D) → Below B w (putAll W l)
  | [], _, _, _, _, h, _ => h
  | D :: r, B, w, W, hB, h, hl => by
    refine putAll_below r hB (h.grown (grownBy_putObj' W D (.deferred none)) (Nat.le_trans hB h.size) (fun k e => ?_)) (fun E hE => hl E (List.mem_cons_of_mem _ hE))
    injection e with e
    have := hl D (List.mem_cons_self ..)
    omega
theorem putAll_blk : ∀ (l : List Nat) {B : Nat} {W : World} {g : Nat} {t : TypeId} {cs : Array Value}, Marks B W l → Blk W g t cs → Blk (putAll W l) g t cs
  | [], _, _, _, _, _, _, h => h
  | D :: r, B, W, g, t, cs, ⟨h1, h2, h3, h4⟩, h => by
    have hne : g ≠ D := by
      rintro rfl
      unfold Blk at h
      rw [h] at h2
      cases h2
    refine putAll_blk r (h4.kept (B := B) (W := W) (W' := W.putObj D (.deferred none)) (fun E hE => ?_)) ?_
    · have hlt := h3 E hE
      show (W.heap.setIfInBounds D _)[E]? = W.heap[E]?
      rw [Array.getElem?_setIfInBounds_ne (by omega)]
    · unfold Blk at h ⊢
      show (W.heap.setIfInBounds D _)[g]? = _
      rw [Array.getElem?_setIfInBounds_ne (by omega)]
      exact h
end Go.Proofs.YtibifnknkphanaaGreatDoor

/-
  Texts of bytes, and bytes of texts: what is no walk of the program's own functions; strings.IndexByte over the digits.
-/
import Derived.Test.YtdbhffkfkklehaaDoorShaKnown
import Derived.Test.YtdbhffkfkklehaaDoorHeldA
import Derived.Lib.Bytealg
import Derived.Laws.IdiomStrings
import Derived.WalkMore
import Derived.Laws.BitsAllLaws
import Derived.Deep.LoopGhost
namespace Go.Proofs.YtdbhffkfkklehaaDoor
open Go.RowKit
set_option linter.unusedVariables false

section
variable {P : Program} (w : World)
end

/-- A row of the call's own lies below the heap's end. -/
theorem Own.lt {w : World} {base : Nat} {e : TypeId} {v : Value} {l : List UInt8} (h : Own w base e v l) : ∀ k, v.ownBlock = some k → base ≤ k ∧ k < w.heap.size := World.ownsRow.lt h
/-- A row from 'base' on is left by what turns a block below 'base' alone. -/
theorem Own.grown {w w' : World} {base : Nat} {e : TypeId} {v : Value} {l : List UInt8} {row : Option Nat} (h : Own w base e v l) (hgr : w.grownBy w' row) (hne : ∀ k, row = some k → k < base) : Own w' base e v l := by
  refine ⟨h.1, ?_⟩
  rcases h.2 with h2 | ⟨g, cap, cur, hv, hg, hh, r⟩
  · exact Or.inl h2
  · have hlt : g < w.heap.size := by
      rcases Nat.lt_or_ge g w.heap.size with hlt | hge
      · exact hlt
      · rw [Array.getElem?_eq_none hge] at hh; cases hh
    exact Or.inr ⟨g, cap, cur, hv, hg, (hgr.block g hlt (fun e => by have := hne g e.symm; omega)).trans hh, r⟩


/-- The sixteen digits. -/
def digits : List UInt8 := [48, 49, 50, 51, 52, 53, 54, 55, 56, 57, 97, 98, 99, 100, 101, 102]
def dig (i : Nat) : UInt8 := digits.getD i 0
/-- A text of bytes. -/
def hexB (l : List UInt8) : List UInt8 := l.flatMap (fun c => [dig (c.toNat / 16), dig (c.toNat % 16)])
theorem hexB_length (l : List UInt8) : (hexB l).length = 2 * l.length := by
  induction l with
  | nil => rfl
  | cons c l ih => simp only [hexB, List.flatMap_cons, List.length_append, List.length_cons] at *; simp only [List.length_nil]; omega
theorem sixteen {i : Nat} (h : i < 16) : i = 0 ∨ i = 1 ∨ i = 2 ∨ i = 3 ∨ i = 4 ∨ i = 5 ∨ i = 6 ∨ i = 7 ∨ i = 8 ∨ i = 9 ∨ i = 10 ∨ i = 11 ∨ i = 12 ∨ i = 13 ∨ i = 14 ∨ i = 15 := by omega
/-- A new block of two bytes, as a slice. -/
theorem Sl.two (w : World) (e : TypeId) (x y : UInt8) : Sl (w.alloc (.cells #[.int .u8 (x.toNat : Int), .int .u8 (y.toNat : Int)] e)) (.slice (some ⟨w.heap.size, 0, none⟩) 2 2) [x, y] :=
  Sl.of_mark w e _ (0, 0) [x, y] 2 2 rfl (Nat.le_refl _) rfl
theorem Own.made (w : World) (e : TypeId) (n : Nat) (hn : n ≤ 1000000) : Own (w.alloc (.cells (madeCells #[.int .u8 0] n) e)) w.heap.size e (.slice (some ⟨w.heap.size, 0, none⟩) 0 n) [] :=
  World.ownsRow_made w _ n (Nat.le_refl _) (by unfold maxLen; omega) (by simp [madeCells])

/-- A digit's number. -/
def hv (c : UInt8) : Option Nat := if 48 ≤ c.toNat ∧ c.toNat ≤ 57 then some (c.toNat - 48) else if 97 ≤ c.toNat ∧ c.toNat ≤ 102 then some (c.toNat - 87) else none
/-- A pair of digits, as a byte. -/
def pr (l : List UInt8) (i : Nat) : Option UInt8 :=
  match hv (l.getD (2 * i) 0), hv (l.getD (2 * i + 1) 0) with
  | some x, some y => some (UInt8.ofNat (16 * x + y))
  | _, _ => none
/-- The bytes that the first pairs of a text say. -/
def unhexTo (l : List UInt8) : Nat → Option (List UInt8)
  | 0 => some []
  | i + 1 => match unhexTo l i, pr l i with
    | some m, some c => some (m ++ [c])
    | _, _ => none
/-- The bytes whose text it is. -/
def unhexB (l : List UInt8) : Option (List UInt8) := if l.length % 2 = 0 then unhexTo l (l.length / 2) else none
theorem unhexTo_length (l : List UInt8) : ∀ (i : Nat) (m : List UInt8), unhexTo l i = some m → m.length = i
  | 0, m, h => by simp [unhexTo] at h; simp [← h]
  | i + 1, m, h => by
    unfold unhexTo at h
    split at h
    · rename_i m' c h1 h2
      injection h with h
      rw [← h, List.length_append, unhexTo_length l i m' h1]; rfl
    · cases h
end Go.Proofs.YtdbhffkfkklehaaDoor

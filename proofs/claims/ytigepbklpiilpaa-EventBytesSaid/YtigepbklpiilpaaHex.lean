/-
  Hexadecimal: the digits, a text's bytes; the walks of wire.Hex and the document's Hex.
-/
import Derived.Test.YtigepbklpiilpaaKnown
import Derived.Test.YtigepbklpiilpaaHeldA
import Derived.Test.YtigepbklpiilpaaApp
namespace Go.Proofs.Ytigepbklpiilpaa
open Go.RowKit
set_option linter.unusedVariables false
set_option linter.unusedSimpArgs false

/-- The sixteen digits. -/
def digits : List UInt8 := [48, 49, 50, 51, 52, 53, 54, 55, 56, 57, 97, 98, 99, 100, 101, 102]
def dig (i : Nat) : UInt8 := digits.getD i 0
/-- A text of bytes. -/
def hexB (l : List UInt8) : List UInt8 := l.flatMap (fun c => [dig (c.toNat / 16), dig (c.toNat % 16)])
theorem hexB_take (l : List UInt8) (k : Nat) (h : k < l.length) : hexB (l.take (k + 1)) = hexB (l.take k) ++ [dig (l[k].toNat / 16), dig (l[k].toNat % 16)] := by
  unfold hexB
  rw [take_snoc l k h, List.flatMap_append]; simp
theorem hexB_length (l : List UInt8) : (hexB l).length = 2 * l.length := by
  induction l with
  | nil => rfl
  | cons c l ih => simp only [hexB, List.flatMap_cons, List.length_append, List.length_cons] at *; simp only [List.length_nil]; omega
theorem sixteen {i : Nat} (h : i < 16) : i = 0 ∨ i = 1 ∨ i = 2 ∨ i = 3 ∨ i = 4 ∨ i = 5 ∨ i = 6 ∨ i = 7 ∨ i = 8 ∨ i = 9 ∨ i = 10 ∨ i = 11 ∨ i = 12 ∨ i = 13 ∨ i = 14 ∨ i = 15 := by omega
theorem bits_low (c : UInt8) : bits BinOp.and IntKind.u8 (c.toNat : Int) 15 = ((c.toNat % 16 : Nat) : Int) := by
  have h : ∀ n : Fin 256, bits BinOp.and IntKind.u8 ((n.val : Nat) : Int) 15 = ((n.val % 16 : Nat) : Int) := by decide +kernel
  exact h ⟨c.toNat, c.toNat_lt⟩
theorem byte_div (c : UInt8) : c.toNat / 16 < 16 := by have := c.toNat_lt; omega
theorem byte_mod (c : UInt8) : c.toNat % 16 < 16 := Nat.mod_lt _ (by decide)
/-- A new block of two bytes, as a slice. -/
theorem Sl.two (w : World) (e : TypeId) (x y : UInt8) : Sl (w.alloc (.cells #[.int .u8 (x.toNat : Int), .int .u8 (y.toNat : Int)] e)) (.slice (some ⟨w.heap.size, 0, none⟩) 2 2) [x, y] :=
  Sl.of_mark w e _ (0, 0) [x, y] 2 2 rfl (Nat.le_refl _) rfl
theorem Own.made (w : World) (e : TypeId) (n : Nat) (hn : n ≤ 1000000) : Own (w.alloc (.cells (madeCells #[.int .u8 0] n) e)) w.heap.size e (.slice (some ⟨w.heap.size, 0, none⟩) 0 n) [] :=
  World.ownsRow_made w _ n (Nat.le_refl _) (by unfold maxLen; omega) (by simp [madeCells])

end Go.Proofs.Ytigepbklpiilpaa

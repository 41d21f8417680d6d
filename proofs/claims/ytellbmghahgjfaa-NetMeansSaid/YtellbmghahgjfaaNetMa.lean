/-
  At, over all memory of the laws.
-/
import Derived.Test.YtellbmghahgjfaaNetX
import Derived.Test.YtellbmghahgjfaaNetZ
namespace Go.Proofs.Ytellbmghahgjfaa
open Go.RowKit Go.Maps
open NetM
set_option linter.unusedVariables false
set_option linter.unusedSimpArgs false
set_option maxRecDepth 20000
section
variable {w W W' : World} {p b : Nat} {lost : Int} {V : List (Fl Pl)} {s : Sv} {S : List (Fl Pl)}
theorem mm_at (h : Mm w W p b lost V s S) (i : Nat) (hi : i < V.length) (X : World) (hX : Below W.heap.size W X) :
    Calls Try.prog 18 #[.pointer (some ⟨p, 0, none⟩), .int .i64 (i : Int)] X fun e W' => ∃ A n c, e = .returned (.tuple #[.agg #[.int .i64 V[i].p.1, .int .i64 V[i].p.2, .slice A n c], .int .i64 0]) ∧ Sl W' (.slice A n c) V[i].x.2 ∧ Below X.heap.size X W' := by
  have h' := h.more hX
  obtain ⟨K, G, hn, hG⟩ := h'.net
  refine (at_any hn i hi).mono fun e w' he => ?_
  obtain ⟨⟨A, n, c⟩, rfl, ho, hb⟩ := he
  exact ⟨A, n, c, rfl, ho.sl, hb⟩
theorem mm_at_none (h : Mm w W p b lost V s S) (z : Int) (hz : z < 0 ∨ (V.length : Int) ≤ z) (hz2 : z ≤ 9223372036854775807) (X : World) (hX : Below W.heap.size W X) :
    Calls Try.prog 18 #[.pointer (some ⟨p, 0, none⟩), .int .i64 z] X fun e W' => ∃ c : Int, (c != 0) = true ∧ e = .returned (.tuple #[.agg #[.int .i64 0, .int .i64 0, .slice none 0 0], .int .i64 c]) ∧ Below X.heap.size X W' := by
  have h' := h.more hX
  obtain ⟨K, G, hn, hG⟩ := h'.net
  rcases (show z < 0 ∨ 0 ≤ z by omega) with h0 | h0
  · exact (at_bad (find_neg hn z h0) (by decide)).mono fun e w' ⟨he, hb⟩ => ⟨2, by decide, he, hb⟩
  · obtain ⟨i, rfl⟩ := Int.eq_ofNat_of_zero_le h0
    exact (at_bad (find_out hn i (by omega) hz2) (by decide)).mono fun e w' ⟨he, hb⟩ => ⟨6, by decide, he, hb⟩
end
end Go.Proofs.Ytellbmghahgjfaa

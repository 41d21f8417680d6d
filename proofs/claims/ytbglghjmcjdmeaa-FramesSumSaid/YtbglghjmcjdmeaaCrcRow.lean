/-
  An argument of bytes, opened, with its reach.
-/
import Derived.Test.YtbglghjmcjdmeaaRow
import Derived.SizedLaws
namespace Go.Proofs.Ytbglghjmcjdmeaa
open Go.ChangeShapes Go.WideShapes Go.ChangeAt Go.RowKit
set_option linter.unusedVariables false
theorem bytes_u8 : Try.prog.bytesOf 5 = 1 := by kernel_rfl

section
variable {H : Type} {enc : TypeId × Value → H}
/-- How long the bytes of a datum may be. -/
def Reached (d : DataW H) (l : List UInt8) : Prop := l = [] ∨ ∃ elems spare, d = .slice elems spare ∧ l.length ≤ elems.length + spare.length
theorem open_bytes_reached {W : World} {base : Nat} {v : Value} {d : DataW H} {ps : List MemPlace} (hv : Value.okWide Try.prog W .any base 23 v) (h : DataW.Trod enc Try.prog W 0 (fun _ => true) true 23 v d ps) :
    ∃ l : List UInt8, Sl W v l ∧ Reached d l := by
  obtain ⟨l, hs⟩ := open_bytes hv h
  refine ⟨l, hs, ?_⟩
  obtain ⟨a0, len, cap, rfl⟩ := okWide_slice Try.underlying23 hv
  have hlen := hs.len
  obtain ⟨fuel, hf⟩ := h
  rcases open_ints Try.underlying23 Try.underlying5 cells_u8 hf with ⟨hcs, hx⟩ | ⟨a, len', cap', zs, hcs, _, hl, hm, hz, hx, hcell, hwz⟩
  · simp [Value.cells] at hcs
    obtain ⟨rfl, rfl, rfl⟩ := hcs
    exact .inl (List.eq_nil_of_length_eq_zero hlen.symm)
  · simp [Value.cells] at hcs
    obtain ⟨rfl, rfl, rfl⟩ := hcs
    simp only [Prod.mk.injEq] at hx
    obtain ⟨hx, _⟩ := hx
    simp only [if_true] at hz
    refine .inr ⟨_, _, hx, ?_⟩
    simp [lits]
    omega
theorem reach_of {ts : List TypeId} {ds : List (DataW H)} {d : DataW H} {l : List UInt8} {j : Nat} (hr : Reached d l) (h : (DataW.weightsEach Try.prog ts ds).all (fun x => decide (x ≤ reachBytes)) = true) (ht : ts[j]? = some 23) (hd : ds[j]? = some d) :
    l.length ≤ 140737488351232 := by
  rcases hr with rfl | ⟨elems, spare, rfl, hl⟩
  · simp
  · have := sized_slice h (j := j) ht hd Try.underlying23
    rw [bytes_u8] at this
    simp only [reachBytes] at this
    omega
end
end Go.Proofs.Ytbglghjmcjdmeaa

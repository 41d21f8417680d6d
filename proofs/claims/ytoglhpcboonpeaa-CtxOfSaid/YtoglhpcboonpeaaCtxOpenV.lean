/-
  A vector that a law is handed, opened; a list of dots with where it lies.
-/
import Derived.Test.YtoglhpcboonpeaaCtxOpen
import Derived.Test.YtoglhpcboonpeaaCtxBlk
namespace Go.Proofs.Ytoglhpcboonpeaa
open Go.ChangeShapes Go.WideShapes Go.ChangeAt Go.RowKit Go.Deep CtxM
set_option linter.unusedVariables false
set_option maxRecDepth 20000

theorem cells_vec : Try.prog.cellsOf 52 = 16 := by kernel_rfl
theorem cells_one64 : Try.prog.cellsOf 27 = 1 := by kernel_rfl
theorem shape_lt {w : World} {b : Nat} {x : TypeId × Nat} (h : w.shape? b = some x) : b < w.heap.size := by
  rcases Nat.lt_or_ge b w.heap.size with hlt | hge
  · exact hlt
  · unfold World.shape? at h
    rw [Array.getElem?_eq_none hge] at h
    simp at h
section
variable {H : Type} {enc : TypeId × Value → H}
/-- A slice lies in a block that is there. -/
theorem okWide_old {W : World} {base : Nat} {t e : TypeId} (ht : Try.prog.underlying t = some (.slice e)) {v : Value} (hv : Value.okWide Try.prog W .any base t v) : ∀ i, v.ownBlock = some i → i < W.heap.size := by
  intro i hi
  obtain ⟨a0, len, cap, rfl⟩ := okWide_slice ht hv
  rcases a0 with _ | a
  · simp [Value.ownBlock] at hi
  · simp [Value.ownBlock] at hi
    subst hi
    simp only [Value.okWide, ht, Cell.okWide, Cell.ok] at hv
    obtain ⟨_, _, _, _, row, cells, hs, _⟩ := hv
    exact shape_lt hs
/-- A vector. -/
theorem open_vec {W : World} {base : Nat} {v : Value} {d : DataW H} {ps : List MemPlace} (hv : Value.okWide Try.prog W .any base 52 v) (h : DataW.Trod enc Try.prog W 0 (fun _ => true) true 52 v d ps) :
    ∃ V : List Nat, v = .agg (uqs V) ∧ V.length = 16 := by
  have hv' : ∃ cs, v = .agg cs ∧ cs.size = Try.prog.cellsOf 52 := by
    simp only [Value.okWide, Try.underlying52] at hv
    obtain ⟨cs, h1, h2, _⟩ := hv
    exact ⟨cs, h1, h2⟩
  obtain ⟨cs, rfl, hsz⟩ := hv'
  rw [cells_vec] at hsz
  obtain ⟨fuel, hf⟩ := h
  obtain ⟨xs, m, _, _, _, hxl, hx⟩ := DataW.trod_array Try.underlying52 hf
  have each : ∀ i, i < 16 → ∃ n : Nat, cs[i]? = some (.int .u64 (n : Int)) := fun i hi => by
    have h1 := hx i hi
    rw [List.getElem?_eq_getElem (by omega)] at h1
    obtain ⟨k, e, _, hw⟩ := DataW.trod_int Try.underlying27 h1
    have hb := bounds_u64 hw
    refine ⟨k.toNat, ?_⟩
    rw [cells_one64, Nat.mul_one] at e
    have := congrArg (fun l => l[0]?) e
    rw [show ((k.toNat : Nat) : Int) = k by omega]
    simpa [Value.cells, List.getElem?_take] using this
  obtain ⟨N, hN⟩ := choose_lt (α := Nat) (p := fun i n => cs[i]? = some (.int .u64 (n : Int))) each
  refine ⟨(List.range 16).map N, ?_, by simp⟩
  congr 1
  apply Array.toList_inj.1
  apply List.ext_getElem?
  intro j
  by_cases hj : j < 16
  · rw [Array.getElem?_toList, hN j hj]
    simp [uqs, uq, hj]
  · rw [List.getElem?_eq_none (by simp; omega), List.getElem?_eq_none (by simp [uqs]; omega)]
end
end Go.Proofs.Ytoglhpcboonpeaa

/-
  Arguments that orset's laws are handed, opened: a key, a bool.
-/
import Derived.Test.YtldfaaahmpncbaaGreatOrsAA
import Derived.Test.YtldfaaahmpncbaaGreatRowLaw
import Derived.Deep.Slices
import Derived.ChangeSame
namespace Go.Proofs.YtldfaaahmpncbaaGreat
open Go.ChangeShapes Go.WideShapes Go.ChangeAt Go.RowKit Go.Deep CtxM
set_option linter.unusedVariables false
set_option linter.unusedSimpArgs false
set_option maxRecDepth 20000
theorem cells_key : Tryz.prog.cellsOf 39 = 2 := by kernel_rfl
theorem cells_onestr : Tryz.prog.cellsOf 9 = 1 := by kernel_rfl
section
variable {H : Type} {enc : TypeId × Value → H} {W : World} {base : Nat} {spare : Nat → Bool} {held : Bool}
theorem str_cells {fuel : Nat} {cs : List Value} {x : DataW H × List MemPlace} (h : DataW.trod enc Tryz.prog W base spare held fuel 9 cs = some x) : ∃ s : ByteArray, cs = [.string s] := by
  obtain ⟨s, e, _⟩ := DataW.trod_string Tryz.underlying9 h
  exact ⟨s, e⟩
theorem key_cells {fuel : Nat} {cs : List Value} {x : DataW H × List MemPlace} (h : DataW.trod enc Tryz.prog W base spare held fuel 39 cs = some x) : ∃ k : Ky, cs = [.string k.1, .string k.2] := by
  obtain ⟨xs, n, _, _, hl, hxl, hf⟩ := DataW.trod_struct Tryz.underlying39 h
  rw [cells_key] at hl
  match cs, hl, xs, hxl with
  | [c0, c1], _, [y0, y1], _ =>
    have g0 := hf 0 _ rfl
    have g1 := hf 1 _ rfl
    simp only [cells_onestr, List.drop_zero, List.drop_succ_cons, List.take_succ_cons, List.take_zero, List.getElem?_cons_zero, List.getElem?_cons_succ] at g0 g1
    obtain ⟨s0, e0⟩ := str_cells g0
    obtain ⟨s1, e1⟩ := str_cells g1
    injection e0 with e0
    injection e1 with e1
    exact ⟨(s0, s1), by rw [e0, e1]⟩
theorem open_key {v : Value} {d : DataW H} {ps : List MemPlace} (hv : Value.okWide Tryz.prog W .any base 39 v) (h : DataW.Trod enc Tryz.prog W 0 (fun _ => true) true 39 v d ps) :
    ∃ k : Ky, v = .agg #[.string k.1, .string k.2] := by
  simp only [Value.okWide, Tryz.underlying39] at hv
  obtain ⟨cs, rfl, _⟩ := hv
  obtain ⟨fuel, hf⟩ := h
  obtain ⟨k, e⟩ := key_cells hf
  exact ⟨k, by congr 1; exact Array.toList_inj.1 e⟩
theorem open_bool {v : Value} (hv : Value.okWide Tryz.prog W .any base 4 v) : ∃ b : Bool, v = .bool b := okWide_bool Tryz.underlying4 hv
end
end Go.Proofs.YtldfaaahmpncbaaGreat

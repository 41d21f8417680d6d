/-
  The cursor laws' arguments opened.
-/
import Derived.Test.YthlopecllhdmhaaDoorCuE
import Derived.Test.YthlopecllhdmhaaDoorRow
import Derived.Deep.Slices
import Derived.ChangeSame
import Derived.Carry
import Derived.ChangeMaps5
namespace Go.Proofs.YthlopecllhdmhaaDoor
open Go.ChangeShapes Go.WideShapes Go.ChangeAt Go.RowKit Go.Deep
set_option linter.unusedVariables false

section
variable {H : Type} {enc : TypeId × Value → H}
theorem cells_u64C : Tryd.prog.cellsOf 23 = 1 := by kernel_rfl
theorem cells_vecC : Tryd.prog.cellsOf 25 = 16 := by kernel_rfl
theorem open_vecC {W : World} {base : Nat} {v : Value} {d : DataW H} {ps : List MemPlace} (hv : Value.okWide Tryd.prog W .any base 25 v) (h : DataW.Trod enc Tryd.prog W 0 (fun _ => true) true 25 v d ps) :
    ∃ (cs : Array Value) (vec : List Nat), v = .agg cs ∧ Vec cs vec := by
  have hv' : ∃ cs, v = .agg cs ∧ cs.size = Tryd.prog.cellsOf 25 := by
    simp only [Value.okWide, Tryd.underlying25] at hv
    obtain ⟨cs, h1, h2, _⟩ := hv
    exact ⟨cs, h1, h2⟩
  obtain ⟨cs, rfl, hsz⟩ := hv'
  rw [cells_vecC] at hsz
  obtain ⟨fuel, hf⟩ := h
  obtain ⟨xs, m, _, _, _, hxl, hx⟩ := DataW.trod_array Tryd.underlying25 hf
  have each : ∀ i, i < 16 → ∃ n : Nat, cs[i]? = some (.int .u64 (n : Int)) ∧ n < 18446744073709551616 := fun i hi => by
    have h1 := hx i hi
    rw [List.getElem?_eq_getElem (by omega)] at h1
    obtain ⟨k, e, _, hw⟩ := DataW.trod_int Tryd.underlying23 h1
    obtain ⟨n, rfl, hn⟩ := nat_u64 hw
    refine ⟨n, ?_, hn⟩
    rw [cells_u64C, Nat.mul_one] at e
    have := congrArg (fun l => l[0]?) e
    simpa [Value.cells, List.getElem?_take] using this
  obtain ⟨N, hN⟩ := choose_lt (α := Nat) (p := fun i n => cs[i]? = some (.int .u64 (n : Int)) ∧ n < 18446744073709551616) each
  refine ⟨cs, (List.range 16).map N, rfl, ?_, by simp, ?_⟩
  · apply List.ext_getElem?
    intro j
    by_cases hj : j < 16
    · rw [Array.getElem?_toList, (hN j hj).1]
      simp [hj]
    · rw [List.getElem?_eq_none (by simp; omega), List.getElem?_eq_none (by simp; omega)]
  · intro n hn
    obtain ⟨i, hi, rfl⟩ := List.mem_map.1 hn
    exact (hN i (by simpa using hi)).2
theorem copen_vec {W : World} {base : Nat} {v : Value} {d : DataW H} {ps : List MemPlace} (hv : Value.okWide Tryd.prog W .any base 25 v) (h : DataW.Trod enc Tryd.prog W 0 (fun _ => true) true 25 v d ps) :
    ∃ V : List Nat, v = .agg (uqs V) ∧ V.length = 16 ∧ ∀ n ∈ V, n < 18446744073709551616 := by
  obtain ⟨cs, vec, rfl, hvv⟩ := open_vecC hv h
  obtain rfl := vec_uqs hvv
  exact ⟨vec, rfl, hvv.len, hvv.lt⟩
end
section
variable {H : Type} {enc : TypeId × Value → H} {W : World} {base : Nat} {spare : Nat → Bool} {held : Bool}
theorem trodAll_five {P : Program} {t0 t1 t2 t3 t4 : TypeId} {args : Array Value} {ds : List (DataW H)} {ps : List MemPlace} (h : DataW.TrodAll enc P W base spare held [t0, t1, t2, t3, t4] args.toList ds ps) :
    ∃ v0 v1 v2 v3 v4 d0 d1 d2 d3 d4 p0 p1 p2 p3 p4, args = #[v0, v1, v2, v3, v4] ∧ ds = [d0, d1, d2, d3, d4] ∧ ps = p0 ++ (p1 ++ (p2 ++ (p3 ++ p4))) ∧ DataW.Trod enc P W base spare held t0 v0 d0 p0 ∧ DataW.Trod enc P W base spare held t1 v1 d1 p1 ∧ DataW.Trod enc P W base spare held t2 v2 d2 p2 ∧ DataW.Trod enc P W base spare held t3 v3 d3 p3 ∧ DataW.Trod enc P W base spare held t4 v4 d4 p4 := by
  obtain ⟨v0, vs, d0, ds0, p0, q, hargs, rfl, rfl, h0, hr⟩ := trodAll_cons h
  obtain ⟨v1, vs, d1, ds1, p1, q, rfl, rfl, rfl, h1, hr⟩ := trodAll_cons hr
  obtain ⟨v2, vs, d2, ds2, p2, q, rfl, rfl, rfl, h2, hr⟩ := trodAll_cons hr
  obtain ⟨v3, vs, d3, ds3, p3, q, rfl, rfl, rfl, h3, hr⟩ := trodAll_cons hr
  obtain ⟨v4, vs, d4, ds4, p4, q, rfl, rfl, rfl, h4, hr⟩ := trodAll_cons hr
  obtain ⟨rfl, rfl, rfl⟩ := trodAll_nil hr
  exact ⟨v0, v1, v2, v3, v4, d0, d1, d2, d3, d4, p0, p1, p2, p3, p4, by cases args; simp_all, rfl, by simp, h0, h1, h2, h3, h4⟩
end
end Go.Proofs.YthlopecllhdmhaaDoor

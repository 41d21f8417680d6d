/-
  Arguments opened: lists of bytes, dots, vectors.
-/
import Derived.Test.YteneicngmglgbaaRow
import Derived.Test.YteneicngmglgbaaVec
import Derived.Deep.Slices
namespace Go.Proofs.Yteneicngmglgbaa
open Go.ChangeShapes Go.WideShapes Go.ChangeAt Go.RowKit Go.Deep
set_option linter.unusedVariables false

theorem cells_sl : Try.prog.cellsOf 23 = 1 := by kernel_rfl
theorem cells_int : Try.prog.cellsOf 3 = 1 := by kernel_rfl
theorem cells_u64 : Try.prog.cellsOf 22 = 1 := by kernel_rfl
theorem cells_vec : Try.prog.cellsOf 38 = 16 := by kernel_rfl
theorem cells_dot : Try.prog.cellsOf 36 = 2 := by kernel_rfl

section
variable {H : Type} {enc : TypeId × Value → H}

/-- A list of lists of bytes. -/
theorem open_rows {W : World} {base : Nat} {v : Value} {d : DataW H} {ps : List MemPlace} (hv : Value.okWide Try.prog W .any base 39 v) (h : DataW.Trod enc Try.prog W 0 (fun _ => true) true 39 v d ps) :
    ∃ ls : List (List UInt8), Sls W v ls ∧ ls.length ≤ 9223372036854775807 := by
  obtain ⟨a0, len, cap, rfl⟩ := okWide_slice Try.underlying39 hv
  obtain ⟨fuel, hf⟩ := h
  rcases open_slice1 Try.underlying39 cells_sl hf with ⟨hcs, hx⟩ | ⟨a, len', cap', m, n, V, D, Pl, hcs, _, hl, hm, hmm, hx, hall⟩
  · simp [Value.cells] at hcs
    obtain ⟨rfl, rfl, rfl⟩ := hcs
    exact ⟨[], ⟨none, 0, rfl, Nat.le_refl _, fun h => absurd h (by simp)⟩, by simp⟩
  · simp [Value.cells] at hcs
    obtain ⟨rfl, rfl, rfl⟩ := hcs
    simp only [if_true] at hmm
    subst hmm
    have each : ∀ i, i < m → ∃ l : List UInt8, Sl W (V i) l := fun i hi => open_bytes_cells (hall i hi).2
    obtain ⟨L, hL⟩ := choose_lt (α := List UInt8) (p := fun i l => Sl W (V i) l) each
    have hll : ((List.range len).map L).length = len := by simp
    refine ⟨(List.range len).map L, ⟨some a, m, by rw [hll], by rw [hll]; exact hl, fun hn => ?_⟩, by rw [hll]; unfold maxLen at hm; omega⟩
    rw [hll] at hn
    obtain ⟨b, off, spot⟩ := a
    have hspot : spot = none := by simpa [Addr.add] using World.cell?_spot (hall 0 (by omega)).1
    subst hspot
    refine ⟨b, off, rfl, fun j hj => ?_⟩
    rw [hll] at hj
    have hc := (hall j (by omega)).1
    rw [add_plain] at hc
    exact ⟨V j, hc, by simpa using hL j (by omega)⟩

/-- A dot. -/
theorem open_dot {W : World} {base : Nat} {v : Value} {d : DataW H} {ps : List MemPlace} (hv : Value.okWide Try.prog W .any base 36 v) (h : DataW.Trod enc Try.prog W 0 (fun _ => true) true 36 v d ps) :
    ∃ (r : Int) (n : Nat), v = .agg #[.int .i64 r, .int .u64 (n : Int)] ∧ n < 18446744073709551616 ∧ -9223372036854775808 ≤ r ∧ r ≤ 9223372036854775807 := by
  obtain ⟨cs, rfl, hsz⟩ := okWide_struct Try.underlying36 hv
  rw [cells_dot] at hsz
  obtain ⟨fuel, hf⟩ := h
  obtain ⟨y0, y1, m, _, _, h0, h1⟩ := trod_struct2 Try.underlying36 hf
  obtain ⟨k0, e0, _, hw0⟩ := DataW.trod_int Try.underlying3 h0
  obtain ⟨k1, e1, _, hw1⟩ := DataW.trod_int Try.underlying22 h1
  obtain ⟨n, rfl, hn⟩ := nat_u64 hw1
  have hb := bounds_i64 hw0
  have hl : cs.toList.length = 2 := by simpa using hsz
  have e : cs.toList = [.int .i64 k0, .int .u64 (n : Int)] := by
    match h : cs.toList, hl with
    | [a, b], _ =>
      simp [Value.cells, cells_int, cells_u64, h] at e0 e1
      rw [e0, e1]
  exact ⟨k0, n, by rw [← Array.toArray_toList (xs := cs), e], hn, hb.1, hb.2⟩
/-- A vector. -/
theorem open_vec {W : World} {base : Nat} {v : Value} {d : DataW H} {ps : List MemPlace} (hv : Value.okWide Try.prog W .any base 38 v) (h : DataW.Trod enc Try.prog W 0 (fun _ => true) true 38 v d ps) :
    ∃ (cs : Array Value) (vec : List Nat), v = .agg cs ∧ Vec cs vec := by
  have hv' : ∃ cs, v = .agg cs ∧ cs.size = Try.prog.cellsOf 38 := by
    simp only [Value.okWide, Try.underlying38] at hv
    obtain ⟨cs, h1, h2, _⟩ := hv
    exact ⟨cs, h1, h2⟩
  obtain ⟨cs, rfl, hsz⟩ := hv'
  rw [cells_vec] at hsz
  obtain ⟨fuel, hf⟩ := h
  obtain ⟨xs, m, _, _, _, hxl, hx⟩ := DataW.trod_array Try.underlying38 hf
  have each : ∀ i, i < 16 → ∃ n : Nat, cs[i]? = some (.int .u64 (n : Int)) ∧ n < 18446744073709551616 := fun i hi => by
    have h1 := hx i hi
    rw [List.getElem?_eq_getElem (by omega)] at h1
    obtain ⟨k, e, _, hw⟩ := DataW.trod_int Try.underlying22 h1
    obtain ⟨n, rfl, hn⟩ := nat_u64 hw
    refine ⟨n, ?_, hn⟩
    rw [cells_u64, Nat.mul_one] at e
    have := congrArg (fun l => l[0]?) e
    simpa [Value.cells, List.getElem?_take] using this
  obtain ⟨N, hN⟩ := choose_lt (α := Nat) (p := fun i n => cs[i]? = some (.int .u64 (n : Int)) ∧ n < 18446744073709551616) each
  refine ⟨cs, (List.range 16).map N, rfl, ?_, by simp, ?_⟩
  · apply List.ext_getElem?
    intro j
    by_cases hj : j < 16
    · rw [Array.getElem?_toList, (hN j hj).1]
      simp [hj]
    · rw [List.getElem?_eq_none (by simp; omega), List.getElem?_eq_none (by simp; omega)]
  · intro n hn
    obtain ⟨i, hi, rfl⟩ := List.mem_map.1 hn
    exact (hN i (by simpa using hi)).2
end
end Go.Proofs.Yteneicngmglgbaa

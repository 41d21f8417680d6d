/-
  Arguments opened: hashes, lists of bytes.
-/
import Derived.Test.YtggijgclnnlfmaaDoorRow
import Derived.Test.YtggijgclnnlfmaaDoorShaEq
import Derived.Deep.Slices
namespace Go.Proofs.YtggijgclnnlfmaaDoor
open Go.ChangeShapes Go.WideShapes Go.ChangeAt Go.RowKit Go.Deep
set_option linter.unusedVariables false

theorem cells_sl : Tryd.prog.cellsOf 25 = 1 := by kernel_rfl
theorem cells_hash : Tryd.prog.cellsOf 28 = 32 := by kernel_rfl
section
variable {H : Type} {enc : TypeId × Value → H}

/-- A list of lists of bytes. -/
theorem open_rows {W : World} {base : Nat} {v : Value} {d : DataW H} {ps : List MemPlace} (hv : Value.okWide Tryd.prog W .any base 22 v) (h : DataW.Trod enc Tryd.prog W 0 (fun _ => true) true 22 v d ps) :
    ∃ ls : List (List UInt8), Sls W v ls ∧ ls.length ≤ 9223372036854775807 := by
  obtain ⟨a0, len, cap, rfl⟩ := okWide_slice Tryd.underlying22 hv
  obtain ⟨fuel, hf⟩ := h
  rcases open_slice1 Tryd.underlying22 cells_sl hf with ⟨hcs, hx⟩ | ⟨a, len', cap', m, n, V, D, Pl, hcs, _, hl, hm, hmm, hx, hall⟩
  · simp [Value.cells] at hcs
    obtain ⟨rfl, rfl, rfl⟩ := hcs
    exact ⟨[], ⟨none, 0, rfl, Nat.le_refl _, fun h => absurd h (by simp)⟩, by simp⟩
  · simp [Value.cells] at hcs
    obtain ⟨rfl, rfl, rfl⟩ := hcs
    simp only [if_true] at hmm
    subst hmm
    have each : ∀ i, i < m → ∃ l : List UInt8, Sl W (V i) l := fun i hi => open_bytes_cells (hall i hi).2
    obtain ⟨L, hL⟩ := choose_lt (α := List UInt8) (p := fun i l => Sl W (V i) l) each
    have hll : ((List.range len).map L).length = len := by simp
    refine ⟨(List.range len).map L, ⟨some a, m, by rw [hll], by rw [hll]; exact hl, fun hn => ?_⟩, by rw [hll]; unfold maxLen at hm; omega⟩
    rw [hll] at hn
    obtain ⟨b, off, spot⟩ := a
    have hspot : spot = none := by simpa [Addr.add] using World.cell?_spot (hall 0 (by omega)).1
    subst hspot
    refine ⟨b, off, rfl, fun j hj => ?_⟩
    rw [hll] at hj
    have hc := (hall j (by omega)).1
    rw [add_plain] at hc
    exact ⟨V j, hc, by simpa using hL j (by omega)⟩

/-- A hash. -/
theorem open_hash {W : World} {base : Nat} {v : Value} {d : DataW H} {ps : List MemPlace} (hv : Value.okWide Tryd.prog W .any base 28 v) (h : DataW.Trod enc Tryd.prog W 0 (fun _ => true) true 28 v d ps) :
    ∃ l : List UInt8, v = .agg (rowB l) ∧ l.length = 32 := by
  have hv' : ∃ cs, v = .agg cs ∧ cs.size = Tryd.prog.cellsOf 28 := by
    simp only [Value.okWide, Tryd.underlying28] at hv
    obtain ⟨cs, h1, h2, _⟩ := hv
    exact ⟨cs, h1, h2⟩
  obtain ⟨cs, rfl, hsz⟩ := hv'
  rw [cells_hash] at hsz
  obtain ⟨fuel, hf⟩ := h
  obtain ⟨xs, m, _, _, _, hxl, hx⟩ := DataW.trod_array Tryd.underlying28 hf
  have each : ∀ i, i < 32 → ∃ n : UInt8, cs[i]? = some (.int .u8 (n.toNat : Int)) := fun i hi => by
    have h1 := hx i hi
    rw [List.getElem?_eq_getElem (by omega)] at h1
    obtain ⟨k, e, _, hw⟩ := DataW.trod_int Tryd.underlying5 h1
    have hb := bounds_u8 hw
    refine ⟨UInt8.ofNat k.toNat, ?_⟩
    rw [cells_u8, Nat.mul_one] at e
    have := congrArg (fun l => l[0]?) e
    have e2 : (UInt8.ofNat k.toNat).toNat = k.toNat := by
      rw [UInt8.toNat_ofNat']; exact Nat.mod_eq_of_lt (by omega)
    rw [e2, show ((k.toNat : Nat) : Int) = k by omega]
    simpa [Value.cells, List.getElem?_take] using this
  obtain ⟨N, hN⟩ := choose_lt (α := UInt8) (p := fun i n => cs[i]? = some (.int .u8 (n.toNat : Int))) each
  refine ⟨(List.range 32).map N, ?_, by simp⟩
  congr 1
  apply Array.toList_inj.1
  apply List.ext_getElem?
  intro j
  by_cases hj : j < 32
  · rw [Array.getElem?_toList, hN j hj]
    simp [rowB, bv, hj]
  · rw [List.getElem?_eq_none (by simp; omega), List.getElem?_eq_none (by simp [rowB]; omega)]
end
end Go.Proofs.YtggijgclnnlfmaaDoor

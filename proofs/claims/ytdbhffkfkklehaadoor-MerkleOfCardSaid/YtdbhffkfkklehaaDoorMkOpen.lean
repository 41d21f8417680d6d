/-
  A list of hashes that a law is handed, opened.
-/
import Derived.Test.YtdbhffkfkklehaaDoorRow
import Derived.Test.YtdbhffkfkklehaaDoorMkMemA
import Derived.Deep.Slices
import Derived.Deep.SlicePairs
namespace Go.Proofs.YtdbhffkfkklehaaDoor
open Go.ChangeShapes Go.WideShapes Go.ChangeAt Go.RowKit Go.Deep
set_option linter.unusedVariables false
set_option linter.unusedSimpArgs false
set_option maxRecDepth 20000

theorem cells_hash32 : Tryd.prog.cellsOf 39 = 32 := by kernel_rfl
section
variable {H : Type} {enc : TypeId × Value → H}
/-- A hash's cells. -/
theorem open_hash_cells {W : World} {fuel : Nat} {cs : List Value} {x : DataW H × List MemPlace} (hl : cs.length = 32) (hf : DataW.trod enc Tryd.prog W 0 (fun _ => true) true fuel 39 cs = some x) :
    ∃ l : List UInt8, cs = hcells l ∧ l.length = 32 := by
  obtain ⟨xs, m, _, _, _, hxl, hx⟩ := DataW.trod_array Tryd.underlying39 hf
  have each : ∀ i, i < 32 → ∃ n : UInt8, cs[i]? = some (.int .u8 (n.toNat : Int)) := fun i hi => by
    have h1 := hx i hi
    rw [List.getElem?_eq_getElem (by omega)] at h1
    obtain ⟨k, e, _, hw⟩ := DataW.trod_int Tryd.underlying5 h1
    have hb := bounds_u8 hw
    refine ⟨UInt8.ofNat k.toNat, ?_⟩
    rw [cells_u8, Nat.mul_one] at e
    have := congrArg (fun l => l[0]?) e
    have e2 : (UInt8.ofNat k.toNat).toNat = k.toNat := by
      rw [UInt8.toNat_ofNat']; exact Nat.mod_eq_of_lt (by omega)
    rw [e2, show ((k.toNat : Nat) : Int) = k by omega]
    simpa [List.getElem?_take] using this
  obtain ⟨N, hN⟩ := choose_lt (α := UInt8) (p := fun i n => cs[i]? = some (.int .u8 (n.toNat : Int))) each
  refine ⟨(List.range 32).map N, ?_, by simp⟩
  apply List.ext_getElem?
  intro j
  by_cases hj : j < 32
  · rw [hN j hj]
    simp [hcells, bv, hj]
  · rw [List.getElem?_eq_none (by omega), List.getElem?_eq_none (by simp [hcells]; omega)]
/-- An argument of hashes, opened. -/
theorem open_hashes {W : World} {base : Nat} {v : Value} {d : DataW H} {ps : List MemPlace} (hv : Value.okWide Tryd.prog W .any base 27 v) (h : DataW.Trod enc Tryd.prog W 0 (fun _ => true) true 27 v d ps) :
    ∃ L : List (List UInt8), Sh W v L := by
  obtain ⟨a0, len, cap, rfl⟩ := okWide_slice Tryd.underlying27 hv
  obtain ⟨fuel, hf⟩ := h
  rcases open_slice Tryd.underlying27 hf with ⟨hcs, hx⟩ | ⟨a, len', cap', m, n, D, Pl, hcs, _, hl, hm, hmm, hx, hall⟩
  · simp [Value.cells] at hcs
    obtain ⟨rfl, rfl, rfl⟩ := hcs
    exact ⟨[], Sh.nil _ _⟩
  · simp [Value.cells] at hcs
    obtain ⟨rfl, rfl, rfl⟩ := hcs
    simp only [if_true] at hmm
    subst hmm
    rw [cells_hash32] at hall
    have each : ∀ i, i < m → ∃ l : List UInt8, l.length = 32 ∧ ∀ j u, (hcells l)[j]? = some u → W.cell? (a.add (i * 32 + j)) = some u := by
      intro i hi
      obtain ⟨cs', h1, h2⟩ := hall i hi
      obtain ⟨_, hlen, hc⟩ := World.cells?_some h1
      obtain ⟨l, rfl, hl32⟩ := open_hash_cells hlen h2
      refine ⟨l, hl32, fun j u hu => ?_⟩
      have hj : j < 32 := by
        have := (List.getElem?_eq_some_iff.1 hu).1
        rwa [hlen] at this
      have := hc j (by omega)
      rw [add_of_add] at this
      rw [this, hu]
    obtain ⟨q, hq⟩ := choose_lt each
    have hll : ((List.range len).map q).length = len := by simp
    refine ⟨(List.range len).map q, ?_, some a, m, by rw [hll], by rw [hll]; exact hl, fun hn => ?_⟩
    · intro x hx
      obtain ⟨i, hi, rfl⟩ := List.mem_map.1 hx
      exact (hq i (by have := List.mem_range.1 hi; omega)).1
    rw [hll] at hn
    obtain ⟨b, off, spot⟩ := a
    have hspot : spot = none := by
      have h0 := (hq 0 (by omega)).2 0 _ (List.getElem?_eq_getElem (by rw [hcells_length, (hq 0 (by omega)).1]; decide))
      simpa [Addr.add] using World.cell?_spot h0
    subst hspot
    refine ⟨b, off, rfl, fun j hj i u hu => ?_⟩
    rw [hll] at hj
    have := (hq j (by omega)).2 i u (by simpa using hu)
    rw [add_plain] at this
    rw [Nat.add_assoc]
    exact this
end
end Go.Proofs.YtdbhffkfkklehaaDoor

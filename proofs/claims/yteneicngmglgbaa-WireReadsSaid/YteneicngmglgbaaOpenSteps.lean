/-
  A list of steps, opened.
-/
import Derived.Test.YteneicngmglgbaaLooks
import Derived.Test.YteneicngmglgbaaOpen
namespace Go.Proofs.Yteneicngmglgbaa.RB
open Go.ChangeShapes Go.WideShapes Go.ChangeAt Go.RowKit Go.Deep
set_option linter.unusedVariables false
theorem cells_step : Try.prog.cellsOf 62 = 2 := by kernel_rfl
section
variable {H : Type} {enc : TypeId × Value → H}
theorem open_steps {W : World} {base : Nat} {v : Value} {d : DataW H} {ps : List MemPlace} (hv : Value.okWide Try.prog W .any base 54 v) (h : DataW.Trod enc Try.prog W 0 (fun _ => true) true 54 v d ps) :
    ∃ ls : List (Int × Int), Stp W v ls := by
  obtain ⟨a0, len, cap, rfl⟩ := okWide_slice Try.underlying54 hv
  obtain ⟨fuel, hf⟩ := h
  rcases open_slice Try.underlying54 hf with ⟨hcs, hx⟩ | ⟨a, len', cap', m, n, D, Pl, hcs, _, hl, hm, hmm, hx, hall⟩
  · simp [Value.cells] at hcs
    obtain ⟨rfl, rfl, rfl⟩ := hcs
    exact ⟨[], none, 0, rfl, Nat.le_refl _, fun h => absurd h (by simp)⟩
  · simp [Value.cells] at hcs
    obtain ⟨rfl, rfl, rfl⟩ := hcs
    simp only [if_true] at hmm
    subst hmm
    rw [cells_step] at hall
    have each : ∀ i, i < m → ∃ x : Int × Int, W.cell? ((a.add (i * 2)).add 0) = some (.int .i64 x.1) ∧ W.cell? ((a.add (i * 2)).add 1) = some (.int .i64 x.2) := fun i hi => by
      obtain ⟨cs', hc, ht⟩ := hall i hi
      obtain ⟨_, hlen, hat⟩ := World.cells?_some hc
      obtain ⟨y0, y1, m', _, _, h0, h1⟩ := trod_struct2 Try.underlying62 ht
      obtain ⟨k0, e0, _, hw0⟩ := DataW.trod_int Try.underlying3 h0
      obtain ⟨k1, e1, _, hw1⟩ := DataW.trod_int Try.underlying3 h1
      match hcs : cs', hlen with
      | [u0, u1], _ =>
        simp [cells_int] at e0 e1
        have c0 := hat 0 (by decide)
        have c1 := hat 1 (by decide)
        exact ⟨(k0, k1), by rw [c0]; simp [e0], by rw [c1]; simp [e1]⟩
    obtain ⟨X, hX⟩ := choose_lt (α := Int × Int) (p := fun i x => W.cell? ((a.add (i * 2)).add 0) = some (.int .i64 x.1) ∧ W.cell? ((a.add (i * 2)).add 1) = some (.int .i64 x.2)) each
    have hll : ((List.range len).map X).length = len := by simp
    refine ⟨(List.range len).map X, some a, m, by rw [hll], by rw [hll]; exact hl, fun hn => ?_⟩
    rw [hll] at hn
    obtain ⟨b, off, spot⟩ := a
    have hspot : spot = none := by simpa [Addr.add] using World.cell?_spot (hX 0 (by omega)).1
    subst hspot
    refine ⟨b, off, rfl, fun j hj => ?_⟩
    rw [hll] at hj
    obtain ⟨c0, c1⟩ := hX j (by omega)
    rw [add_plain, add_plain, Nat.add_zero, Nat.mul_comm] at c0
    rw [add_plain, add_plain, Nat.mul_comm] at c1
    simp only [List.getElem_map, List.getElem_range]
    exact ⟨c0, c1⟩
end
end Go.Proofs.Yteneicngmglgbaa.RB

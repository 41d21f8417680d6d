/-
  A list of dots that a law is handed, opened.
-/
import Derived.Test.YtldfaaahmpncbaaGreatCtxMem
import Derived.Test.YtldfaaahmpncbaaGreatRowLaw
import Derived.Deep.SlicePairs
namespace Go.Proofs.YtldfaaahmpncbaaGreat
open Go.ChangeShapes Go.WideShapes Go.ChangeAt Go.RowKit Go.Deep CtxM
set_option linter.unusedVariables false
set_option maxRecDepth 20000

section
variable {H : Type} {enc : TypeId × Value → H}
/-- An argument of dots, opened. -/
theorem open_dots {W : World} {base : Nat} {v : Value} {d : DataW H} {ps : List MemPlace} (hv : Value.okWide Tryz.prog W .any base 30 v) (h : DataW.Trod enc Tryz.prog W 0 (fun _ => true) true 30 v d ps) :
    ∃ L : List Dt, Sd W v L := by
  obtain ⟨a0, len, cap, rfl⟩ := okWide_slice Tryz.underlying30 hv
  obtain ⟨fuel, hf⟩ := h
  rcases open_slice_pairs Tryz.underlying30 Tryz.underlying41 (by kernel_rfl) rfl rfl (by kernel_rfl) (by kernel_rfl) hf with ⟨hcs, hx⟩ | ⟨a, len', cap', m, n, V0, V1, D0, D1, P0, P1, hcs, _, hl, hm, hmm, hx, hall⟩
  · simp [Value.cells] at hcs
    obtain ⟨rfl, rfl, rfl⟩ := hcs
    exact ⟨[], Sd.nil _ _⟩
  · simp [Value.cells] at hcs
    obtain ⟨rfl, rfl, rfl⟩ := hcs
    simp only [if_true] at hmm
    subst hmm
    have each : ∀ i, i < m → ∃ q : Dt, V0 i = .int .i64 q.1 ∧ V1 i = .int .u64 (q.2 : Int) := by
      intro i hi
      obtain ⟨_, _, t0, t1⟩ := hall i hi
      obtain ⟨n0, e0, _, _⟩ := DataW.trod_int Tryz.underlying3 t0
      obtain ⟨n1, e1, _, w1⟩ := DataW.trod_int Tryz.underlying28 t1
      have hb := bounds_u64 w1
      obtain ⟨k, rfl⟩ : ∃ k : Nat, n1 = (k : Int) := ⟨n1.toNat, by omega⟩
      injection e0 with e0 _
      injection e1 with e1 _
      exact ⟨(n0, k), e0, e1⟩
    obtain ⟨q, hq⟩ := choose_lt each
    have hll : ((List.range len).map q).length = len := by simp
    refine ⟨(List.range len).map q, some a, m, by rw [hll], by rw [hll]; exact hl, fun hn => ?_⟩
    rw [hll] at hn
    obtain ⟨b, off, spot⟩ := a
    have hspot : spot = none := by simpa [Addr.add] using World.cell?_spot (hall 0 (by omega)).1
    subst hspot
    refine ⟨b, off, rfl, fun j hj => ?_⟩
    rw [hll] at hj
    have c0 := (hall j (by omega)).1
    have c1 := (hall j (by omega)).2.1
    rw [add_plain] at c0 c1
    rw [(hq j (by omega)).1] at c0
    rw [(hq j (by omega)).2] at c1
    exact ⟨by simpa using c0, by simpa [Nat.add_assoc] using c1⟩
end
end Go.Proofs.YtldfaaahmpncbaaGreat

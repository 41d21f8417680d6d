/-
  A list of lists of bytes, opened, with its reach.
-/
import Derived.Test.YtbglghjmcjdmeaaCrcRow
import Derived.Test.YtbglghjmcjdmeaaCrcSum
import Derived.Deep.Slices
namespace Go.Proofs.Ytbglghjmcjdmeaa
open Go.ChangeShapes Go.WideShapes Go.ChangeAt Go.RowKit Go.Deep
set_option linter.unusedVariables false

theorem cells_sl : Try.prog.cellsOf 23 = 1 := by kernel_rfl

section
variable {H : Type} {enc : TypeId × Value → H}
/-- Cells that read as bytes, with their reach. -/
theorem open_cells_reached {W : World} {v : Value} {fuel : Nat} {x : DataW H × List MemPlace} (hf : DataW.trod enc Try.prog W 0 (fun _ => true) true fuel 23 [v] = some x) : ∃ l : List UInt8, Sl W v l ∧ Reached x.1 l := by
  obtain ⟨l, hs⟩ := open_bytes_cells hf
  refine ⟨l, hs, ?_⟩
  rcases open_ints Try.underlying23 Try.underlying5 cells_u8 hf with ⟨hcs, hx⟩ | ⟨a, len', cap', zs, hcs, _, hl, hm, hz, hx, hcell, hwz⟩
  · injection hcs with hcs _
    subst hcs
    exact .inl (List.eq_nil_of_length_eq_zero hs.len.symm)
  · injection hcs with hcs _
    subst hcs
    have hlen := hs.len
    simp only [if_true] at hz
    refine .inr ⟨_, _, by rw [hx], ?_⟩
    simp [lits]
    omega
theorem weights_mem_all {P : Program} {e : TypeId} : ∀ {ds : List (DataW H)} {d : DataW H}, d ∈ ds → ∀ n ∈ d.weights P e, n ∈ DataW.weightsAll P e ds
  | d0 :: ds, d, hd, n, hn => by
    simp only [DataW.weightsAll, List.mem_append]
    rcases List.mem_cons.1 hd with rfl | h
    · exact .inl hn
    · exact .inr (weights_mem_all h n hn)
theorem open_rows {W : World} {base : Nat} {v : Value} {d : DataW H} {ps : List MemPlace} {ts : List TypeId} {ds : List (DataW H)} {j : Nat} (hv : Value.okWide Try.prog W .any base 22 v) (h : DataW.Trod enc Try.prog W 0 (fun _ => true) true 22 v d ps)
    (hsz : (DataW.weightsEach Try.prog ts ds).all (fun x => decide (x ≤ reachBytes)) = true) (ht : ts[j]? = some 22) (hd : ds[j]? = some d) :
    ∃ ls : List (List UInt8), Sls W v ls ∧ ls.length ≤ 9223372036854775807 ∧ ∀ l ∈ ls, l.length ≤ 140737488351232 := by
  obtain ⟨a0, len, cap, rfl⟩ := okWide_slice Try.underlying22 hv
  obtain ⟨fuel, hf⟩ := h
  rcases open_slice1 Try.underlying22 cells_sl hf with ⟨hcs, hx⟩ | ⟨a, len', cap', m, n, V, D, Pl, hcs, _, hl, hm, hmm, hx, hall⟩
  · simp [Value.cells] at hcs
    obtain ⟨rfl, rfl, rfl⟩ := hcs
    exact ⟨[], ⟨none, 0, rfl, Nat.le_refl _, fun h => absurd h (by simp)⟩, by simp, by simp⟩
  · simp [Value.cells] at hcs
    obtain ⟨rfl, rfl, rfl⟩ := hcs
    simp only [if_true] at hmm
    subst hmm
    have each : ∀ i, i < m → ∃ l : List UInt8, Sl W (V i) l ∧ Reached (D i) l := fun i hi => open_cells_reached (hall i hi).2
    obtain ⟨L, hL⟩ := choose_lt (α := List UInt8) (p := fun i l => Sl W (V i) l ∧ Reached (D i) l) each
    have hll : ((List.range len).map L).length = len := by simp
    refine ⟨(List.range len).map L, ⟨some a, m, by rw [hll], by rw [hll]; exact hl, fun hn => ?_⟩, by rw [hll]; unfold maxLen at hm; omega, ?_⟩
    · rw [hll] at hn
      obtain ⟨b, off, spot⟩ := a
      have hspot : spot = none := by simpa [Addr.add] using World.cell?_spot (hall 0 (by omega)).1
      subst hspot
      refine ⟨b, off, rfl, fun j hj => ?_⟩
      rw [hll] at hj
      have hc := (hall j (by omega)).1
      rw [add_plain] at hc
      exact ⟨V j, hc, by simpa using (hL j (by omega)).1⟩
    · intro l hl2
      obtain ⟨i, hi, rfl⟩ := List.mem_map.1 hl2
      have hi' : i < len := by simpa using hi
      rcases (hL i (by omega)).2 with h0 | ⟨elems, spare, he, hle⟩
      · rw [h0]; simp
      · have hd2 := (Prod.mk.inj hx).1
        subst hd2
        have hw : (elems.length + spare.length) * Try.prog.bytesOf 5 ∈ DataW.weightsEach Try.prog ts ds := by
          refine DataW.weights_mem_each ht hd _ ?_
          simp only [DataW.weights, Try.underlying22, List.mem_cons, List.mem_append]
          refine .inr (.inl (weights_mem_all (List.mem_map.2 ⟨i, hi, rfl⟩) _ ?_))
          rw [he]
          simp [DataW.weights, Try.underlying23]
        have hw2 := of_decide_eq_true (List.all_eq_true.1 hsz _ hw)
        rw [bytes_u8] at hw2
        simp only [reachBytes] at hw2
        omega
end
end Go.Proofs.Ytbglghjmcjdmeaa

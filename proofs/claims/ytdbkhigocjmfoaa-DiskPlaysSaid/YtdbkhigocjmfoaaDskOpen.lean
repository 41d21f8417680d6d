/-
  Steps, numbers that a law is handed, opened.
-/
import Derived.Test.YtdbkhigocjmfoaaDskMuch
import Derived.Test.YtdbkhigocjmfoaaRowLaw
import Derived.Deep.Slices
namespace Go.Proofs.Ytdbkhigocjmfoaa
open Go.ChangeShapes Go.WideShapes Go.ChangeAt Go.RowKit Go.Deep
set_option linter.unusedVariables false
set_option linter.unusedSimpArgs false
set_option maxRecDepth 20000

instance : Inhabited St := ⟨⟨0, 0, ⟨#[]⟩, ⟨#[]⟩, [], .nilFunc, [], .nilFunc⟩⟩
theorem cells_u8 : Try.prog.cellsOf 5 = 1 := by kernel_rfl
theorem cells_step : Try.prog.cellsOf 41 = 6 := by kernel_rfl
section
variable {H : Type} {enc : TypeId × Value → H}
/-- Cells that read as a slice of bytes. -/
theorem open_bytes_cells {W : World} {v : Value} {fuel : Nat} {x : DataW H × List MemPlace} (hf : DataW.trod enc Try.prog W 0 (fun _ => true) true fuel 38 [v] = some x) : ∃ l : List UInt8, Sl W v l := by
  rcases open_ints Try.underlying38 Try.underlying5 cells_u8 hf with ⟨hcs, hx⟩ | ⟨a, len, cap, zs, hcs, _, hl, hm, hz, hx, hcell, hwz⟩
  · injection hcs with hcs _
    subst hcs
    exact ⟨[], Sl.nil _ _⟩
  · injection hcs with hcs _
    subst hcs
    simp only [if_true] at hz
    have hlz : ((zs.take len).map (fun z => UInt8.ofNat z.toNat)).length = len := by simp; omega
    refine ⟨(zs.take len).map (fun z => UInt8.ofNat z.toNat), _, cap, by rw [hlz], by rw [hlz]; exact hl, fun hn => ?_⟩
    rw [hlz] at hn
    obtain ⟨b, off, spot⟩ := a
    have hspot : spot = none := by simpa [Addr.add] using World.cell?_spot (hcell 0 (by omega))
    subst hspot
    refine ⟨b, off, rfl, fun j hj => ?_⟩
    rw [hlz] at hj
    have hc := hcell j (by omega)
    rw [add_plain] at hc
    rw [hc]
    have hj' : j < zs.length := by omega
    have hw := bounds_u8 (hwz zs[j] (List.getElem_mem hj'))
    have e1 : zs.getD j 0 = zs[j] := by simp [List.getD, List.getElem?_eq_getElem hj']
    rw [e1]
    simp only [List.getElem_map, List.getElem_take]
    congr 2
    have : (UInt8.ofNat zs[j].toNat).toNat = zs[j].toNat := by
      have h2 : zs[j].toNat < 256 := by omega
      simp only [UInt8.toNat_ofNat']; exact Nat.mod_eq_of_lt h2
    rw [this]; omega
theorem open_nums_cells {W : World} {v : Value} {fuel : Nat} {x : DataW H × List MemPlace} (hf : DataW.trod enc Try.prog W 0 (fun _ => true) true fuel 39 [v] = some x) : ∃ O : List Int, SlN W v O := by
  rcases open_ints Try.underlying39 Try.underlying3 (by kernel_rfl) hf with ⟨hcs, hx⟩ | ⟨a, len, cap, zs, hcs, _, hl, hm, hz, hx, hcell, hwz⟩
  · injection hcs with hcs _
    subst hcs
    exact ⟨[], SlN.nil _ _ _ (by omega)⟩
  · injection hcs with hcs _
    subst hcs
    simp only [if_true] at hz
    have hlz : (zs.take len).length = len := by simp; omega
    refine ⟨zs.take len, some a, cap, by rw [hlz], by rw [hlz]; exact hl, by unfold maxLen at hm; omega, fun hn => ?_⟩
    rw [hlz] at hn
    obtain ⟨b, off, spot⟩ := a
    have hspot : spot = none := by simpa [Addr.add] using World.cell?_spot (hcell 0 (by omega))
    subst hspot
    refine ⟨b, off, rfl, fun j hj => ?_⟩
    rw [hlz] at hj
    have hc := hcell j (by omega)
    rw [add_plain] at hc
    rw [hc]
    have e1 : zs.getD j 0 = zs[j]'(by omega) := by simp [List.getD, List.getElem?_eq_getElem (show j < zs.length by omega)]
    rw [e1]
    simp only [List.getElem_take]
theorem open_keep {W : World} {base : Nat} {v : Value} {d : DataW H} {ps : List MemPlace} (hv : Value.okWide Try.prog W .any base 39 v) (h : DataW.Trod enc Try.prog W 0 (fun _ => true) true 39 v d ps) :
    ∃ O : List Int, SlN W v O := by
  obtain ⟨a0, len, cap, rfl⟩ := okWide_slice Try.underlying39 hv
  obtain ⟨fuel, hf⟩ := h
  exact open_nums_cells hf
/-- One step's cells. -/
theorem open_step {W : World} {a : Addr} {i fuel : Nat} {cs : List Value} {x : DataW H × List MemPlace} (hcs : W.cells? 0 (a.add (i * Try.prog.cellsOf 41)) (Try.prog.cellsOf 41) = some cs)
    (hf : DataW.trod enc Try.prog W 0 (fun _ => true) true fuel 41 cs = some x) :
    ∃ s : St, (∀ j v, s.cs.toList[j]? = some v → W.cell? (a.add (i * 6 + j)) = some v) ∧ St0 W s := by
  rw [cells_step] at hcs
  obtain ⟨_, hlen, hcell⟩ := World.cells?_some hcs
  obtain ⟨xs, k, hk, hxy, _, hxl, hg⟩ := DataW.trod_struct Try.underlying41 hf
  match xs, hxl, cs, hlen with
  | [y0, y1, y2, y3, y4, y5], _, [v0, v1, v2, v3, v4, v5], _ =>
    have g0 := hg 0 _ rfl
    have g1 := hg 1 _ rfl
    have g2 := hg 2 _ rfl
    have g3 := hg 3 _ rfl
    have g4 := hg 4 _ rfl
    have g5 := hg 5 _ rfl
    have c0 : Try.prog.cellsOf 3 = 1 := by kernel_rfl
    have c1 : Try.prog.cellsOf 9 = 1 := by kernel_rfl
    have c2 : Try.prog.cellsOf 38 = 1 := by kernel_rfl
    have c3 : Try.prog.cellsOf 39 = 1 := by kernel_rfl
    simp only [c0, c1, c2, c3, List.drop_zero, List.drop_succ_cons, List.take_succ_cons, List.take_zero, List.getElem?_cons_zero, List.getElem?_cons_succ] at g0 g1 g2 g3 g4 g5
    obtain ⟨n0, e0, _, w0⟩ := DataW.trod_int Try.underlying3 g0
    obtain ⟨n1, e1, _, w1⟩ := DataW.trod_int Try.underlying3 g1
    obtain ⟨s2, e2, _, _⟩ := DataW.trod_string Try.underlying9 g2
    obtain ⟨s3, e3, _, _⟩ := DataW.trod_string Try.underlying9 g3
    obtain ⟨l4, h4⟩ := open_bytes_cells g4
    obtain ⟨l5, h5⟩ := open_nums_cells g5
    injection e0 with e0 _
    injection e1 with e1 _
    injection e2 with e2 _
    injection e3 with e3 _
    subst e0 e1 e2 e3
    have hb := bounds_i64 w1
    refine ⟨⟨n0, n1, s2, s3, l4, v4, l5, v5⟩, fun j v hv => ?_, h4, h5, hb.1, hb.2⟩
    have hj : j < 6 := by
      have := (List.getElem?_eq_some_iff.1 hv).1
      simpa [St.cs] using this
    have e := hcell j hj
    rw [add_add] at e
    rw [e]
    exact hv
theorem open_steps {W : World} {base : Nat} {v : Value} {d : DataW H} {ps : List MemPlace} (hv : Value.okWide Try.prog W .any base 22 v) (h : DataW.Trod enc Try.prog W 0 (fun _ => true) true 22 v d ps) :
    ∃ L : List St, Sts W v L := by
  obtain ⟨a0, len, cap, rfl⟩ := okWide_slice Try.underlying22 hv
  obtain ⟨fuel, hf⟩ := h
  rcases open_slice Try.underlying22 hf with ⟨hcs, hx⟩ | ⟨a, len', cap', m, n, D, Pl, hcs, _, hl, hm, hmm, hx, hall⟩
  · simp [Value.cells] at hcs
    obtain ⟨rfl, rfl, rfl⟩ := hcs
    exact ⟨[], none, 0, rfl, Nat.le_refl _, fun h => absurd h (by simp)⟩
  · simp [Value.cells] at hcs
    obtain ⟨rfl, rfl, rfl⟩ := hcs
    simp only [if_true] at hmm
    subst hmm
    have each : ∀ i, i < m → ∃ s : St, (∀ j v, s.cs.toList[j]? = some v → W.cell? (a.add (i * 6 + j)) = some v) ∧ St0 W s := by
      intro i hi
      obtain ⟨cs, h1, h2⟩ := hall i hi
      exact open_step h1 h2
    obtain ⟨q, hq⟩ := choose_lt each
    have hll : ((List.range len).map q).length = len := by simp
    refine ⟨(List.range len).map q, some a, m, by rw [hll], by rw [hll]; exact hl, fun hn => ?_⟩
    rw [hll] at hn
    obtain ⟨b, off, spot⟩ := a
    have hspot : spot = none := by simpa [Addr.add] using World.cell?_spot ((hq 0 (by omega)).1 0 _ rfl)
    subst hspot
    refine ⟨b, off, rfl, fun j hj => ?_⟩
    rw [hll] at hj
    obtain ⟨hc, h0⟩ := hq j (by omega)
    have e : ((List.range len).map q)[j] = q j := by simp
    rw [e]
    refine ⟨⟨?_, ?_, ?_, ?_, ?_, ?_⟩, h0⟩
    · have := hc 0 _ rfl; rw [add_plain] at this; exact this
    · have := hc 1 _ rfl; rw [add_plain, ← Nat.add_assoc] at this; exact this
    · have := hc 2 _ rfl; rw [add_plain, ← Nat.add_assoc] at this; exact this
    · have := hc 3 _ rfl; rw [add_plain, ← Nat.add_assoc] at this; exact this
    · have := hc 4 _ rfl; rw [add_plain, ← Nat.add_assoc] at this; exact this
    · have := hc 5 _ rfl; rw [add_plain, ← Nat.add_assoc] at this; exact this
end
end Go.Proofs.Ytdbkhigocjmfoaa

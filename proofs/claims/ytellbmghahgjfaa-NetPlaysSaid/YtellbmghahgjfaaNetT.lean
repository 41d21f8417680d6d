/-
  Acts in memory, opened; the walk of the laws' much.
-/
import Derived.Test.YtellbmghahgjfaaNetO
import Derived.Test.YtellbmghahgjfaaRowLaw
import Derived.Deep.Slices
namespace Go.Proofs.Ytellbmghahgjfaa
open Go.ChangeShapes Go.WideShapes Go.ChangeAt Go.RowKit Go.Deep
set_option linter.unusedVariables false
set_option linter.unusedSimpArgs false
set_option maxRecDepth 100000
namespace NA
/-- An act, as the laws are handed it. -/
structure St where
  kind : Int
  x : Int
  y : Int
  b : List UInt8
  bv : Value
instance : Inhabited St := ⟨⟨0, 0, 0, [], .slice none 0 0⟩⟩
def St.cs (s : St) : Array Value := #[.int .i64 s.kind, .int .i64 s.x, .int .i64 s.y, s.bv]
/-- An act as it came, of whatever length. -/
structure St0 (w : World) (s : St) : Prop where
  b : Sl w s.bv s.b
  k1 : -9223372036854775808 ≤ s.kind
  k2 : s.kind ≤ 9223372036854775807
  x1 : -9223372036854775808 ≤ s.x
  x2 : s.x ≤ 9223372036854775807
  y1 : -9223372036854775808 ≤ s.y
  y2 : s.y ≤ 9223372036854775807
theorem St0.below {w w' : World} {s : St} (h : St0 w s) (hb : Below w.heap.size w w') : St0 w' s := ⟨h.b.below hb, h.k1, h.k2, h.x1, h.x2, h.y1, h.y2⟩
/-- The cells of an act. -/
def StCells (w : World) (b o : Nat) (s : St) : Prop :=
  w.cell? ⟨b, o, none⟩ = some (.int .i64 s.kind) ∧ w.cell? ⟨b, o + 1, none⟩ = some (.int .i64 s.x) ∧ w.cell? ⟨b, o + 2, none⟩ = some (.int .i64 s.y) ∧ w.cell? ⟨b, o + 3, none⟩ = some s.bv
theorem StCells.below {w w' : World} {b o : Nat} {s : St} (h : StCells w b o s) (hb : Below w.heap.size w w') : StCells w' b o s := by
  obtain ⟨h0, h1, h2, h3⟩ := h
  have c : ∀ {p : Addr} {u : Value}, w.cell? p = some u → w'.cell? p = some u := fun hu => (hb.cell (World.block_lt_of_cell? w _ hu)).trans hu
  exact ⟨c h0, c h1, c h2, c h3⟩
/-- A list of acts. -/
def Sts (w : World) (v : Value) (L : List St) : Prop :=
  ∃ A c, v = .slice A L.length c ∧ L.length ≤ c ∧ (0 < L.length → ∃ b o, A = some ⟨b, o, none⟩ ∧ ∀ j (h : j < L.length), StCells w b (o + j * 4) L[j] ∧ St0 w L[j])
theorem Sts.below {w w' : World} {v : Value} {L : List St} (h : Sts w v L) (hb : Below w.heap.size w w') : Sts w' v L := by
  obtain ⟨A, c, rfl, hc, ha⟩ := h
  refine ⟨A, c, rfl, hc, fun h0 => ?_⟩
  obtain ⟨b, o, e, hx⟩ := ha h0
  exact ⟨b, o, e, fun j hj => ⟨(hx j hj).1.below hb, (hx j hj).2.below hb⟩⟩
def mn (n : Nat) : Nat := if n < 20001 then n else 20001
def mcS (L : List St) (k : Nat) : Nat := ((L.take k).map (fun s => mn s.b.length)).sum
theorem mcS_zero (L : List St) : mcS L 0 = 0 := by simp [mcS]
theorem mcS_succ (L : List St) (k : Nat) (h : k < L.length) : mcS L (k + 1) = mcS L k + mn L[k].b.length := by
  unfold mcS
  rw [List.take_succ_eq_append_getElem h, List.map_append, List.sum_append]
  simp
/-- How many of the first k have kind 6. -/
def six (L : List St) (k : Nat) : Nat := ((L.take k).filter (fun s => s.kind == 6)).length
theorem six_zero (L : List St) : six L 0 = 0 := by simp [six]
theorem six_succ (L : List St) (k : Nat) (h : k < L.length) : six L (k + 1) = six L k + (if L[k].kind = 6 then 1 else 0) := by
  unfold six
  rw [List.take_succ_eq_append_getElem h, List.filter_append, List.length_append]
  by_cases h6 : L[k].kind = 6 <;> simp [h6]
theorem sum_mem : ∀ {l : List Nat} {x : Nat}, x ∈ l → x ≤ l.sum
  | y :: l, x, h => by
    rw [List.sum_cons]
    rcases List.mem_cons.1 h with rfl | h
    · omega
    · have := sum_mem h; omega
theorem mn_small {n : Nat} (h : mn n ≤ 20000) : mn n = n := by
  unfold mn at h ⊢
  split at h <;> simp_all
theorem sum_b : ∀ {L : List St}, (∀ s ∈ L, mn s.b.length ≤ 20000) → (L.map (fun s => mn s.b.length)).sum = (L.map (fun s => s.b.length)).sum
  | [], _ => by simp
  | s :: L, h => by
    have h1 := mn_small (h s (List.mem_cons_self ..))
    have h2 := sum_b (L := L) (fun x hx => h x (List.mem_cons_of_mem _ hx))
    simp only [List.map_cons, List.sum_cons, h1, h2]
/-- Few acts, and small ones. -/
structure Few (L : List St) : Prop where
  len : L.length ≤ 60
  sum : (L.map (fun s => s.b.length)).sum ≤ 20000
  six : (L.filter (fun s => s.kind == 6)).length ≤ 3
  hun : ∀ s ∈ L, s.kind = 6 → s.b.length ≤ 100
theorem Few.b {L : List St} (h : Few L) : ∀ s ∈ L, s.b.length ≤ 20000 := by
  intro s hs
  have : s.b.length ≤ (L.map (fun s => s.b.length)).sum := sum_mem (List.mem_map.2 ⟨s, hs, rfl⟩)
  have := h.sum
  omega
theorem few_of {L : List St} (h0 : L.length ≤ 60) (h1 : mcS L L.length ≤ 20000) (h2 : NA.six L L.length ≤ 3) (h3 : ∀ j (h : j < L.length), L[j].kind = 6 → L[j].b.length ≤ 100) : Few L := by
  unfold mcS at h1
  unfold NA.six at h2
  rw [List.take_length] at h1 h2
  have hb : ∀ s ∈ L, mn s.b.length ≤ 20000 := by
    intro s hs
    have : mn s.b.length ≤ (L.map (fun s => mn s.b.length)).sum := sum_mem (List.mem_map.2 ⟨s, hs, rfl⟩)
    omega
  refine ⟨h0, by rw [← sum_b hb]; exact h1, h2, fun s hs h6 => ?_⟩
  obtain ⟨j, hj, rfl⟩ := List.mem_iff_getElem.1 hs
  exact h3 j hj h6

section
variable {H : Type} {enc : TypeId × Value → H}
theorem cells_u8 : Try.prog.cellsOf 5 = 1 := by kernel_rfl
theorem cells_sl : Try.prog.cellsOf 37 = 1 := by kernel_rfl
theorem cells_act : Try.prog.cellsOf 39 = 4 := by kernel_rfl
theorem open_bytes_cells {W : World} {v : Value} {fuel : Nat} {x : DataW H × List MemPlace} (hf : DataW.trod enc Try.prog W 0 (fun _ => true) true fuel 37 [v] = some x) : ∃ l : List UInt8, Sl W v l := by
  rcases open_ints Try.underlying37 Try.underlying5 cells_u8 hf with ⟨hcs, hx⟩ | ⟨a, len, cap, zs, hcs, _, hl, hm, hz, hx, hcell, hwz⟩
  · injection hcs with hcs _
    subst hcs
    exact ⟨[], Sl.nil _ _⟩
  · injection hcs with hcs _
    subst hcs
    simp only [if_true] at hz
    have hlz : ((zs.take len).map (fun z => UInt8.ofNat z.toNat)).length = len := by simp; omega
    refine ⟨(zs.take len).map (fun z => UInt8.ofNat z.toNat), _, cap, by rw [hlz], by rw [hlz]; exact hl, fun hn => ?_⟩
    rw [hlz] at hn
    obtain ⟨b, off, spot⟩ := a
    have hspot : spot = none := by simpa [Addr.add] using World.cell?_spot (hcell 0 (by omega))
    subst hspot
    refine ⟨b, off, rfl, fun j hj => ?_⟩
    rw [hlz] at hj
    have hc := hcell j (by omega)
    rw [WideShapes.add_plain] at hc
    rw [hc]
    have hj' : j < zs.length := by omega
    have hw := bounds_u8 (hwz zs[j] (List.getElem_mem hj'))
    have e1 : zs.getD j 0 = zs[j] := by simp [List.getD, List.getElem?_eq_getElem hj']
    rw [e1]
    simp only [List.getElem_map, List.getElem_take]
    congr 2
    have : (UInt8.ofNat zs[j].toNat).toNat = zs[j].toNat := by
      have h2 : zs[j].toNat < 256 := by omega
      simp only [UInt8.toNat_ofNat']; exact Nat.mod_eq_of_lt h2
    rw [this]; omega
/-- One act's cells. -/
theorem open_act {W : World} {a : Addr} {i fuel : Nat} {cs : List Value} {x : DataW H × List MemPlace} (hcs : W.cells? 0 (a.add (i * Try.prog.cellsOf 39)) (Try.prog.cellsOf 39) = some cs)
    (hf : DataW.trod enc Try.prog W 0 (fun _ => true) true fuel 39 cs = some x) :
    ∃ s : St, (∀ j v, s.cs.toList[j]? = some v → W.cell? (a.add (i * 4 + j)) = some v) ∧ St0 W s := by
  rw [cells_act] at hcs
  obtain ⟨_, hlen, hcell⟩ := World.cells?_some hcs
  obtain ⟨xs, k, hk, hxy, _, hxl, hg⟩ := DataW.trod_struct Try.underlying39 hf
  match xs, hxl, cs, hlen with
  | [y0, y1, y2, y4], _, [v0, v1, v2, v4], _ =>
    have g0 := hg 0 _ rfl
    have g1 := hg 1 _ rfl
    have g2 := hg 2 _ rfl
    have g4 := hg 3 _ rfl
    have c0 : Try.prog.cellsOf 3 = 1 := by kernel_rfl
    have c2 : Try.prog.cellsOf 37 = 1 := by kernel_rfl
    simp only [c0, c2, List.drop_zero, List.drop_succ_cons, List.take_succ_cons, List.take_zero, List.getElem?_cons_zero, List.getElem?_cons_succ] at g0 g1 g2 g4
    obtain ⟨n0, e0, _, w0⟩ := DataW.trod_int Try.underlying3 g0
    obtain ⟨n1, e1, _, w1⟩ := DataW.trod_int Try.underlying3 g1
    obtain ⟨n2, e2, _, w2⟩ := DataW.trod_int Try.underlying3 g2
    obtain ⟨l4, h4⟩ := open_bytes_cells g4
    injection e0 with e0 _
    injection e1 with e1 _
    injection e2 with e2 _
    subst e0 e1 e2
    have b0 := bounds_i64 w0
    have b1 := bounds_i64 w1
    have b2 := bounds_i64 w2
    refine ⟨⟨n0, n1, n2, l4, v4⟩, fun j v hv => ?_, h4, b0.1, b0.2, b1.1, b1.2, b2.1, b2.2⟩
    have hj : j < 4 := by
      have := (List.getElem?_eq_some_iff.1 hv).1
      simpa [St.cs] using this
    have e := hcell j hj
    rw [add_add] at e
    rw [e]
    exact hv
theorem open_acts {W : World} {base : Nat} {v : Value} {d : DataW H} {ps : List MemPlace} (hv : Value.okWide Try.prog W .any base 22 v) (h : DataW.Trod enc Try.prog W 0 (fun _ => true) true 22 v d ps) :
    ∃ L : List St, Sts W v L := by
  obtain ⟨a0, len, cap, rfl⟩ := okWide_slice Try.underlying22 hv
  obtain ⟨fuel, hf⟩ := h
  rcases open_slice Try.underlying22 hf with ⟨hcs, hx⟩ | ⟨a, len', cap', m, n, D, Pl, hcs, _, hl, hm, hmm, hx, hall⟩
  · simp [Value.cells] at hcs
    obtain ⟨rfl, rfl, rfl⟩ := hcs
    exact ⟨[], none, 0, rfl, Nat.le_refl _, fun h => absurd h (by simp)⟩
  · simp [Value.cells] at hcs
    obtain ⟨rfl, rfl, rfl⟩ := hcs
    simp only [if_true] at hmm
    subst hmm
    have each : ∀ i, i < m → ∃ s : St, (∀ j v, s.cs.toList[j]? = some v → W.cell? (a.add (i * 4 + j)) = some v) ∧ St0 W s := by
      intro i hi
      obtain ⟨cs, h1, h2⟩ := hall i hi
      exact open_act h1 h2
    obtain ⟨q, hq⟩ := choose_lt each
    have hll : ((List.range len).map q).length = len := by simp
    refine ⟨(List.range len).map q, some a, m, by rw [hll], by rw [hll]; exact hl, fun hn => ?_⟩
    rw [hll] at hn
    obtain ⟨b, off, spot⟩ := a
    have hspot : spot = none := by simpa [Addr.add] using World.cell?_spot ((hq 0 (by omega)).1 0 _ rfl)
    subst hspot
    refine ⟨b, off, rfl, fun j hj => ?_⟩
    rw [hll] at hj
    obtain ⟨hc, h0⟩ := hq j (by omega)
    have e : ((List.range len).map q)[j] = q j := by simp
    rw [e]
    refine ⟨⟨?_, ?_, ?_, ?_⟩, h0⟩
    · have := hc 0 _ rfl; rw [WideShapes.add_plain] at this; exact this
    · have := hc 1 _ rfl; rw [WideShapes.add_plain, ← Nat.add_assoc] at this; exact this
    · have := hc 2 _ rfl; rw [WideShapes.add_plain, ← Nat.add_assoc] at this; exact this
    · have := hc 3 _ rfl; rw [WideShapes.add_plain, ← Nat.add_assoc] at this; exact this
end
end NA
end Go.Proofs.Ytellbmghahgjfaa

/-
  Arguments that orset's laws are handed, opened: lists of items, of whole numbers.
-/
import Derived.Test.YtldfaaahmpncbaaGreatOrtS
import Derived.Test.YtldfaaahmpncbaaGreatOrtO
import Derived.Test.YtldfaaahmpncbaaGreatCtxOpen
namespace Go.Proofs.YtldfaaahmpncbaaGreat
open Go.ChangeShapes Go.WideShapes Go.ChangeAt Go.RowKit Go.Deep CtxM
set_option linter.unusedVariables false
set_option linter.unusedSimpArgs false
set_option maxRecDepth 20000
theorem cells_item : Tryz.prog.cellsOf 48 = 5 := by kernel_rfl
theorem cells_dot : Tryz.prog.cellsOf 41 = 2 := by kernel_rfl
theorem cells_oneint : Tryz.prog.cellsOf 3 = 1 := by kernel_rfl
theorem cells_one64 : Tryz.prog.cellsOf 28 = 1 := by kernel_rfl
theorem cells_onebool : Tryz.prog.cellsOf 4 = 1 := by kernel_rfl
section
variable {H : Type} {enc : TypeId × Value → H} {W : World} {base : Nat}
theorem open_slk {α : Type} [Inhabited α] {k : Kd α} {t : TypeId} (ht : Tryz.prog.underlying t = some (.slice k.ty)) (hc : Tryz.prog.cellsOf k.ty = k.sz)
    (hel : ∀ {fuel : Nat} {cs : List Value} {x : DataW H × List MemPlace}, DataW.trod enc Tryz.prog W 0 (fun _ => true) true fuel k.ty cs = some x → ∃ a, cs = k.en a)
    {v : Value} {d : DataW H} {ps : List MemPlace} (hv : Value.okWide Tryz.prog W .any base t v) (h : DataW.Trod enc Tryz.prog W 0 (fun _ => true) true t v d ps) : ∃ L : List α, SlK k W v L := by
  obtain ⟨a0, len, cap, rfl⟩ := okWide_slice ht hv
  obtain ⟨fuel, hf⟩ := h
  rcases open_slice ht hf with ⟨hcs, _⟩ | ⟨a, len', cap', m, n, D, Pl, hcs, _, hl, hm, hmm, _, hx⟩
  · simp [Value.cells] at hcs
    obtain ⟨rfl, rfl, rfl⟩ := hcs
    exact ⟨[], SlK.nil _ _⟩
  · simp [Value.cells] at hcs
    obtain ⟨rfl, rfl, rfl⟩ := hcs
    simp only [if_true] at hmm
    subst hmm
    have each : ∀ i, i < m → ∃ q : α, ∀ j u, (k.en q)[j]? = some u → W.cell? (a.add (i * k.sz + j)) = some u := by
      intro i hi
      obtain ⟨cs', h1, h2⟩ := hx i hi
      rw [hc] at h1
      obtain ⟨_, hlen, hcell⟩ := World.cells?_some h1
      obtain ⟨q, rfl⟩ := hel h2
      refine ⟨q, fun j u hu => ?_⟩
      obtain ⟨hj, hju⟩ := List.getElem?_eq_some_iff.1 hu
      have := hcell j (by rw [k.len] at hj; omega)
      rw [Go.Deep.add_add] at this
      rw [this]
      exact hu
    obtain ⟨F, hF⟩ := choose_lt each
    have hll : ((List.range len).map F).length = len := by simp
    refine ⟨(List.range len).map F, some a, m, by rw [hll], by rw [hll]; exact hl, fun hn => ?_⟩
    rw [hll] at hn
    have hp := k.pos
    have hspot : a.spot = none := by
      have h0 : 0 < (k.en (F 0)).length := by rw [k.len]; exact hp
      have := hF 0 (by omega) 0 _ (List.getElem?_eq_getElem h0)
      simpa [Addr.add] using World.cell?_spot this
    obtain ⟨b, off, spot⟩ := a
    simp only at hspot
    subst hspot
    refine ⟨b, off, rfl, fun j u hu => ?_⟩
    have hj := (List.getElem?_eq_some_iff.1 hu).1
    rw [cellsK_length, hll] at hj
    have h1 : j / k.sz < len := Nat.div_lt_of_lt_mul (by rw [Nat.mul_comm]; exact hj)
    have h2 : j % k.sz < k.sz := Nat.mod_lt _ hp
    have h3 := cellsK_get (k := k) ((List.range len).map F) (j / k.sz) (j % k.sz) (by rw [hll]; exact h1) h2
    rw [Nat.div_add_mod'] at h3
    rw [h3] at hu
    have h4 := hF (j / k.sz) (by omega) (j % k.sz) u (by simpa using hu)
    rw [Nat.div_add_mod', add_plain] at h4
    exact h4
theorem dot_cells {fuel : Nat} {cs : List Value} {x : DataW H × List MemPlace} (h : DataW.trod enc Tryz.prog W 0 (fun _ => true) true fuel 41 cs = some x) : ∃ d : Dt, cs = [.int .i64 d.1, .int .u64 (d.2 : Int)] := by
  obtain ⟨xs, n, _, _, hl, hxl, hf⟩ := DataW.trod_struct Tryz.underlying41 h
  rw [cells_dot] at hl
  match cs, hl, xs, hxl with
  | [c0, c1], _, [y0, y1], _ =>
    have g0 := hf 0 _ rfl
    have g1 := hf 1 _ rfl
    simp only [cells_oneint, cells_one64, List.drop_zero, List.drop_succ_cons, List.take_succ_cons, List.take_zero, List.getElem?_cons_zero, List.getElem?_cons_succ] at g0 g1
    obtain ⟨n0, e0, _, _⟩ := DataW.trod_int Tryz.underlying3 g0
    obtain ⟨n1, e1, _, w1⟩ := DataW.trod_int Tryz.underlying28 g1
    have hb := bounds_u64 w1
    injection e0 with e0
    injection e1 with e1
    exact ⟨(n0, n1.toNat), by rw [e0, e1, show ((n1.toNat : Nat) : Int) = n1 by omega]⟩
theorem item_cells {fuel : Nat} {cs : List Value} {x : DataW H × List MemPlace} (h : DataW.trod enc Tryz.prog W 0 (fun _ => true) true fuel 48 cs = some x) : ∃ i : It, cs = kIt.en i := by
  obtain ⟨xs, n, _, _, hl, hxl, hf⟩ := DataW.trod_struct Tryz.underlying48 h
  rw [cells_item] at hl
  match cs, hl, xs, hxl with
  | [c0, c1, c2, c3, c4], _, [y0, y1, y2], _ =>
    have g0 := hf 0 _ rfl
    have g1 := hf 1 _ rfl
    have g2 := hf 2 _ rfl
    simp only [cells_dot, cells_key, cells_onebool, List.drop_zero, List.drop_succ_cons, List.take_succ_cons, List.take_zero, List.getElem?_cons_zero, List.getElem?_cons_succ] at g0 g1 g2
    obtain ⟨d, e0⟩ := dot_cells g0
    obtain ⟨k, e1⟩ := key_cells g1
    obtain ⟨b, e2, _⟩ := DataW.trod_bool Tryz.underlying4 g2
    injection e0 with e0 e3
    injection e3 with e3
    injection e1 with e1 e4
    injection e4 with e4
    injection e2 with e2
    exact ⟨⟨d, k.1, k.2, b⟩, by rw [e0, e3, e1, e4, e2]; rfl⟩
theorem int_cells {fuel : Nat} {cs : List Value} {x : DataW H × List MemPlace} (h : DataW.trod enc Tryz.prog W 0 (fun _ => true) true fuel 3 cs = some x) : ∃ n : Int, cs = kInt.en n := by
  obtain ⟨n, e, _⟩ := DataW.trod_int Tryz.underlying3 h
  exact ⟨n, e⟩
end
end Go.Proofs.YtldfaaahmpncbaaGreat

/-
  Arguments that a law is handed, opened: a dot, a vector, dests, an event.
-/
import Derived.Test.YtigepbklpiilpaaEvMay
import Derived.Test.YtigepbklpiilpaaRow
import Derived.Deep.Slices
import Derived.ChangeSame
namespace Go.Proofs.Ytigepbklpiilpaa
open Go.ChangeShapes Go.WideShapes Go.ChangeAt Go.RowKit Go.Deep CtxM
set_option linter.unusedVariables false
set_option linter.unusedSimpArgs false
set_option maxRecDepth 20000

theorem cells_dot : Try.prog.cellsOf 24 = 2 := by kernel_rfl
theorem cells_vec : Try.prog.cellsOf 27 = 16 := by kernel_rfl
theorem cells_one64 : Try.prog.cellsOf 22 = 1 := by kernel_rfl
theorem cells_oneint : Try.prog.cellsOf 3 = 1 := by kernel_rfl
theorem cells_onestr : Try.prog.cellsOf 9 = 1 := by kernel_rfl
theorem cells_bytes : Try.prog.cellsOf 25 = 1 := by kernel_rfl
theorem cells_dests : Try.prog.cellsOf 28 = 1 := by kernel_rfl
theorem cells_dest : Try.prog.cellsOf 55 = 3 := by kernel_rfl
theorem cells_event : Try.prog.cellsOf 30 = 21 := by kernel_rfl
section
variable {H : Type} {enc : TypeId × Value → H} {W : World} {base : Nat} {spare : Nat → Bool} {held : Bool}
theorem dot_cells {fuel : Nat} {cs : List Value} {x : DataW H × List MemPlace} (h : DataW.trod enc Try.prog W base spare held fuel 24 cs = some x) : ∃ d : Dt, cs = [.int .i64 d.1, .int .u64 (d.2 : Int)] := by
  obtain ⟨xs, n, _, _, hl, hxl, hf⟩ := DataW.trod_struct Try.underlying24 h
  rw [cells_dot] at hl
  match cs, hl, xs, hxl with
  | [c0, c1], _, [y0, y1], _ =>
    have g0 := hf 0 _ rfl
    have g1 := hf 1 _ rfl
    simp only [cells_oneint, cells_one64, List.drop_zero, List.drop_succ_cons, List.take_succ_cons, List.take_zero, List.getElem?_cons_zero, List.getElem?_cons_succ] at g0 g1
    obtain ⟨n0, e0, _, _⟩ := DataW.trod_int Try.underlying3 g0
    obtain ⟨n1, e1, _, w1⟩ := DataW.trod_int Try.underlying22 g1
    have hb := bounds_u64 w1
    injection e0 with e0
    injection e1 with e1
    exact ⟨(n0, n1.toNat), by rw [e0, e1, show ((n1.toNat : Nat) : Int) = n1 by omega]⟩
theorem vec_cells {fuel : Nat} {cs : List Value} {x : DataW H × List MemPlace} (h : DataW.trod enc Try.prog W base spare held fuel 27 cs = some x) : ∃ V : List Nat, cs = V.map uq ∧ V.length = 16 ∧ ∀ n ∈ V, n < 18446744073709551616 := by
  obtain ⟨xs, m, _, _, hl, hxl, hx⟩ := DataW.trod_array Try.underlying27 h
  rw [cells_vec] at hl
  have each : ∀ i, i < 16 → ∃ n : Nat, cs[i]? = some (.int .u64 (n : Int)) ∧ n < 18446744073709551616 := fun i hi => by
    have h1 := hx i hi
    rw [List.getElem?_eq_getElem (by omega)] at h1
    obtain ⟨k, e, _, hw⟩ := DataW.trod_int Try.underlying22 h1
    have hb := bounds_u64 hw
    refine ⟨k.toNat, ?_, by omega⟩
    rw [cells_one64, Nat.mul_one] at e
    have := congrArg (fun l => l[0]?) e
    rw [show ((k.toNat : Nat) : Int) = k by omega]
    simpa [List.getElem?_take] using this
  obtain ⟨N, hN⟩ := choose_lt (α := Nat) (p := fun i n => cs[i]? = some (.int .u64 (n : Int)) ∧ n < 18446744073709551616) each
  refine ⟨(List.range 16).map N, ?_, by simp, fun n hn => ?_⟩
  · apply List.ext_getElem?
    intro j
    by_cases hj : j < 16
    · rw [(hN j hj).1]
      simp [uq, hj]
    · rw [List.getElem?_eq_none (by omega), List.getElem?_eq_none (by simp; omega)]
  · obtain ⟨i, hi, rfl⟩ := List.mem_map.1 hn
    exact (hN i (List.mem_range.1 hi)).2
theorem str_cells {fuel : Nat} {cs : List Value} {x : DataW H × List MemPlace} (h : DataW.trod enc Try.prog W base spare held fuel 9 cs = some x) : ∃ s : ByteArray, cs = [.string s] := by
  obtain ⟨s, e, _⟩ := DataW.trod_string Try.underlying9 h
  exact ⟨s, e⟩
theorem dest_cells {fuel : Nat} {cs : List Value} {x : DataW H × List MemPlace} (h : DataW.trod enc Try.prog W base spare held fuel 55 cs = some x) : ∃ t : De, cs = [.int .i64 t.1.1, .int .u64 (t.1.2 : Int), .string t.2] := by
  obtain ⟨xs, n, _, _, hl, hxl, hf⟩ := DataW.trod_struct Try.underlying55 h
  rw [cells_dest] at hl
  match cs, hl, xs, hxl with
  | [c0, c1, c2], _, [y0, y1], _ =>
    have g0 := hf 0 _ rfl
    have g1 := hf 1 _ rfl
    simp only [cells_dot, cells_onestr, List.drop_zero, List.drop_succ_cons, List.take_succ_cons, List.take_zero, List.getElem?_cons_zero, List.getElem?_cons_succ] at g0 g1
    obtain ⟨d, e0⟩ := dot_cells g0
    obtain ⟨s, e1⟩ := str_cells g1
    injection e0 with e0 e2
    injection e2 with e2
    injection e1 with e1
    exact ⟨(d, s), by rw [e0, e1, e2]⟩
theorem dests_cells {fuel : Nat} {v : Value} {x : DataW H × List MemPlace} (h : DataW.trod enc Try.prog W 0 (fun _ => true) held fuel 28 [v] = some x) : ∃ T : List De, Se W v T := by
  rcases open_slice Try.underlying28 h with ⟨hcs, _⟩ | ⟨a, len, cap, m, n, D, Pl, hcs, _, hl, hm, hmm, _, hx⟩
  · injection hcs with hcs _
    subst hcs
    exact ⟨[], Se.nil _ _⟩
  · injection hcs with hcs _
    subst hcs
    simp only [if_true] at hmm
    subst hmm
    have each : ∀ i, i < m → ∃ q : De, W.cell? (a.add (i * 3)) = some (.int .i64 q.1.1) ∧ W.cell? (a.add (i * 3 + 1)) = some (.int .u64 (q.1.2 : Int)) ∧ W.cell? (a.add (i * 3 + 2)) = some (.string q.2) := by
      intro i hi
      obtain ⟨cs', h1, h2⟩ := hx i hi
      rw [cells_dest] at h1
      obtain ⟨_, hlen, hcell⟩ := World.cells?_some h1
      obtain ⟨q, rfl⟩ := dest_cells h2
      have e0 := hcell 0 (by omega)
      have e1 := hcell 1 (by omega)
      have e2 := hcell 2 (by omega)
      rw [Go.Deep.add_add] at e0 e1 e2
      exact ⟨q, by simpa using e0, by simpa using e1, by simpa using e2⟩
    obtain ⟨F, hF⟩ := choose_lt (α := De) (p := fun i q => W.cell? (a.add (i * 3)) = some (.int .i64 q.1.1) ∧ W.cell? (a.add (i * 3 + 1)) = some (.int .u64 (q.1.2 : Int)) ∧ W.cell? (a.add (i * 3 + 2)) = some (.string q.2)) each
    refine ⟨(List.range len).map F, some a, m, by simp, by simpa using hl, fun hn => ?_⟩
    have hn' : 0 < len := by simpa using hn
    obtain ⟨b, off, spot⟩ := a
    have hspot : spot = none := by simpa [Addr.add] using World.cell?_spot (hF 0 (by omega)).1
    subst hspot
    refine ⟨b, off, rfl, fun j hj => ?_⟩
    have hj' : j < len := by simpa using hj
    have := hF j (by omega)
    rw [add_plain, add_plain, add_plain] at this
    simp only [List.getElem_map, List.getElem_range]
    exact ⟨this.1, by rw [show off + j * 3 + 1 = off + (j * 3 + 1) by omega]; exact this.2.1, by rw [show off + j * 3 + 2 = off + (j * 3 + 2) by omega]; exact this.2.2⟩
theorem event_cells {fuel : Nat} {cs : List Value} {x : DataW H × List MemPlace} (h : DataW.trod enc Try.prog W 0 (fun _ => true) true fuel 30 cs = some x) : ∃ e : Ev, cs = evl e ∧ EvOk W e := by
  obtain ⟨xs, n, _, _, hl, hxl, hf⟩ := DataW.trod_struct Try.underlying30 h
  rw [cells_event] at hl
  match xs, hxl with
  | [y0, y1, y2, y3, y4], _ =>
    have g0 := hf 0 _ rfl
    have g1 := hf 1 _ rfl
    have g2 := hf 2 _ rfl
    have g3 := hf 3 _ rfl
    have g4 := hf 4 _ rfl
    change DataW.trod enc _ W 0 _ true n 24 ((cs.drop 0).take (Try.prog.cellsOf 24)) = some y0 at g0
    rw [cells_dot] at g0
    change DataW.trod enc _ W 0 _ true n 9 ((cs.drop 2).take (Try.prog.cellsOf 9)) = some y1 at g1
    rw [cells_onestr] at g1
    change DataW.trod enc _ W 0 _ true n 25 ((cs.drop 3).take (Try.prog.cellsOf 25)) = some y2 at g2
    rw [cells_bytes] at g2
    change DataW.trod enc _ W 0 _ true n 27 ((cs.drop 4).take (Try.prog.cellsOf 27)) = some y3 at g3
    rw [cells_vec] at g3
    change DataW.trod enc _ W 0 _ true n 28 ((cs.drop 20).take (Try.prog.cellsOf 28)) = some y4 at g4
    rw [cells_dests] at g4
    obtain ⟨d, e0⟩ := dot_cells g0
    obtain ⟨s, e1⟩ := str_cells g1
    have one : ∀ i, i < 21 → (cs.drop i).take 1 = [cs.getD i undef] := fun i hi => by
      rw [List.drop_eq_getElem_cons (by omega), List.take_succ_cons, List.take_zero, List.getD_eq_getElem?_getD, List.getElem?_eq_getElem (show i < cs.length by omega)]
      rfl
    obtain ⟨c3, h3⟩ : ∃ c, cs.getD 3 undef = c := ⟨_, rfl⟩
    obtain ⟨c20, h20⟩ : ∃ c, cs.getD 20 undef = c := ⟨_, rfl⟩
    have one3 := one 3 (by omega)
    have one20 := one 20 (by omega)
    rw [h3] at one3
    rw [h20] at one20
    rw [one3] at g2
    rw [one20] at g4
    obtain ⟨P, hP⟩ := open_bytes_cells g2
    obtain ⟨V, e3, hV, hlt⟩ := vec_cells g3
    obtain ⟨T, hT⟩ := dests_cells g4
    refine ⟨⟨d, s, c3, P, V, c20, T⟩, ?_, hP, hT, hV, hlt⟩
    have split1 : cs = cs.take 2 ++ ((cs.drop 2).take 1 ++ ((cs.drop 3).take 1 ++ ((cs.drop 4).take 16 ++ (cs.drop 20).take 1))) := by
      have a1 : cs.drop 20 = (cs.drop 20).take 1 := by rw [List.take_of_length_le (by rw [List.length_drop]; omega)]
      rw [← a1]
      conv => lhs; rw [← List.take_append_drop 2 cs]
      congr 1
      conv => lhs; rw [← List.take_append_drop 1 (cs.drop 2)]
      congr 1
      rw [List.drop_drop]
      conv => lhs; rw [← List.take_append_drop 1 (cs.drop 3)]
      congr 1
      rw [List.drop_drop]
      conv => lhs; rw [← List.take_append_drop 16 (cs.drop 4)]
      rw [List.drop_drop]
    have e0' : cs.take 2 = [.int .i64 d.1, .int .u64 (d.2 : Int)] := by simpa using e0
    have k1 : (cs.drop 2).take 1 = [.string s] := e1
    have k3 : (cs.drop 4).take 16 = V.map uq := e3
    rw [e0', k1, one3, k3, one20] at split1
    rw [split1]
    rfl
theorem agg_of {t : TypeId} {v : Value} (hd : ∀ W base, Value.okWide Try.prog W .any base t v → ∃ cs, v = .agg cs) (hv : Value.okWide Try.prog W .any base t v) : ∃ cs, v = .agg cs := hd _ _ hv
theorem trodAll_six {P : Program} {t0 t1 t2 t3 t4 t5 : TypeId} {args : Array Value} {ds : List (DataW H)} {ps : List MemPlace} (h : DataW.TrodAll enc P W base spare held [t0, t1, t2, t3, t4, t5] args.toList ds ps) :
    ∃ v0 v1 v2 v3 v4 v5 d0 d1 d2 d3 d4 d5 p0 p1 p2 p3 p4 p5, args = #[v0, v1, v2, v3, v4, v5] ∧ ds = [d0, d1, d2, d3, d4, d5] ∧ ps = p0 ++ (p1 ++ (p2 ++ (p3 ++ (p4 ++ p5)))) ∧ DataW.Trod enc P W base spare held t0 v0 d0 p0 ∧ DataW.Trod enc P W base spare held t1 v1 d1 p1 ∧ DataW.Trod enc P W base spare held t2 v2 d2 p2 ∧ DataW.Trod enc P W base spare held t3 v3 d3 p3 ∧ DataW.Trod enc P W base spare held t4 v4 d4 p4 ∧ DataW.Trod enc P W base spare held t5 v5 d5 p5 := by
  obtain ⟨v0, vs, d0, ds0, p0, q, hargs, rfl, rfl, h0, hr⟩ := trodAll_cons h
  obtain ⟨v1, vs, d1, ds1, p1, q, rfl, rfl, rfl, h1, hr⟩ := trodAll_cons hr
  obtain ⟨v2, vs, d2, ds2, p2, q, rfl, rfl, rfl, h2, hr⟩ := trodAll_cons hr
  obtain ⟨v3, vs, d3, ds3, p3, q, rfl, rfl, rfl, h3, hr⟩ := trodAll_cons hr
  obtain ⟨v4, vs, d4, ds4, p4, q, rfl, rfl, rfl, h4, hr⟩ := trodAll_cons hr
  obtain ⟨v5, vs, d5, ds5, p5, q, rfl, rfl, rfl, h5, hr⟩ := trodAll_cons hr
  obtain ⟨rfl, rfl, rfl⟩ := trodAll_nil hr
  exact ⟨v0, v1, v2, v3, v4, v5, d0, d1, d2, d3, d4, d5, p0, p1, p2, p3, p4, p5, by cases args; simp_all, rfl, by simp, h0, h1, h2, h3, h4, h5⟩
theorem open_dot {v : Value} {d : DataW H} {ps : List MemPlace} (hv : Value.okWide Try.prog W .any base 24 v) (h : DataW.Trod enc Try.prog W 0 (fun _ => true) true 24 v d ps) :
    ∃ d : Dt, v = .agg #[.int .i64 d.1, .int .u64 (d.2 : Int)] := by
  simp only [Value.okWide, Try.underlying24] at hv
  obtain ⟨cs, rfl, _⟩ := hv
  obtain ⟨fuel, hf⟩ := h
  obtain ⟨d, e⟩ := dot_cells hf
  exact ⟨d, by congr 1; exact Array.toList_inj.1 e⟩
theorem open_vec {v : Value} {d : DataW H} {ps : List MemPlace} (hv : Value.okWide Try.prog W .any base 27 v) (h : DataW.Trod enc Try.prog W 0 (fun _ => true) true 27 v d ps) :
    ∃ V : List Nat, v = .agg (uqs V) ∧ V.length = 16 ∧ ∀ n ∈ V, n < 18446744073709551616 := by
  simp only [Value.okWide, Try.underlying27] at hv
  obtain ⟨cs, rfl, _⟩ := hv
  obtain ⟨fuel, hf⟩ := h
  obtain ⟨V, e, h1, h2⟩ := vec_cells hf
  exact ⟨V, by congr 1; exact Array.toList_inj.1 e, h1, h2⟩
theorem open_event {v : Value} {d : DataW H} {ps : List MemPlace} (hv : Value.okWide Try.prog W .any base 30 v) (h : DataW.Trod enc Try.prog W 0 (fun _ => true) true 30 v d ps) :
    ∃ e : Ev, v = .agg (evc e) ∧ EvOk W e := by
  simp only [Value.okWide, Try.underlying30] at hv
  obtain ⟨cs, rfl, _⟩ := hv
  obtain ⟨fuel, hf⟩ := h
  obtain ⟨x, e, h1⟩ := event_cells hf
  exact ⟨x, by congr 1; exact Array.toList_inj.1 e, h1⟩
end
end Go.Proofs.Ytigepbklpiilpaa

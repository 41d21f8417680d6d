/-
  The document's Same of two events with the same parts.
-/
import Derived.Test.YtigepbklpiilpaaEvOfR
import Derived.Test.YtigepbklpiilpaaEvByR
import Derived.Test.YtigepbklpiilpaaEvOfW
import Derived.Deep.Cut
namespace Go.Proofs.Ytigepbklpiilpaa
open Go.RowKit
open CtxM
set_option linter.unusedVariables false
set_option linter.unusedSimpArgs false
set_option maxRecDepth 20000

/-- A destination compared with itself. -/
theorem de_eq (t : De) (w : World) : (Op.equalIn 10000 55 (.agg #[.int .i64 t.1.1, .int .u64 (t.1.2 : Int), .string t.2]) (.agg #[.int .i64 t.1.1, .int .u64 (t.1.2 : Int), .string t.2])).run Try.prog w = .ok true w := by
  have u3 := Try.underlying3
  have a3 := Try.isAgg3
  have z3 := Try.sizeOf3
  have u27 := Try.underlying22
  have a27 := Try.isAgg22
  have z27 := Try.sizeOf22
  have us := Try.underlying9
  have as_ := Try.isAgg9
  have zs := Try.sizeOf9
  have ud := Try.underlying24
  have ad := Try.isAgg24
  have zd := Try.sizeOf24
  have hSd : Try.prog.underlying 24 = some (.struct (Try.prog.fieldsOf 24)) := by kernel_rfl
  have hpd : Try.prog.stoodInHeld 24 = false := by kernel_rfl
  have hS : Try.prog.underlying 55 = some (.struct (Try.prog.fieldsOf 55)) := by kernel_rfl
  have hp : Try.prog.stoodInHeld 55 = false := by kernel_rfl
  have hd : ∀ w, (Op.equalIn 9999 24 (.agg #[.int .i64 t.1.1, .int .u64 (t.1.2 : Int)]) (.agg #[.int .i64 t.1.1, .int .u64 (t.1.2 : Int)])).run Try.prog w = .ok true w := by
    intro w
    rw [show (9999 : Nat) = 9998 + 1 from rfl, run_equalIn_agg w 9998 24 _ _ hSd hpd]
    simp only [Program.fieldsOf, Try.underlying24]
    go_simp
  rw [show (10000 : Nat) = 9999 + 1 from rfl, run_equalIn_agg w 9999 55 _ _ hS hp]
  simp only [Program.fieldsOf, Try.underlying55]
  go_simp

set_option maxHeartbeats 8000000 in
theorem rsame_any (x : Ev) (py ty : Value) (w : World) (hx : EvOk w x) (hy : EvOk w ⟨x.id, x.topic, py, x.P, x.V, ty, x.T⟩) (hT : x.T.length ≤ 100000) : Calls Try.prog 16 #[.agg (evc x), .agg (evc ⟨x.id, x.topic, py, x.P, x.V, ty, x.T⟩)] w fun e w' => e = .returned (.bool true) ∧ Grw w w' := by
  have hfo : Try.prog.follows .mixedOrders = true := by kernel_rfl
  have hb0 : Grw w ((w.alloc (.cells (evc x) 30)).alloc (.cells (evc ⟨x.id, x.topic, py, x.P, x.V, ty, x.T⟩) 30)) := ((Grw.refl _).alloc _).alloc _
  have hB := (Blk.new w 30 (evc x)).alloc (.cells (evc ⟨x.id, x.topic, py, x.P, x.V, ty, x.T⟩) 30)
  have hC := Blk.new (w.alloc (.cells (evc x) 30)) 30 (evc ⟨x.id, x.topic, py, x.P, x.V, ty, x.T⟩)
  rw [show (w.alloc (.cells (evc x) 30)).heap.size = w.heap.size + 1 by simp] at hC
  have hX := hx.below hb0.below
  have hY := hy.below hb0.below
  have hV := hx.len
  obtain ⟨Ap, cp, hpl⟩ : ∃ A c, x.pl = .slice A x.P.length c := hX.pl.elim fun A h => h.elim fun c h => ⟨A, c, h.1⟩
  obtain ⟨Aq, cq, hql⟩ : ∃ A c, py = .slice A x.P.length c := hY.pl.elim fun A h => h.elim fun c h => ⟨A, c, h.1⟩
  obtain ⟨At, ct, hto⟩ := hX.to.shape
  obtain ⟨Au, cu, htu⟩ := hY.to.shape
  have k1 := hX.pl
  have k2 := hY.pl
  have k3 := hX.to
  have k4 := hY.to
  change py = .slice Aq x.P.length cq at hql
  change ty = .slice Au x.T.length cu at htu
  change Sl _ py x.P at k2
  change Se _ ty x.T at k4
  clear hX hY
  subst hql htu
  rw [hpl] at k1
  rw [hto] at k3
  go_enter Try.func16, Try.ntmps16
  go_upto_region 1 with fail
  generalize (w.alloc (.cells (evc x) 30)).alloc (.cells (evc ⟨x.id, x.topic, .slice Aq x.P.length cq, x.P, x.V, .slice Au x.T.length cu, x.T⟩) 30) = w1 at hb0 hB hC k1 k2 k3 k4 ⊢
  have a0 := ev_0 hB
  have a1 := ev_1 hB
  have a2 := ev_2 hB
  have a3 : w1.cell? ⟨w.heap.size, 3, none⟩ = some (.slice Ap x.P.length cp) := by rw [ev_3 hB, hpl]
  have a20 : w1.cell? ⟨w.heap.size, 20, none⟩ = some (.slice At x.T.length ct) := by rw [ev_20 hB hV, hto]
  have b0 : w1.cell? ⟨w.heap.size + 1, 0, none⟩ = some (.int .i64 x.id.1) := ev_0 (x := ⟨x.id, x.topic, .slice Aq x.P.length cq, x.P, x.V, .slice Au x.T.length cu, x.T⟩) hC
  have b1 : w1.cell? ⟨w.heap.size + 1, 1, none⟩ = some (.int .u64 (x.id.2 : Int)) := ev_1 (x := ⟨x.id, x.topic, .slice Aq x.P.length cq, x.P, x.V, .slice Au x.T.length cu, x.T⟩) hC
  have b2 : w1.cell? ⟨w.heap.size + 1, 2, none⟩ = some (.string x.topic) := ev_2 (x := ⟨x.id, x.topic, .slice Aq x.P.length cq, x.P, x.V, .slice Au x.T.length cu, x.T⟩) hC
  have b3 : w1.cell? ⟨w.heap.size + 1, 3, none⟩ = some (.slice Aq x.P.length cq) := ev_3 (x := ⟨x.id, x.topic, .slice Aq x.P.length cq, x.P, x.V, .slice Au x.T.length cu, x.T⟩) hC
  have b20 : w1.cell? ⟨w.heap.size + 1, 20, none⟩ = some (.slice Au x.T.length cu) := ev_20 (x := ⟨x.id, x.topic, .slice Aq x.P.length cq, x.P, x.V, .slice Au x.T.length cu, x.T⟩) hC hV
  have hd := fun W => dot_eq x.id x.id W
  rw [decide_eq_true rfl] at hd
  have hv := fun W => vec_eq x.V x.V hV hV W
  rw [decide_eq_true rfl] at hv
  have c1 := conv_any k1
  have c2 := conv_any k2
  have st3 : ((x.T.length : Int) != (x.T.length : Int)) = false := by simp
  go_upto_region 3 with (first | (refine wpList_load_mid_g (by rfl) 27 _ rfl (w.heap.size) 4 rfl (uqs x.V) _ (ev_range hB hV) Try.underlying27 rfl (uqs_info hV) ?_; try simp only [Act.put, List.setIfInBounds_toArray, List.set_cons_zero, List.set_cons_succ]) | (refine wpList_load_mid_g (by rfl) 27 _ rfl (w.heap.size + 1) 4 rfl (uqs x.V) _ (ev_range (x := ⟨x.id, x.topic, .slice Aq x.P.length cq, x.P, x.V, .slice Au x.T.length cu, x.T⟩) hC hV) Try.underlying27 rfl (uqs_info hV) ?_; try simp only [Act.put, List.setIfInBounds_toArray, List.set_cons_zero, List.set_cons_succ]))
  clear a0 a1 a2 a3 b0 b1 b2 b3 hd hv c1 c2 st3 k1 k2
  have K3 := Lib.hid k3
  have K4 := Lib.hid k4
  clear k3 k4
  go_wp2
  go_loopw [5] (fun y wr => ∃ i : Nat, y = .int .i64 (i : Int) ∧ i ≤ x.T.length ∧ Grw w1 wr) (fun y _ => x.T.length - (intOf y).toNat)
  case atStart => exact ⟨0, rfl, Nat.zero_le _, Grw.refl _⟩
  case round =>
    obtain ⟨i, rfl, hi, hg⟩ := hrel
    have a44 : wr.cell? ⟨w.heap.size, 20, none⟩ = some (.slice At x.T.length ct) := (hg.below.cell hB.lt).trans a20
    have b44 : wr.cell? ⟨w.heap.size + 1, 20, none⟩ = some (.slice Au x.T.length cu) := (hg.below.cell hC.lt).trans b20
    have hlt1 := (hB.below hg.below hB.lt).lt
    have hlt2 := (hC.below hg.below hC.lt).lt
    clear a20 b20
    by_cases hlt : i < x.T.length
    · obtain ⟨b, o, rfl, e0, e1, e2⟩ := (K3.out.below hg.below).at_ i hlt
      obtain ⟨d, p, rfl, f0, f1, f2⟩ := (K4.out.below hg.below).at_ i hlt
      have HLT := Lib.hid hlt
      have hli : (i : Int) < (x.T.length : Int) := by omega
      have hlb : (0 : Int) ≤ (i : Int) := by omega
      generalize x.T[i] = t at e0 e1 e2 f0 f1 f2
      have hblt := World.block_lt_of_cell? wr _ e0
      have hdlt := World.block_lt_of_cell? wr _ f0
      have p0 : ∀ n os, (Go.Sort.grow (wr.drewN n) os).cell? ⟨b, o + i * 3, none⟩ = some (.int .i64 t.1.1) := cell_grown hblt e0
      have p1 : ∀ n os, (Go.Sort.grow (wr.drewN n) os).cell? ⟨b, o + i * 3 + 1, none⟩ = some (.int .u64 (t.1.2 : Int)) := cell_grown hblt e1
      have p2 : ∀ n os, (Go.Sort.grow (wr.drewN n) os).cell? ⟨b, o + i * 3 + 2, none⟩ = some (.string t.2) := cell_grown hblt e2
      have q0 : ∀ n os, (Go.Sort.grow (wr.drewN n) os).cell? ⟨d, p + i * 3, none⟩ = some (.int .i64 t.1.1) := cell_grown hdlt f0
      have q1 : ∀ n os, (Go.Sort.grow (wr.drewN n) os).cell? ⟨d, p + i * 3 + 1, none⟩ = some (.int .u64 (t.1.2 : Int)) := cell_grown hdlt f1
      have q2 : ∀ n os, (Go.Sort.grow (wr.drewN n) os).cell? ⟨d, p + i * 3 + 2, none⟩ = some (.string t.2) := cell_grown hdlt f2
      have a4 : ∀ n os, (Go.Sort.grow (wr.drewN n) os).cell? ⟨w.heap.size, 20, none⟩ = some (.slice (some ⟨b, o, none⟩) x.T.length ct) := cell_grown hlt1 a44
      have b4 : ∀ n os, (Go.Sort.grow (wr.drewN n) os).cell? ⟨w.heap.size + 1, 20, none⟩ = some (.slice (some ⟨d, p, none⟩) x.T.length cu) := cell_grown hlt2 b44
      have hde := fun W => de_eq t W
      clear e0 e1 e2 f0 f1 f2 K3 K4 hlt
      have hlt : i < x.T.length := HLT.out
      go_upto_region 6 with fail
      refine wp_region_quiet_grown (by assumption) (by kernel_rfl) ?_
      repeat (first | go_big_quiet_skip | go_big_quiet_step (fail))
      refine wpQuiet_nil ?_
      rintro _ ⟨⟨nq, osq⟩, rfl⟩
      go_wp2
      have := HLT.out
      exact ⟨⟨i + 1, by go_num, HLT.out, hg.trans ⟨nq, osq, rfl⟩⟩, by simp [intOf]; have := HLT.out; omega⟩
    · obtain rfl : i = x.T.length := by omega
      go_wp2
      go_ret
      exact ⟨rfl, hb0.trans hg⟩
end Go.Proofs.Ytigepbklpiilpaa

/-
  event's Before; a guarded load of a row in a plain region.
-/
import Derived.Test.YtigepbklpiilpaaEvRdy
namespace Go.Proofs.Ytigepbklpiilpaa
open Go.RowKit
open CtxM
set_option linter.unusedVariables false
set_option linter.unusedSimpArgs false
set_option maxRecDepth 20000

theorem wpList_load_mid_g {P : Program} {ops : Array Oper} {rest : List Oper} {op : Oper} {a : Act} {w : World} {Q : Exit → Act → World → Prop} (hw : Region.wanted op (yielded ops a.tmps) = true) (ty : TypeId) (x : Operand) (ho : op.op = .load ty x)
    (b o : Nat) (hx : a.eval x = .pointer (some ⟨b, o, none⟩)) (cs : Array Value) (d : TypeDesc) (hc : w.rangeAt b o cs.toList)
    (hu : P.underlying ty = some d) (hd : d.isRow = true) (hi : (P.info? ty).map (·.size) = some cs.size)
    (h : wpList P ops Q rest (a.put op.dst (.agg cs)) w) : wpList P ops Q (op :: rest) a w :=
  BigFrame.wpList_want hw fun K hK => wp_load_mid ty x ho b o hx cs.toList d hc hu hd (by simpa using hi) (hK _ _ (by simpa using h))

set_option maxHeartbeats 4000000 in
theorem ebefore_any (x y : Ev) (w : World) (hx : EvOk w x) (hy : EvOk w y) : Calls Try.prog 17 #[.agg (evc x), .agg (evc y)] w fun e w' => e = .returned (.bool (befB x y)) ∧ Grw w w' := by
  have s1 : (w.alloc (.cells (evc x) 30)).heap.size = w.heap.size + 1 := by simp
  have hb0 : Grw w ((w.alloc (.cells (evc x) 30)).alloc (.cells (evc y) 30)) := ((Grw.refl _).alloc _).alloc _
  have hB := (Blk.new w 30 (evc x)).alloc (.cells (evc y) 30)
  have hC := Blk.new (w.alloc (.cells (evc x) 30)) 30 (evc y)
  rw [s1] at hC
  have hX := hx.below hb0.below
  have hY := hy.below hb0.below
  have hV := hx.len
  have hU := hy.len
  go_enter Try.func17, Try.ntmps17
  go_upto_region 1 with fail
  have h1 := fun W (h : EvOk W x) => emay_any x W h
  have h2 := fun W (h : EvOk W y) => emay_any y W h
  have h3 := fun W => eunder_any y.V x.id W hU
  generalize ((w.alloc (.cells (evc x) 30)).alloc (.cells (evc y) 30)) = w1 at hb0 hB hC hX hY ⊢
  clear s1 hx hy
  have HR := Lib.hid (show befB x y = (evB x && (evB y && decide (Und y.V x.id))) from rfl)
  obtain ⟨pa, ha⟩ : ∃ p, p = evB x := ⟨_, rfl⟩
  obtain ⟨pb, hb⟩ : ∃ p, p = evB y := ⟨_, rfl⟩
  obtain ⟨pc, hc⟩ : ∃ p, p = decide (Und y.V x.id) := ⟨_, rfl⟩
  rw [← ha] at h1 HR
  rw [← hb] at h2 HR
  rw [← hc] at h3 HR
  clear ha hb hc
  cases pa
  · go_wp2_with (first | (refine wpList_load_mid_g (by rfl) 30 _ rfl w.heap.size 0 rfl (evc x) _ (ev_all hB) Try.underlying30 rfl (evc_info hV) ?_; try simp only [Act.put, List.setIfInBounds_toArray, List.set_cons_zero, List.set_cons_succ]) | (refine wpList_load_mid_g (by rfl) 30 _ rfl (w.heap.size + 1) 0 rfl (evc y) _ (ev_all hC) Try.underlying30 rfl (evc_info hU) ?_; try simp only [Act.put, List.setIfInBounds_toArray, List.set_cons_zero, List.set_cons_succ]) | (refine wpList_load_mid_g (by rfl) 27 _ rfl (w.heap.size + 1) 4 rfl (uqs y.V) _ (ev_range hC hU) Try.underlying27 rfl (uqs_info hU) ?_; try simp only [Act.put, List.setIfInBounds_toArray, List.set_cons_zero, List.set_cons_succ]) | (go_at_call 10; refine (h1 _ hX).mono ?_; rintro e w2 ⟨rfl, hg2⟩))
    go_ret
    exact ⟨ret_bool (by rw [HR.out]; rfl), hb0.trans hg2⟩
  · have K2 : ∀ W, Grw w1 W → Blk W w.heap.size 30 (evc x) ∧ Blk W (w.heap.size + 1) 30 (evc y) ∧ EvOk W y := fun W h => ⟨hB.below h.below hB.lt, hC.below h.below hC.lt, hY.below h.below⟩
    cases pb
    · go_wp2_with (first | (refine wpList_load_mid_g (by rfl) 30 _ rfl w.heap.size 0 rfl (evc x) _ (ev_all hB) Try.underlying30 rfl (evc_info hV) ?_; try simp only [Act.put, List.setIfInBounds_toArray, List.set_cons_zero, List.set_cons_succ]) | (refine wpList_load_mid_g (by rfl) 30 _ rfl (w.heap.size + 1) 0 rfl (evc y) _ (ev_all hC) Try.underlying30 rfl (evc_info hU) ?_; try simp only [Act.put, List.setIfInBounds_toArray, List.set_cons_zero, List.set_cons_succ]) | (refine wpList_load_mid_g (by rfl) 27 _ rfl (w.heap.size + 1) 4 rfl (uqs y.V) _ (ev_range hC hU) Try.underlying27 rfl (uqs_info hU) ?_; try simp only [Act.put, List.setIfInBounds_toArray, List.set_cons_zero, List.set_cons_succ]) | (refine wpList_load_mid_g (by rfl) 30 _ rfl w.heap.size 0 rfl (evc x) _ (ev_all hB2) Try.underlying30 rfl (evc_info hV) ?_; try simp only [Act.put, List.setIfInBounds_toArray, List.set_cons_zero, List.set_cons_succ]) | (refine wpList_load_mid_g (by rfl) 30 _ rfl (w.heap.size + 1) 0 rfl (evc y) _ (ev_all hC2) Try.underlying30 rfl (evc_info hU) ?_; try simp only [Act.put, List.setIfInBounds_toArray, List.set_cons_zero, List.set_cons_succ]) | (refine wpList_load_mid_g (by rfl) 27 _ rfl (w.heap.size + 1) 4 rfl (uqs y.V) _ (ev_range hC2 hU) Try.underlying27 rfl (uqs_info hU) ?_; try simp only [Act.put, List.setIfInBounds_toArray, List.set_cons_zero, List.set_cons_succ]) | (refine wpList_load_mid_g (by rfl) 30 _ rfl w.heap.size 0 rfl (evc x) _ (ev_all hB3) Try.underlying30 rfl (evc_info hV) ?_; try simp only [Act.put, List.setIfInBounds_toArray, List.set_cons_zero, List.set_cons_succ]) | (refine wpList_load_mid_g (by rfl) 30 _ rfl (w.heap.size + 1) 0 rfl (evc y) _ (ev_all hC3) Try.underlying30 rfl (evc_info hU) ?_; try simp only [Act.put, List.setIfInBounds_toArray, List.set_cons_zero, List.set_cons_succ]) | (refine wpList_load_mid_g (by rfl) 27 _ rfl (w.heap.size + 1) 4 rfl (uqs y.V) _ (ev_range hC3 hU) Try.underlying27 rfl (uqs_info hU) ?_; try simp only [Act.put, List.setIfInBounds_toArray, List.set_cons_zero, List.set_cons_succ]) | (go_at_call_of 10 (Value.agg (evc x)); refine (h1 _ hX).mono ?_; rintro e w2 ⟨rfl, hg2⟩; have hB2 := (K2 _ hg2).1; have hC2 := (K2 _ hg2).2.1; have hY2 := (K2 _ hg2).2.2; have p2 := ev_0 hB2; have r2 := ev_1 hB2) | (go_at_call_of 10 (Value.agg (evc y)); refine (h2 _ hY2).mono ?_; rintro e w3 ⟨rfl, hg3⟩; have hB3 := (K2 _ (hg2.trans hg3)).1; have hC3 := (K2 _ (hg2.trans hg3)).2.1; have hY3 := (K2 _ (hg2.trans hg3)).2.2; have p3 := ev_0 hB3; have r3 := ev_1 hB3) | (go_at_call 20; refine (h3 _).mono ?_; rintro e w4 ⟨rfl, hg4⟩))
      go_ret
      exact ⟨ret_bool (by rw [HR.out]; rfl), (hb0.trans hg2).trans hg3⟩
    · go_wp2_with (first | (refine wpList_load_mid_g (by rfl) 30 _ rfl w.heap.size 0 rfl (evc x) _ (ev_all hB) Try.underlying30 rfl (evc_info hV) ?_; try simp only [Act.put, List.setIfInBounds_toArray, List.set_cons_zero, List.set_cons_succ]) | (refine wpList_load_mid_g (by rfl) 30 _ rfl (w.heap.size + 1) 0 rfl (evc y) _ (ev_all hC) Try.underlying30 rfl (evc_info hU) ?_; try simp only [Act.put, List.setIfInBounds_toArray, List.set_cons_zero, List.set_cons_succ]) | (refine wpList_load_mid_g (by rfl) 27 _ rfl (w.heap.size + 1) 4 rfl (uqs y.V) _ (ev_range hC hU) Try.underlying27 rfl (uqs_info hU) ?_; try simp only [Act.put, List.setIfInBounds_toArray, List.set_cons_zero, List.set_cons_succ]) | (refine wpList_load_mid_g (by rfl) 30 _ rfl w.heap.size 0 rfl (evc x) _ (ev_all hB2) Try.underlying30 rfl (evc_info hV) ?_; try simp only [Act.put, List.setIfInBounds_toArray, List.set_cons_zero, List.set_cons_succ]) | (refine wpList_load_mid_g (by rfl) 30 _ rfl (w.heap.size + 1) 0 rfl (evc y) _ (ev_all hC2) Try.underlying30 rfl (evc_info hU) ?_; try simp only [Act.put, List.setIfInBounds_toArray, List.set_cons_zero, List.set_cons_succ]) | (refine wpList_load_mid_g (by rfl) 27 _ rfl (w.heap.size + 1) 4 rfl (uqs y.V) _ (ev_range hC2 hU) Try.underlying27 rfl (uqs_info hU) ?_; try simp only [Act.put, List.setIfInBounds_toArray, List.set_cons_zero, List.set_cons_succ]) | (refine wpList_load_mid_g (by rfl) 30 _ rfl w.heap.size 0 rfl (evc x) _ (ev_all hB3) Try.underlying30 rfl (evc_info hV) ?_; try simp only [Act.put, List.setIfInBounds_toArray, List.set_cons_zero, List.set_cons_succ]) | (refine wpList_load_mid_g (by rfl) 30 _ rfl (w.heap.size + 1) 0 rfl (evc y) _ (ev_all hC3) Try.underlying30 rfl (evc_info hU) ?_; try simp only [Act.put, List.setIfInBounds_toArray, List.set_cons_zero, List.set_cons_succ]) | (refine wpList_load_mid_g (by rfl) 27 _ rfl (w.heap.size + 1) 4 rfl (uqs y.V) _ (ev_range hC3 hU) Try.underlying27 rfl (uqs_info hU) ?_; try simp only [Act.put, List.setIfInBounds_toArray, List.set_cons_zero, List.set_cons_succ]) | (go_at_call_of 10 (Value.agg (evc x)); refine (h1 _ hX).mono ?_; rintro e w2 ⟨rfl, hg2⟩; have hB2 := (K2 _ hg2).1; have hC2 := (K2 _ hg2).2.1; have hY2 := (K2 _ hg2).2.2; have p2 := ev_0 hB2; have r2 := ev_1 hB2) | (go_at_call_of 10 (Value.agg (evc y)); refine (h2 _ hY2).mono ?_; rintro e w3 ⟨rfl, hg3⟩; have hB3 := (K2 _ (hg2.trans hg3)).1; have hC3 := (K2 _ (hg2.trans hg3)).2.1; have hY3 := (K2 _ (hg2.trans hg3)).2.2; have p3 := ev_0 hB3; have r3 := ev_1 hB3) | (go_at_call 20; refine (h3 _).mono ?_; rintro e w4 ⟨rfl, hg4⟩))
      go_ret
      exact ⟨ret_bool (by rw [HR.out]; simp), ((hb0.trans hg2).trans hg3).trans hg4⟩
end Go.Proofs.Ytigepbklpiilpaa

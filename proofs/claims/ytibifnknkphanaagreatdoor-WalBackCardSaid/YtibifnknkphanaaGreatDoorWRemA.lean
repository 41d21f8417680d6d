/-
  A record put behind the others in a row that may begin in the midst of its block.
-/
import Derived.Test.YtibifnknkphanaaGreatDoorWClosA
import Derived.Deep.AppendSrc
import Derived.Test.YtibifnknkphanaaGreatDoorHeldA
import Derived.Maps.AppendAt
namespace Go.Proofs.YtibifnknkphanaaGreatDoor
open Go.RowKit Go.Maps
open DskM WalM
set_option linter.unusedVariables false
set_option linter.unusedSimpArgs false
set_option maxRecDepth 20000

/-- The block of a row. -/
def rowB (A : Option Addr) (j : Nat) : Prop := ∃ o, A = some ⟨j, o, none⟩
section
variable {T X : Nat → Prop} {W : World}
theorem run_append_row {A : Option Addr} {c : Nat} {ls : List (List UInt8)} (h : RowT T X W (.slice A ls.length c) ls) (xv : Value) (x : List UInt8) (hx : SlT X W xv x) (nb : Nat) (hnb : Blk W nb 22 #[xv]) (hlen : ls.length ≤ 3000000) (hT : ∀ j, rowB A j → T j → ¬ X j) (ty : TypeId) :
    ∃ v' w', (Builtin.append_ #[27, 27] ty #[.slice A ls.length c, .slice (some ⟨nb, 0, none⟩) 1 1]).run Tryz.prog W = .ok v' w' ∧ RowT (fun k => (T k ∧ rowB A k) ∨ (W.heap.size ≤ k ∧ k < w'.heap.size)) X w' v' (ls ++ [x]) ∧ Keep (rowB A) W w' ∧ W.heap.size ≤ w'.heap.size := by
  obtain ⟨i0, hi, hy0, hy1, hy2⟩ := info_parts info_sl
  obtain ⟨A', c', vs, e, h1, h2, h3, h4, h5⟩ := h
  injection e with e1 _ e3
  subst e1 e3
  have hone : xv.oneCell' = true := by
    obtain ⟨Ax, cx, rfl, _⟩ := hx
    rfl
  have hsrc : Src Tryz.prog i0.size 27 (.slice (some ⟨nb, 0, none⟩) 1 1) 1 [xv] W := by
    refine Src.ofSlice W (e' := 22) Tryz.underlying27 ⟨nb, 0, none⟩ 1 1 [xv] (by rw [hy1]; rfl) (fun j u hu => ?_) (fun u hu => by obtain rfl := List.mem_singleton.1 hu; exact hone)
    have hj : j = 0 := by
      have := (List.getElem?_eq_some_iff.1 hu).1
      simpa using this
    subst hj
    rw [add_plain, hnb.cell]
    simpa using hu
  by_cases hroom : ls.length + 1 ≤ c
  · obtain ⟨r, o, C, rfl, ht, hb, h6, h7⟩ : ∃ r o C, A = some ⟨r, o, none⟩ ∧ T r ∧ Blk W r 22 C ∧ o + c ≤ C.size ∧ ∀ i, i < ls.length → C[o + i]? = vs[i]? := by
      rcases h5 with ⟨_, h5⟩ | h5
      · omega
      · exact h5
    have hlt : o + ls.length < C.size := by omega
    have hrun := run_append_room_src (P := Tryz.prog) (w := W) 27 27 ty 22 i0 Tryz.underlying27 hi r o ls.length c _ 1 [xv] hsrc hroom
      (fun j hj => by
        have hj0 : j = 0 := by simpa using hj
        subst hj0
        rw [hb.cell, hy1, Nat.mul_one, Nat.add_zero, Array.getElem?_eq_getElem hlt]; rfl)
      (fun j hj => hb.frozen _)
    rw [hy1, Nat.mul_one] at hrun
    obtain ⟨ds, hbd, hds, hget⟩ := Blk.setAll [xv] (o + ls.length) W C hb
    have hk : Keep (rowB (some ⟨r, o, none⟩)) W (W.setCells r (o + ls.length) [xv]) := Keep.of_grown (grown_setCells r [xv] (o + ls.length) W) (fun k e => by injection e with e; subst e; exact ⟨o, rfl⟩)
    have hsz : (W.setCells r (o + ls.length) [xv]).heap.size = W.heap.size := by simp [World.setCells, World.setCell]
    have hxk : ∀ k cs, X k → Blk W k 5 cs → Blk (W.setCells r (o + ls.length) [xv]) k 5 cs := fun k cs hX hbk => hbk.kept hk (fun ⟨o', e⟩ => by
      injection e with e
      injection e with e _
      subst e
      have e := hbk.symm.trans hb
      injection e with e
      injection e with _ e
      revert e; decide)
    refine ⟨_, _, hrun, ⟨some ⟨r, o, none⟩, c, vs ++ [xv], by simp, by simpa using hroom, h2, by simp [h3], fun i hi' hi2 => ?_, .inr ⟨r, o, ds, rfl, .inl ⟨ht, o, rfl⟩, hbd, by rw [hds]; exact h6, fun i hi' => ?_⟩⟩, hk, Nat.le_of_eq hsz.symm⟩
    · by_cases hlt' : i < ls.length
      · rw [List.getElem_append_left (by omega), List.getElem_append_left hlt']
        exact (h4 i hlt' (by omega)).kept (fun k cs hX hbk => ⟨hX, hxk k cs hX hbk⟩)
      · have hi0 : i = ls.length := by simp at hi'; omega
        subst hi0
        rw [List.getElem_append_right (by omega), List.getElem_append_right (Nat.le_refl _)]
        simp only [h3, Nat.sub_self, List.getElem_cons_zero]
        exact hx.kept (fun k cs hX hbk => ⟨hX, hxk k cs hX hbk⟩)
    · rw [hget _ (by simp at hi'; omega)]
      by_cases hlt' : i < ls.length
      · rw [if_neg (by omega), h7 i hlt', List.getElem?_append_left (by omega)]
      · have hi0 : i = ls.length := by simp at hi'; omega
        subst hi0
        rw [if_pos ⟨Nat.le_refl _, by simp⟩, List.getElem?_append_right (by omega), h3]
        simp
  · have hold : (Builtin.firstCells i0.size ls.length (.slice A ls.length c)).run Tryz.prog W.drew = .ok vs.toArray W.drew := by
      rcases h5 with ⟨rfl, rfl⟩ | ⟨r, o, C, rfl, ht, hb, h6, h7⟩
      · have h0 : ls.length = 0 := by omega
        rw [h0] at h3 ⊢
        have : vs = [] := List.eq_nil_of_length_eq_zero h3
        subst this
        exact run_firstCells_none _ _ _ _ _
      · refine run_firstCells_some _ _ _ _ _ _ _ (by rw [h3, hy1]; simp) (fun j u hu => ?_)
        have hj : j < ls.length := by
          have := (List.getElem?_eq_some_iff.1 hu).1
          omega
        show W.cell? _ = _
        rw [add_plain, hb.cell, h7 j hj]
        exact hu
    have hcl : c = ls.length := by omega
    have hfit : Builtin.nextslicecap (ls.length + 1) c * i0.bytes ≤ 281474976710656 := growslice_fits (by omega) (by rw [hy2]; omega)
    have hrun := run_append_grow_src (P := Tryz.prog) (w := W) 27 27 ty 22 i0 (.slice none 0 0) Tryz.underlying27 hi hy0 A ls.length c vs hold _ 1 [xv] hsrc (by omega) (by omega) hfit
    have hge := grownCap_ge W (ls.length + 1) c 22
    have hle := grownCap_le_maxLen W (ls.length + 1) c 22 (by unfold maxLen; omega)
    generalize grownCap W (ls.length + 1) c 22 = gc at hrun hge hle
    generalize hC : ((vs ++ [xv]).toArray ++ Builtin.zeroCells (Value.cells (.slice none 0 0)) (gc - (ls.length + 1))) = CC at hrun
    have hCs : gc ≤ CC.size := by
      rw [← hC]
      simp [Builtin.zeroCells, Value.cells, h3]
      omega
    have hbd := Blk.new W.drew 22 CC
    have hbw : Below W.heap.size W (W.drew.alloc (.cells CC 22)) := ((Below.refl _ _).drew).alloc (Nat.le_refl _) _
    refine ⟨_, _, hrun, ⟨some ⟨W.heap.size, 0, none⟩, gc, vs ++ [xv], by simp, by simpa using hge, hle, by simp [h3], fun i hi' hi2 => ?_, .inr ⟨W.heap.size, 0, CC, rfl, .inr ⟨Nat.le_refl _, by simp⟩, hbd, by omega, fun i hi' => ?_⟩⟩, Keep.of_below hbw, hbw.size⟩
    · have hk : ∀ k cs, X k → Blk W k 5 cs → X k ∧ Blk (W.drew.alloc (.cells CC 22)) k 5 cs := fun k cs hX hbk => ⟨hX, hbk.below hbw hbk.lt⟩
      by_cases hlt' : i < ls.length
      · rw [List.getElem_append_left (by omega), List.getElem_append_left hlt']
        exact (h4 i hlt' (by omega)).kept hk
      · have hi0 : i = ls.length := by simp at hi'; omega
        subst hi0
        rw [List.getElem_append_right (by omega), List.getElem_append_right (Nat.le_refl _)]
        simp only [h3, Nat.sub_self, List.getElem_cons_zero]
        exact hx.kept hk
    · have hl : i < (vs ++ [xv]).length := by simp at hi' ⊢; omega
      rw [Nat.zero_add, ← hC, Array.getElem?_append, if_pos (by simpa using hl)]
      simp
end
end Go.Proofs.YtibifnknkphanaaGreatDoor

/-
  The closure of Append that puts the record behind the others.
-/
namespace Go.Proofs.YtibifnknkphanaaGreatDoor
open Go.RowKit Go.Maps
open DskM WalM
set_option linter.unusedVariables false
set_option linter.unusedSimpArgs false
set_option maxRecDepth 20000
attribute [local go_sem] Oper.semAt_some

section
variable {D T : Nat → Prop} {w : World} {g p : Nat} {s : ByteArray} {most : Int}
theorem oper_append {P : Program} {o : Oper} {a : Act} {W W' : World} {K : Act → World → Prop} {Q : Exit → Act → World → Prop} {v v2 v' : Value} (s x : Operand) (t : TypeId) (ho : o.op = .call { callee := .builtin .append, args := #[s, x], argTypes := #[t, t] })
    (hs : a.eval s = v) (hx : a.eval x = v2) (hr : (Builtin.append_ #[t, t] o.type #[v, v2]).run P W = .ok v' W') (h : K (a.put o.dst v') W') : Oper.wp P o a W K Q := by
  unfold Oper.wp execOp
  simp only [ho, resolve, invoke, builtin, Sem.run_bind, Sem.run_pure, Result.andThen_ok, List.map_toArray, List.map_cons, List.map_nil, hs, hx, hr]
  exact h
/-- A record is put behind the others. -/
def putP (rec : List UInt8) : PStep := fun S F L => (0, S, F, { L with recs := L.recs ++ [rec.drop 8], size := wrap64 (L.size + (rec.length : Int)) })
set_option maxHeartbeats 4000000 in
theorem put_step (c0 c1 br o c : Nat) (rec : List UInt8) (q0 : w.cell? ⟨c0, 0, none⟩ = some (.pointer (some ⟨g, 0, none⟩))) (e0 : ¬ (D c0 ∨ T c0)) (q1 : w.cell? ⟨c1, 0, none⟩ = some (.slice (some ⟨br, o, none⟩) rec.length c)) (e1 : ¬ (D c1 ∨ T c1))
    (hrec : SlT (fun k => ¬ D k ∧ ¬ T k) w (.slice (some ⟨br, o, none⟩) rec.length c) rec) (h8 : 8 ≤ rec.length) (hc : rec.length ≤ c) :
    StepOk D T w g p s most (61, #[.pointer (some ⟨c0, 0, none⟩), .pointer (some ⟨c1, 0, none⟩)]) (putP rec) := by
  have hfo : Tryz.prog.follows .mixedOrders = true := by kernel_rfl
  refine ⟨enters_of Tryz.func61 (by kernel_rfl) rfl, fun S F L => Nat.le_succ _, fun S F L => by show (L.recs ++ [rec.drop 8]).length ≤ _; rw [List.length_append]; exact Nat.le_max_left _ _, fun S F L W hlt hw hrl => ?_⟩
  obtain ⟨D1, T1, h1, hcel, hslt, hback⟩ := hlt.open
  obtain ⟨b0, d0, t0⟩ := hcel _ _ q0 e0
  obtain ⟨b1, d1, t1⟩ := hcel _ _ q1 e1
  obtain ⟨vs, vr, hb, ht, hsl, hro⟩ := h1.log
  obtain ⟨A, n, cr, rfl⟩ : ∃ A n cr, vr = .slice A n cr := by obtain ⟨A, cr, _, e, _⟩ := hro; exact ⟨A, _, cr, e⟩
  obtain rfl : n = L.recs.length := by obtain ⟨A, cr, _, e, _⟩ := hro; injection e
  have hgA : ∀ j, rowB A j → T1 j ∧ ∃ C, Blk W j 22 C := fun j ⟨o', e⟩ => by
    obtain ⟨A2, cr2, vv, e2, _, _, _, _, h5⟩ := id hro
    injection e2 with e2 _ _
    subst e2
    rcases h5 with ⟨h5, _⟩ | ⟨r, o2, C, h5, h6, h7, _⟩
    · rw [h5] at e; cases e
    · rw [h5] at e
      injection e with e
      injection e with e _
      subst e
      exact ⟨h6, C, h7⟩
  have hgn : ¬ rowB A g := fun e => by
    obtain ⟨C, hC⟩ := (hgA g e).2
    have e := hC.symm.trans hb
    injection e with e
    injection e with _ e
    revert e; decide
  have hc0n : ¬ rowB A c0 := fun e => t0 (hgA _ e).1
  have hc1n : ¬ rowB A c1 := fun e => t1 (hgA _ e).1
  have hbg : ∀ X, Keep (rowB A) W X → Blk X g 60 (lgCells p s most L.num vs (.slice A L.recs.length cr) L.size L.synced L.dead) := fun X k => hb.kept k hgn
  have HC := Lib.hid (fun X (k : Keep (rowB A) W X) => And.intro (k.cell b0 hc0n) (And.intro (k.cell b1 hc1n) (show X.cell? ⟨g, 5, none⟩ = some (.slice A L.recs.length cr) from by rw [(hbg X k).cell]; rfl)))
  have HF5 := Lib.hid (fun X (k : Keep (rowB A) W X) => (hbg X k).frozen 5)
  have i1 : (8 : Int) ≤ (rec.length : Int) := by omega
  have i2 : (rec.length : Int) ≤ (c : Int) := by omega
  have hxr := hslt _ _ hrec
  have HAPPX := Lib.hid (show ∀ vx, SlT (fun k => ¬ D1 k ∧ ¬ T1 k) W vx (rec.drop 8) → ∀ Z0, Z0 = W.drew → ∃ v' w', (Builtin.append_ #[27, 27] 27 #[.slice A L.recs.length cr, .slice (some ⟨Z0.heap.size, 0, none⟩) 1 1]).run Tryz.prog (Z0.alloc (.cells #[vx] 22)) = .ok v' w' ∧ RowT (fun k => (T1 k ∧ rowB A k) ∨ ((Z0.alloc (.cells #[vx] 22)).heap.size ≤ k ∧ k < w'.heap.size)) (fun k => ¬ D1 k ∧ ¬ T1 k ∧ k < W.heap.size) w' v' (L.recs ++ [rec.drop 8]) ∧ Keep (rowB A) (Z0.alloc (.cells #[vx] 22)) w' ∧ (Z0.alloc (.cells #[vx] 22)).heap.size ≤ w'.heap.size from fun vx hvx Z0 hZ0 => by
    subst hZ0
    have hbz : Below W.heap.size W (W.drew.alloc (.cells #[vx] 22)) := ((Below.refl _ _).drew).alloc (Nat.le_refl _) _
    exact run_append_row (T := T1) (X := fun k => ¬ D1 k ∧ ¬ T1 k ∧ k < W.heap.size) (hro.kept (fun k cs hX hk => ⟨⟨hX.1, hX.2, hk.lt⟩, hk.below hbz hk.lt⟩) (fun k cs hT hk => ⟨hT, hk.below hbz hk.lt⟩)) vx (rec.drop 8) (hvx.kept (fun k cs hX hk => ⟨⟨hX.1, hX.2, hk.lt⟩, hk.below hbz hk.lt⟩)) _ (Blk.new _ _ _) (by omega) (fun j _ hT hX => hX.2.1 hT) _)
  have HEND := Lib.hid (show ∀ vx Z0 w9 v9, Z0 = W.drew → RowT (fun k => (T1 k ∧ rowB A k) ∨ ((Z0.alloc (.cells #[vx] 22)).heap.size ≤ k ∧ k < w9.heap.size)) (fun k => ¬ D1 k ∧ ¬ T1 k ∧ k < W.heap.size) w9 v9 (L.recs ++ [rec.drop 8]) → Keep (rowB A) (Z0.alloc (.cells #[vx] 22)) w9 →
      Blk w9 g 60 (lgCells p s most L.num vs (.slice A L.recs.length cr) L.size L.synced L.dead) ∧ w9.cell? ⟨c0, 0, none⟩ = some (.pointer (some ⟨g, 0, none⟩)) ∧ w9.cell? ⟨c1, 0, none⟩ = some (.slice (some ⟨br, o, none⟩) rec.length c) ∧ c0 ≠ g ∧ c1 ≠ g ∧
      LT D T w g p s most S F (putP rec S F L).2.2.2 (((w9.setCell ⟨g, 5, none⟩ v9).setCell ⟨g, 6, none⟩ (.int .i64 (wrap64 (L.size + (rec.length : Int))))).drew) from fun vx Z0 w9 v9 hZ0 hrow hk9 => by
    subst hZ0
    have hbz : Below W.heap.size W (W.drew.alloc (.cells #[vx] 22)) := ((Below.refl _ _).drew).alloc (Nat.le_refl _) _
    have k9 : Keep (rowB A) W w9 := (Keep.of_below hbz).trans hk9 (fun _ h => h) (fun _ _ h => h)
    have hb9 := hbg w9 k9
    have kg : Keep (fun j => j = g) w9 ((w9.setCell ⟨g, 5, none⟩ v9).setCell ⟨g, 6, none⟩ (.int .i64 (wrap64 (L.size + (rec.length : Int))))) := (Keep.setCell (S := fun j => j = g) w9 _ _ rfl).trans (Keep.setCell (S := fun j => j = g) _ _ _ rfl) (fun _ h => h) (fun _ _ h => h)
    have kT : Keep T1 W ((w9.setCell ⟨g, 5, none⟩ v9).setCell ⟨g, 6, none⟩ (.int .i64 (wrap64 (L.size + (rec.length : Int))))) := (k9.mono (fun j e => (hgA j e).1)).trans (kg.mono (fun j e => e ▸ ht)) (fun _ h => h) (fun _ _ h => h)
    have b99 := (hb9.set_ 5 v9).set_ 6 (.int .i64 (wrap64 (L.size + (rec.length : Int))))
    refine ⟨hb9, k9.cell b0 hc0n, k9.cell b1 hc1n, fun e => t0 (e ▸ ht), fun e => t1 (e ▸ ht), (hback _ _ _ _ (h1.turn (L' := (putP rec S F L).2.2.2) (vs := vs) (vr := v9) kT b99 (h1.bytes hsl kT) ?_ h1.nb)).below (Below.refl _ _).drew⟩
    have hs1 := kT.size
    refine hrow.kept (fun k cs hX hk => ⟨hX, hk.kept kg (fun e => hX.2.1 (e ▸ ht))⟩) (fun k cs hT hk => ⟨hT.elim (fun e => .inl e.1) (fun e => .inr ⟨Nat.le_trans hbz.size e.1, Nat.lt_of_lt_of_le e.2 kg.size⟩), hk.kept kg (fun e => ?_)⟩)
    subst e
    have e := hk.symm.trans hb9
    injection e with e
    injection e with _ e
    revert e; decide)
  clear hcel hslt hback hb ht hsl hro hgA hgn hc0n hc1n hbg d0 d1 t0 t1 h1 hlt q0 q1 e0 e1 b0 b1
  obtain ⟨n, hn⟩ : ∃ n, L.recs.length = n := ⟨_, rfl⟩
  have HN := Lib.hid hn
  by_cases hc8 : c = 8
  · subst hc8
    have hr0 : rec.drop 8 = [] := List.drop_eq_nil_of_le (by omega)
    have HAPP := Lib.hid (HAPPX.out (.slice (some ⟨br, o, none⟩) 0 0) (by rw [hr0]; exact SlT.nil _ _ _ _))
    have HENDX := Lib.hid (HEND.out (.slice (some ⟨br, o, none⟩) 0 0))
    clear HAPPX HEND hrec hxr
    rw [hn] at HAPP HENDX HC
    clear hn
    go_enter Tryz.func61, Tryz.ntmps61
    go_wp2_with fail
    have HB := Lib.hid (show ∀ X, Keep (rowB A) W.drew X → Keep (rowB A) W X from fun X hX => (Keep.of_below ((Below.refl _ _).drew)).trans hX (fun _ h => h) (fun _ _ h => h))
    refine tail_begin 13 (S := fun X => Keep (rowB A) W.drew X) hfo (by kernel_rfl) (Keep.refl _ _) (fun hS0 => ?_)
    obtain ⟨Z0, hZ0⟩ : ∃ Z0, Z0 = W.drew := ⟨_, rfl⟩
    rw [← hZ0] at hS0 HB ⊢
    have HZ0 := Lib.hid hZ0
    clear hZ0
    refine' tail_take (i := 0) (oi := ⟨some 3, _, _, _, _, _⟩) (v := _) rfl (by kernel_rfl) (by kernel_rfl) (by decide) (fun _ _ _ h => h) (Or.inl ⟨by rfl, ?y0a⟩) hS0 ?r0a
    case y0a => (intro w' hSw; obtain ⟨s0, s1, s2⟩ := HC.out w' (HB.out w' hSw); go_simp; try rfl)
    try simp only [Act.put, List.setIfInBounds_toArray, List.set_cons_zero, List.set_cons_succ]
    refine' tail_take (i := 1) (oi := ⟨some 4, _, _, _, _, _⟩) (v := _) rfl (by kernel_rfl) (by kernel_rfl) (by decide) (fun _ _ _ h => h) (Or.inl ⟨by rfl, ?y1a⟩) hS0 ?r1a
    case y1a => (intro w' hSw; obtain ⟨s0, s1, s2⟩ := HC.out w' (HB.out w' hSw); go_simp; try rfl)
    try simp only [Act.put, List.setIfInBounds_toArray, List.set_cons_zero, List.set_cons_succ]
    refine' tail_take (i := 2) (oi := ⟨some 5, _, _, _, _, _⟩) (v := _) rfl (by kernel_rfl) (by kernel_rfl) (by decide) (fun _ _ _ h => h) (Or.inl ⟨by rfl, ?y2a⟩) hS0 ?r2a
    case y2a => (intro w' hSw; obtain ⟨s0, s1, s2⟩ := HC.out w' (HB.out w' hSw); go_simp; try rfl)
    try simp only [Act.put, List.setIfInBounds_toArray, List.set_cons_zero, List.set_cons_succ]
    refine' tail_take (i := 3) (oi := ⟨some 6, _, _, _, _, _⟩) (v := _) rfl (by kernel_rfl) (by kernel_rfl) (by decide) (fun _ _ _ h => h) (Or.inl ⟨by rfl, ?y3a⟩) hS0 ?r3a
    case y3a => (intro w' hSw; obtain ⟨s0, s1, s2⟩ := HC.out w' (HB.out w' hSw); go_simp; try rfl)
    try simp only [Act.put, List.setIfInBounds_toArray, List.set_cons_zero, List.set_cons_succ]
    refine' tail_take (i := 4) (oi := ⟨some 7, _, _, _, _, _⟩) (v := _) rfl (by kernel_rfl) (by kernel_rfl) (by decide) (fun _ _ _ h => h) (Or.inl ⟨by rfl, ?y4a⟩) hS0 ?r4a
    case y4a => (intro w' hSw; obtain ⟨s0, s1, s2⟩ := HC.out w' (HB.out w' hSw); go_simp; try rfl)
    try simp only [Act.put, List.setIfInBounds_toArray, List.set_cons_zero, List.set_cons_succ]
    refine' tail_take (i := 5) (oi := ⟨some 8, _, _, _, _, _⟩) (v := _) rfl (by kernel_rfl) (by kernel_rfl) (by decide) (fun _ _ _ h => h) (Or.inl ⟨by rfl, ?y5a⟩) hS0 ?r5a
    case y5a => (intro w' hSw; obtain ⟨s0, s1, s2⟩ := HC.out w' (HB.out w' hSw); go_simp; try rfl)
    try simp only [Act.put, List.setIfInBounds_toArray, List.set_cons_zero, List.set_cons_succ]
    refine' tail_take (i := 6) (oi := ⟨some 9, _, _, _, _, _⟩) (v := _) rfl (by kernel_rfl) (by kernel_rfl) (by decide) (fun _ _ _ h => h) (Or.inl ⟨by rfl, ?y6a⟩) hS0 ?r6a
    case y6a => (intro w' hSw; obtain ⟨s0, s1, s2⟩ := HC.out w' (HB.out w' hSw); go_simp; try rfl)
    try simp only [Act.put, List.setIfInBounds_toArray, List.set_cons_zero, List.set_cons_succ]
    refine' tail_take (i := 7) (oi := ⟨some 10, _, _, _, _, _⟩) (v := _) rfl (by kernel_rfl) (by kernel_rfl) (by decide) (fun _ _ _ h => h) (Or.inl ⟨by rfl, ?y7a⟩) hS0 ?r7a
    case y7a => (intro w' hSw; obtain ⟨s0, s1, s2⟩ := HC.out w' (HB.out w' hSw); go_simp; try rfl)
    try simp only [Act.put, List.setIfInBounds_toArray, List.set_cons_zero, List.set_cons_succ]
    refine tail_one (i := 8) (by kernel_rfl) rfl (by decide) (fun K hK => ?_)
    go_simp
    have hS1 : Keep (rowB A) Z0 (Z0.alloc (.cells #[.slice (some ⟨br, o, none⟩) 0 0] 22)) := Keep.of_below (al_one _ _)
    refine hK.out _ _ hS1 (fun _ => ?_)
    clear hK K
    try simp only [Act.put, List.setIfInBounds_toArray, List.set_cons_zero, List.set_cons_succ]
    refine tail_one (i := 9) (by kernel_rfl) rfl (by decide) (fun K hK => ?_)
    obtain ⟨v9, w9, hrun9, hrow9, hk9, hsz9⟩ := HAPP.out Z0 HZ0.out
    have hS2 : Keep (rowB A) Z0 w9 := hS1.trans hk9 (fun _ h => h) (fun _ _ h => h)
    have HR9 := Lib.hid (And.intro hrow9 (And.intro hk9 hsz9))
    clear hrow9 hk9 hsz9
    obtain ⟨A9, c9, hv9⟩ : ∃ A9 c9, v9 = .slice A9 (n + 1) c9 := by obtain ⟨A9, c9, _, e, _⟩ := HR9.out.1; exact ⟨A9, c9, by rw [e]; simp [HN.out]⟩
    subst hv9
    refine held_wanted rfl ?_
    refine oper_append (.tmp 8) (.tmp 11) 27 rfl rfl rfl hrun9 ?_
    refine hK.out _ _ hS2 (fun _ => ?_)
    clear hK K
    try simp only [Act.put, List.setIfInBounds_toArray, List.set_cons_zero, List.set_cons_succ]
    refine' tail_take (i := 10) (oi := ⟨some 13, _, _, _, _, _⟩) (v := _) rfl (by kernel_rfl) (by kernel_rfl) (by decide) (fun _ _ _ h => h) (Or.inl ⟨by rfl, ?y10a⟩) hS2 ?r10a
    case y10a => (intro w' hSw; obtain ⟨s0, s1, s2⟩ := HC.out w' (HB.out w' hSw); go_simp; try rfl)
    try simp only [Act.put, List.setIfInBounds_toArray, List.set_cons_zero, List.set_cons_succ]
    refine' tail_take (i := 11) (oi := ⟨some 14, _, _, _, _, _⟩) (v := _) rfl (by kernel_rfl) (by kernel_rfl) (by decide) (fun _ _ _ h => h) (Or.inl ⟨by rfl, ?y11a⟩) hS2 ?r11a
    case y11a => (intro w' hSw; obtain ⟨s0, s1, s2⟩ := HC.out w' (HB.out w' hSw); go_simp; try rfl)
    try simp only [Act.put, List.setIfInBounds_toArray, List.set_cons_zero, List.set_cons_succ]
    refine' tail_take (i := 12) (oi := ⟨some 15, _, _, _, _, _⟩) (v := _) rfl (by kernel_rfl) (by kernel_rfl) (by decide) (fun _ _ _ h => h) (Or.inl ⟨by rfl, ?y12a⟩) hS2 ?r12a
    case y12a => (intro w' hSw; obtain ⟨s0, s1, s2⟩ := HC.out w' (HB.out w' hSw); go_simp; try rfl)
    try simp only [Act.put, List.setIfInBounds_toArray, List.set_cons_zero, List.set_cons_succ]
    have q5 : w9.cell? ⟨g, 5, none⟩ = some (.slice A n cr) := (HC.out _ (HB.out _ hS2)).2.2
    have f5 : w9.frozen? ⟨g, 5, none⟩ = false := HF5.out _ (HB.out _ hS2)
    refine tail_last (by kernel_rfl) rfl (by kernel_rfl) (fun K hK => ?_)
    go_simp
    refine hK.out _ _ ?_
    clear hK K
    try simp only [Act.put, List.setIfInBounds_toArray, List.set_cons_zero, List.set_cons_succ]
    obtain ⟨hb9, p0, p1, hne0, hne1, hend⟩ := HENDX.out Z0 w9 _ HZ0.out HR9.out.1 HR9.out.2.1
    have HLAST := Lib.hid hend
    have r0 : (w9.setCell ⟨g, 5, none⟩ (.slice A9 (n + 1) c9)).cell? ⟨c0, 0, none⟩ = some (.pointer (some ⟨g, 0, none⟩)) := ((Keep.setCell (S := fun j => j = g) w9 ⟨g, 5, none⟩ (.slice A9 (n + 1) c9) rfl).cell p0 hne0)
    have r1 : (w9.setCell ⟨g, 5, none⟩ (.slice A9 (n + 1) c9)).cell? ⟨c1, 0, none⟩ = some (.slice (some ⟨br, o, none⟩) rec.length 8) := ((Keep.setCell (S := fun j => j = g) w9 ⟨g, 5, none⟩ (.slice A9 (n + 1) c9) rfl).cell p1 hne1)
    have r6 : (w9.setCell ⟨g, 5, none⟩ (.slice A9 (n + 1) c9)).cell? ⟨g, 6, none⟩ = some (.int .i64 L.size) := by rw [(hb9.set_ 5 (.slice A9 (n + 1) c9)).cell]; rfl
    have f6 : (w9.setCell ⟨g, 5, none⟩ (.slice A9 (n + 1) c9)).frozen? ⟨g, 6, none⟩ = false := (hb9.set_ 5 (.slice A9 (n + 1) c9)).frozen 6
    obtain ⟨Y, hY⟩ : ∃ Y, Y = w9.setCell ⟨g, 5, none⟩ (.slice A9 (n + 1) c9) := ⟨_, rfl⟩
    rw [← hY] at r0 r1 r6 f6 HLAST ⊢
    clear hb9 p0 p1 hne0 hne1 hend hY q5 f5 hS0 hS1 hS2 HB HC HF5 HAPP HR9 HENDX hrun9 HZ0
    go_wp2_with fail
    go_still_tail 11, hfo
    go_wp2
    go_ret
    exact ⟨rfl, HLAST.out⟩
  · have hc9 : 8 < c := by omega
    have HAPP := Lib.hid (HAPPX.out (.slice (some ⟨br, o + 8, none⟩) (rec.length - 8) (c - 8)) (hxr.drop8 h8))
    have HENDX := Lib.hid (HEND.out (.slice (some ⟨br, o + 8, none⟩) (rec.length - 8) (c - 8)))
    clear HAPPX HEND hrec hxr
    rw [hn] at HAPP HENDX HC
    clear hn
    go_enter Tryz.func61, Tryz.ntmps61
    go_wp2_with fail
    have HB := Lib.hid (show ∀ X, Keep (rowB A) W.drew X → Keep (rowB A) W X from fun X hX => (Keep.of_below ((Below.refl _ _).drew)).trans hX (fun _ h => h) (fun _ _ h => h))
    refine tail_begin 13 (S := fun X => Keep (rowB A) W.drew X) hfo (by kernel_rfl) (Keep.refl _ _) (fun hS0 => ?_)
    obtain ⟨Z0, hZ0⟩ : ∃ Z0, Z0 = W.drew := ⟨_, rfl⟩
    rw [← hZ0] at hS0 HB ⊢
    have HZ0 := Lib.hid hZ0
    clear hZ0
    refine' tail_take (i := 0) (oi := ⟨some 3, _, _, _, _, _⟩) (v := _) rfl (by kernel_rfl) (by kernel_rfl) (by decide) (fun _ _ _ h => h) (Or.inl ⟨by rfl, ?y0b⟩) hS0 ?r0b
    case y0b => (intro w' hSw; obtain ⟨s0, s1, s2⟩ := HC.out w' (HB.out w' hSw); go_simp; try rfl)
    try simp only [Act.put, List.setIfInBounds_toArray, List.set_cons_zero, List.set_cons_succ]
    refine' tail_take (i := 1) (oi := ⟨some 4, _, _, _, _, _⟩) (v := _) rfl (by kernel_rfl) (by kernel_rfl) (by decide) (fun _ _ _ h => h) (Or.inl ⟨by rfl, ?y1b⟩) hS0 ?r1b
    case y1b => (intro w' hSw; obtain ⟨s0, s1, s2⟩ := HC.out w' (HB.out w' hSw); go_simp; try rfl)
    try simp only [Act.put, List.setIfInBounds_toArray, List.set_cons_zero, List.set_cons_succ]
    refine' tail_take (i := 2) (oi := ⟨some 5, _, _, _, _, _⟩) (v := _) rfl (by kernel_rfl) (by kernel_rfl) (by decide) (fun _ _ _ h => h) (Or.inl ⟨by rfl, ?y2b⟩) hS0 ?r2b
    case y2b => (intro w' hSw; obtain ⟨s0, s1, s2⟩ := HC.out w' (HB.out w' hSw); go_simp; try rfl)
    try simp only [Act.put, List.setIfInBounds_toArray, List.set_cons_zero, List.set_cons_succ]
    refine' tail_take (i := 3) (oi := ⟨some 6, _, _, _, _, _⟩) (v := _) rfl (by kernel_rfl) (by kernel_rfl) (by decide) (fun _ _ _ h => h) (Or.inl ⟨by rfl, ?y3b⟩) hS0 ?r3b
    case y3b => (intro w' hSw; obtain ⟨s0, s1, s2⟩ := HC.out w' (HB.out w' hSw); go_simp; try rfl)
    try simp only [Act.put, List.setIfInBounds_toArray, List.set_cons_zero, List.set_cons_succ]
    refine' tail_take (i := 4) (oi := ⟨some 7, _, _, _, _, _⟩) (v := _) rfl (by kernel_rfl) (by kernel_rfl) (by decide) (fun _ _ _ h => h) (Or.inl ⟨by rfl, ?y4b⟩) hS0 ?r4b
    case y4b => (intro w' hSw; obtain ⟨s0, s1, s2⟩ := HC.out w' (HB.out w' hSw); go_simp; try rfl)
    try simp only [Act.put, List.setIfInBounds_toArray, List.set_cons_zero, List.set_cons_succ]
    refine' tail_take (i := 5) (oi := ⟨some 8, _, _, _, _, _⟩) (v := _) rfl (by kernel_rfl) (by kernel_rfl) (by decide) (fun _ _ _ h => h) (Or.inl ⟨by rfl, ?y5b⟩) hS0 ?r5b
    case y5b => (intro w' hSw; obtain ⟨s0, s1, s2⟩ := HC.out w' (HB.out w' hSw); go_simp; try rfl)
    try simp only [Act.put, List.setIfInBounds_toArray, List.set_cons_zero, List.set_cons_succ]
    refine' tail_take (i := 6) (oi := ⟨some 9, _, _, _, _, _⟩) (v := _) rfl (by kernel_rfl) (by kernel_rfl) (by decide) (fun _ _ _ h => h) (Or.inl ⟨by rfl, ?y6b⟩) hS0 ?r6b
    case y6b => (intro w' hSw; obtain ⟨s0, s1, s2⟩ := HC.out w' (HB.out w' hSw); go_simp; try rfl)
    try simp only [Act.put, List.setIfInBounds_toArray, List.set_cons_zero, List.set_cons_succ]
    refine' tail_take (i := 7) (oi := ⟨some 10, _, _, _, _, _⟩) (v := _) rfl (by kernel_rfl) (by kernel_rfl) (by decide) (fun _ _ _ h => h) (Or.inl ⟨by rfl, ?y7b⟩) hS0 ?r7b
    case y7b => (intro w' hSw; obtain ⟨s0, s1, s2⟩ := HC.out w' (HB.out w' hSw); go_simp; try rfl)
    try simp only [Act.put, List.setIfInBounds_toArray, List.set_cons_zero, List.set_cons_succ]
    refine tail_one (i := 8) (by kernel_rfl) rfl (by decide) (fun K hK => ?_)
    go_simp
    have hS1 : Keep (rowB A) Z0 (Z0.alloc (.cells #[.slice (some ⟨br, o + 8, none⟩) (rec.length - 8) (c - 8)] 22)) := Keep.of_below (al_one _ _)
    refine hK.out _ _ hS1 (fun _ => ?_)
    clear hK K
    try simp only [Act.put, List.setIfInBounds_toArray, List.set_cons_zero, List.set_cons_succ]
    refine tail_one (i := 9) (by kernel_rfl) rfl (by decide) (fun K hK => ?_)
    obtain ⟨v9, w9, hrun9, hrow9, hk9, hsz9⟩ := HAPP.out Z0 HZ0.out
    have hS2 : Keep (rowB A) Z0 w9 := hS1.trans hk9 (fun _ h => h) (fun _ _ h => h)
    have HR9 := Lib.hid (And.intro hrow9 (And.intro hk9 hsz9))
    clear hrow9 hk9 hsz9
    obtain ⟨A9, c9, hv9⟩ : ∃ A9 c9, v9 = .slice A9 (n + 1) c9 := by obtain ⟨A9, c9, _, e, _⟩ := HR9.out.1; exact ⟨A9, c9, by rw [e]; simp [HN.out]⟩
    subst hv9
    refine held_wanted rfl ?_
    refine oper_append (.tmp 8) (.tmp 11) 27 rfl rfl rfl hrun9 ?_
    refine hK.out _ _ hS2 (fun _ => ?_)
    clear hK K
    try simp only [Act.put, List.setIfInBounds_toArray, List.set_cons_zero, List.set_cons_succ]
    refine' tail_take (i := 10) (oi := ⟨some 13, _, _, _, _, _⟩) (v := _) rfl (by kernel_rfl) (by kernel_rfl) (by decide) (fun _ _ _ h => h) (Or.inl ⟨by rfl, ?y10b⟩) hS2 ?r10b
    case y10b => (intro w' hSw; obtain ⟨s0, s1, s2⟩ := HC.out w' (HB.out w' hSw); go_simp; try rfl)
    try simp only [Act.put, List.setIfInBounds_toArray, List.set_cons_zero, List.set_cons_succ]
    refine' tail_take (i := 11) (oi := ⟨some 14, _, _, _, _, _⟩) (v := _) rfl (by kernel_rfl) (by kernel_rfl) (by decide) (fun _ _ _ h => h) (Or.inl ⟨by rfl, ?y11b⟩) hS2 ?r11b
    case y11b => (intro w' hSw; obtain ⟨s0, s1, s2⟩ := HC.out w' (HB.out w' hSw); go_simp; try rfl)
    try simp only [Act.put, List.setIfInBounds_toArray, List.set_cons_zero, List.set_cons_succ]
    refine' tail_take (i := 12) (oi := ⟨some 15, _, _, _, _, _⟩) (v := _) rfl (by kernel_rfl) (by kernel_rfl) (by decide) (fun _ _ _ h => h) (Or.inl ⟨by rfl, ?y12b⟩) hS2 ?r12b
    case y12b => (intro w' hSw; obtain ⟨s0, s1, s2⟩ := HC.out w' (HB.out w' hSw); go_simp; try rfl)
    try simp only [Act.put, List.setIfInBounds_toArray, List.set_cons_zero, List.set_cons_succ]
    have q5 : w9.cell? ⟨g, 5, none⟩ = some (.slice A n cr) := (HC.out _ (HB.out _ hS2)).2.2
    have f5 : w9.frozen? ⟨g, 5, none⟩ = false := HF5.out _ (HB.out _ hS2)
    refine tail_last (by kernel_rfl) rfl (by kernel_rfl) (fun K hK => ?_)
    go_simp
    refine hK.out _ _ ?_
    clear hK K
    try simp only [Act.put, List.setIfInBounds_toArray, List.set_cons_zero, List.set_cons_succ]
    obtain ⟨hb9, p0, p1, hne0, hne1, hend⟩ := HENDX.out Z0 w9 _ HZ0.out HR9.out.1 HR9.out.2.1
    have HLAST := Lib.hid hend
    have r0 : (w9.setCell ⟨g, 5, none⟩ (.slice A9 (n + 1) c9)).cell? ⟨c0, 0, none⟩ = some (.pointer (some ⟨g, 0, none⟩)) := ((Keep.setCell (S := fun j => j = g) w9 ⟨g, 5, none⟩ (.slice A9 (n + 1) c9) rfl).cell p0 hne0)
    have r1 : (w9.setCell ⟨g, 5, none⟩ (.slice A9 (n + 1) c9)).cell? ⟨c1, 0, none⟩ = some (.slice (some ⟨br, o, none⟩) rec.length c) := ((Keep.setCell (S := fun j => j = g) w9 ⟨g, 5, none⟩ (.slice A9 (n + 1) c9) rfl).cell p1 hne1)
    have r6 : (w9.setCell ⟨g, 5, none⟩ (.slice A9 (n + 1) c9)).cell? ⟨g, 6, none⟩ = some (.int .i64 L.size) := by rw [(hb9.set_ 5 (.slice A9 (n + 1) c9)).cell]; rfl
    have f6 : (w9.setCell ⟨g, 5, none⟩ (.slice A9 (n + 1) c9)).frozen? ⟨g, 6, none⟩ = false := (hb9.set_ 5 (.slice A9 (n + 1) c9)).frozen 6
    obtain ⟨Y, hY⟩ : ∃ Y, Y = w9.setCell ⟨g, 5, none⟩ (.slice A9 (n + 1) c9) := ⟨_, rfl⟩
    rw [← hY] at r0 r1 r6 f6 HLAST ⊢
    clear hb9 p0 p1 hne0 hne1 hend hY q5 f5 hS0 hS1 hS2 HB HC HF5 HAPP HR9 HENDX hrun9 HZ0
    go_wp2_with fail
    go_still_tail 11, hfo
    go_wp2
    go_ret
    exact ⟨rfl, HLAST.out⟩
end
end Go.Proofs.YtibifnknkphanaaGreatDoor

/-
  removal and beginning: lists of closures.
-/
namespace Go.Proofs.YtibifnknkphanaaGreatDoor
open Go.RowKit Go.Maps
open DskM WalM
set_option linter.unusedVariables false
set_option linter.unusedSimpArgs false
set_option maxRecDepth 20000
attribute [local go_sem] Oper.semAt_some

theorem info_step : (Tryz.prog.info? 150).map (fun i => (i.zero, i.size, i.bytes)) = some (some .nilFunc, 1, 8) := by kernel_rfl
/-- A row of the call's own, of closures. -/
def Stps (B : Nat) (W : World) (v : Value) (xs : List (Nat × Array Value)) : Prop := W.ownsRow B 150 1 v xs.length (xs.map fnV)
theorem Stps.below {B K : Nat} {W W' : World} {v : Value} {xs : List (Nat × Array Value)} (h : Stps B W v xs) (hb : Below K W W') (hK : W.heap.size ≤ K) : Stps B W' v xs := by
  unfold Stps at h ⊢
  refine ⟨h.1, ?_⟩
  rcases h.2 with h2 | ⟨g, cap, cur, hv, hg, hh, r⟩
  · exact .inl h2
  · exact .inr ⟨g, cap, cur, hv, hg, (Blk.below (cs := cur) hh hb (Nat.lt_of_lt_of_le (Blk.lt (cs := cur) hh) hK)), r⟩
theorem Stps.shape {B : Nat} {W : World} {v : Value} {xs : List (Nat × Array Value)} (h : Stps B W v xs) : ∃ A c, v = .slice A xs.length c := row_shape h
theorem Stps.cells {B : Nat} {W : World} {A : Option Addr} {n c : Nat} {xs : List (Nat × Array Value)} (h : Stps B W (.slice A n c) xs) (hp : 0 < xs.length) : ∃ b, A = some ⟨b, 0, none⟩ ∧ n = xs.length ∧ B ≤ b ∧ b < W.heap.size ∧ ∀ i (hi : i < xs.length), W.cell? ⟨b, 0 + i, none⟩ = some (fnV xs[i]) := by
  rcases h.2 with ⟨_, h0⟩ | ⟨b, cap, cur, e, hb, hh, h1, h2, h3, h4⟩
  · omega
  · injection e with e1 e2 e3
    subst e1 e2 e3
    refine ⟨b, rfl, rfl, hb, Blk.lt (cs := cur) hh, fun i hi => ?_⟩
    rw [Nat.zero_add, Blk.cell (cs := cur) hh]
    have e : (cur.toList.take (xs.length * 1))[i]? = some (fnV xs[i]) := by rw [h4]; simp [List.getElem?_eq_getElem hi]
    rw [List.getElem?_take, if_pos (by omega)] at e
    simpa using e
/-- What a row of closures has grown out of stands, but for the row. -/
theorem Stps.row {B : Nat} {W : World} {A : Option Addr} {n c : Nat} {xs : List (Nat × Array Value)} (h : Stps B W (.slice A n c) xs) : ∀ r, (Value.slice A n c).ownBlock = some r → B ≤ r ∧ ∃ C, Blk W r 150 C := fun r e => by
  rcases h.2 with ⟨e2, _⟩ | ⟨gg, cap, cur, e2, hg, hh, _⟩
  · rw [e2] at e; cases e
  · rw [e2] at e
    injection e with e
    subst e
    exact ⟨hg, cur, hh⟩
theorem grown_blk {W W' : World} {A : Option Addr} {n c B : Nat} {xs : List (Nat × Array Value)} (h : Stps B W (.slice A n c) xs) (hg : W.grownBy W' (Value.slice A n c).ownBlock) {k : Nat} {t : TypeId} {C : Array Value} (hk : Blk W k t C) (ht : t ≠ 150) : Blk W' k t C :=
  hk.grown hg (fun e => by
    obtain ⟨_, C', hC⟩ := h.row k e.symm
    have e := hk.symm.trans hC
    injection e with e
    injection e with _ e
    exact ht e)
theorem grown_below {W W' w : World} {A : Option Addr} {n c B : Nat} {xs : List (Nat × Array Value)} (h : Stps B W (.slice A n c) xs) (hg : W.grownBy W' (Value.slice A n c).ownBlock) (hb : Below B w W) (hB : B ≤ W.heap.size) : Below B w W' :=
  hb.grown hg hB (fun r e => (h.row r e).1)
theorem Stps.mono {B B' : Nat} {W : World} {v : Value} {xs : List (Nat × Array Value)} (h : Stps B W v xs) (hB : B' ≤ B) : Stps B' W v xs := by
  refine ⟨h.1, ?_⟩
  rcases h.2 with h2 | ⟨g, cap, cur, hv, hg, r⟩
  · exact .inl h2
  · exact .inr ⟨g, cap, cur, hv, Nat.le_trans hB hg, r⟩
theorem fnV_one (x : Nat × Array Value) : (fnV x).oneCell' = true := rfl
/-- Numbers in memory. -/
def IntsAt (w : World) (v : Value) (ns : List Nat) : Prop := ∃ A c, v = .slice A ns.length c ∧ (0 < ns.length → ∃ b o, A = some ⟨b, o, none⟩ ∧ ∀ j (h : j < ns.length), w.cell? ⟨b, o + j, none⟩ = some (.int .i64 (ns[j] : Int)))
theorem IntsAt.below {w w' : World} {v : Value} {ns : List Nat} (h : IntsAt w v ns) (hb : Below w.heap.size w w') : IntsAt w' v ns := by
  obtain ⟨A, c, e, ha⟩ := h
  refine ⟨A, c, e, fun hn => ?_⟩
  obtain ⟨b, o, e2, hx⟩ := ha hn
  exact ⟨b, o, e2, fun j hj => (hb.cell (World.block_lt_of_cell? w _ (hx j hj))).trans (hx j hj)⟩
/-- The closures of removal: the box of the log, and the boxes of the numbers. -/
def remFn (c0 c : Nat) : Nat × Array Value := (113, #[.pointer (some ⟨c0, 0, none⟩), .pointer (some ⟨c, 0, none⟩)])
def RemAt (B : Nat) (W : World) (g c0 : Nat) (cs ns : List Nat) : Prop :=
  B ≤ c0 ∧ Blk W c0 40 #[.pointer (some ⟨g, 0, none⟩)] ∧ cs.length = ns.length ∧ ∀ i (h1 : i < cs.length) (h2 : i < ns.length), B ≤ cs[i] ∧ Blk W cs[i] 3 #[.int .i64 (ns[i] : Int)]
theorem RemAt.kept {B : Nat} {W W' : World} {g c0 : Nat} {cs ns : List Nat} (h : RemAt B W g c0 cs ns) (hk : ∀ k t c, B ≤ k → (t = 40 ∨ t = 3) → Blk W k t c → Blk W' k t c) : RemAt B W' g c0 cs ns := by
  obtain ⟨h0, h1, h2, h3⟩ := h
  exact ⟨h0, hk _ _ _ h0 (.inl rfl) h1, h2, fun i i1 i2 => ⟨(h3 i i1 i2).1, hk _ _ _ (h3 i i1 i2).1 (.inr rfl) (h3 i i1 i2).2⟩⟩
theorem RemAt.mono {B B' : Nat} {W : World} {g c0 : Nat} {cs ns : List Nat} (h : RemAt B W g c0 cs ns) (hB : B' ≤ B) : RemAt B' W g c0 cs ns :=
  ⟨Nat.le_trans hB h.1, h.2.1, h.2.2.1, fun i i1 i2 => ⟨Nat.le_trans hB (h.2.2.2 i i1 i2).1, (h.2.2.2 i i1 i2).2⟩⟩
theorem RemAt.below {B : Nat} {W W' : World} {g c0 : Nat} {cs ns : List Nat} (h : RemAt B W g c0 cs ns) (hb : Below W.heap.size W W') : RemAt B W' g c0 cs ns := h.kept (fun k t c _ _ hk => hk.below hb hk.lt)
set_option maxHeartbeats 1000000 in
theorem removal_any (g : Nat) (v : Value) (ns : List Nat) (w : World) (hv : IntsAt w v ns) (hn : ns.length ≤ 1000000) :
    Calls Tryz.prog 66 #[.pointer (some ⟨g, 0, none⟩), v] w fun e w' => ∃ vr c0 cs, e = .returned vr ∧ Stps w.heap.size w' vr (cs.map (remFn c0)) ∧ RemAt w.heap.size w' g c0 cs ns ∧ Below w.heap.size w w' := by
  obtain ⟨i0, hi, hy0, hy1, hy2⟩ := info_parts info_step
  have hmf : ∀ (fn : Fn) (first cap : Array Value) (w : World), (Instr.makeFunc fn first cap).run Tryz.prog w = .ok (.func fn first cap) w := fun _ _ _ _ => rfl
  have HV := Lib.hid hv
  obtain ⟨A, c, rfl, _⟩ := hv
  go_enter Tryz.func66, Tryz.ntmps66
  go_wp2
  go_loopw [5, 10] (fun x i wr => ∃ (k : Nat) (cs : List Nat), k ≤ ns.length ∧ i = .int .i64 (k : Int) ∧ Stps w.heap.size wr x (cs.map (remFn w.heap.size)) ∧ RemAt w.heap.size wr g w.heap.size cs (ns.take k) ∧ Below w.heap.size w wr) (fun _ i _ => ns.length - (intOf i).toNat)
  case atStart => exact ⟨0, [], Nat.zero_le _, rfl, World.ownsRow_nil _ _ _ _, ⟨Nat.le_refl _, Blk.new w _ _, by simp, fun i h => absurd h (by simp)⟩, al_one w _⟩
  case round =>
    obtain ⟨k, cs, hk, rfl, hst, hrem, hb⟩ := hrel
    by_cases hlt : k < ns.length
    · obtain ⟨A', c', e, ha⟩ := HV.out
      injection e with e1 _ e3
      subst e1 e3
      obtain ⟨b, o, rfl, hx⟩ := ha (by omega)
      have q1 : wr.cell? ⟨b, o + k, none⟩ = some (.int .i64 (ns[k] : Int)) := (hb.cell (World.block_lt_of_cell? w _ (hx k hlt))).trans (hx k hlt)
      obtain ⟨Ax, cx, hxs⟩ := hst.shape
      subst hxs
      have hcl : cs.length = k := by rw [hrem.2.2.1, List.length_take]; omega
      have HST := Lib.hid hst
      have HREM := Lib.hid hrem
      have HB := Lib.hid hb
      have HCL := Lib.hid hcl
      have HNK := Lib.hid (show ns.take (k + 1) = ns.take k ++ [ns[k]] from List.take_succ_eq_append_getElem hlt)
      generalize ns[k] = nk at q1 HNK
      clear hx ha hst hrem hb hcl
      obtain ⟨w1, hw1⟩ : ∃ w1, w1 = wr.alloc (.cells #[.int .i64 (nk : Int)] 3) := ⟨_, rfl⟩
      have hb1 : Below wr.heap.size wr w1 := by rw [hw1]; exact al_one wr _
      have hz1 : w1.heap.size = wr.heap.size + 1 := by rw [hw1]; simp
      obtain ⟨w2, hw2⟩ : ∃ w2, w2 = w1.alloc (.cells #[fnV (remFn w.heap.size wr.heap.size)] 150) := ⟨_, rfl⟩
      have hb2 : Below w1.heap.size w1 w2 := by rw [hw2]; exact al_one w1 _
      have hbk : Blk w2 (wr.heap.size + 1) 150 #[fnV (remFn w.heap.size wr.heap.size)] := by rw [hw2, ← hz1]; exact Blk.new w1 _ _
      have h1c : Blk w1 wr.heap.size 3 #[.int .i64 (nk : Int)] := by rw [hw1]; exact Blk.new wr _ _
      have hst2 := (HST.out.below hb1 (Nat.le_refl _)).below hb2 (Nat.le_refl _)
      have hrem2 : RemAt w.heap.size w2 g w.heap.size (cs ++ [wr.heap.size]) (ns.take (k + 1)) := by
        obtain ⟨r0, r1, r2, r3⟩ := (HREM.out.below hb1).below hb2
        refine ⟨r0, r1, by rw [HNK.out, List.length_append, List.length_append, r2]; rfl, fun i i1 i2 => ?_⟩
        by_cases hi' : i < cs.length
        · have := r3 i hi' (by rw [← r2]; exact hi')
          simp only [HNK.out]
          rw [List.getElem_append_left hi', List.getElem_append_left (by rw [← r2]; exact hi')]
          exact this
        · have hi0 : i = cs.length := by simp at i1; omega
          subst hi0
          simp only [HNK.out]
          rw [List.getElem_append_right (Nat.le_refl _), List.getElem_append_right (by rw [← r2]; exact Nat.le_refl _)]
          simp only [Nat.sub_self, List.getElem_cons_zero]
          refine ⟨HB.out.size, ?_⟩
          have e0 : cs.length - (ns.take k).length = 0 := by rw [r2]; omega
          simp only [e0, List.getElem_cons_zero]
          exact h1c.below hb2 h1c.lt
      have hcel : ∀ (j : Nat) (u : Value), [fnV (remFn w.heap.size wr.heap.size)][j]? = some u → w2.cell? ((⟨wr.heap.size + 1, 0, none⟩ : Addr).add j) = some u := by
        intro j u hu
        have hj : j = 0 := by
          have := (List.getElem?_eq_some_iff.1 hu).1
          simpa using this
        subst hj
        rw [add_plain, hbk.cell]
        simpa using hu
      have hone : ∀ u ∈ [fnV (remFn w.heap.size wr.heap.size)], u.oneCell' = true := by
        intro u hu
        obtain rfl := List.mem_singleton.1 hu
        rfl
      have hmx : (cs.map (remFn w.heap.size)).length + 1 ≤ maxLen := by rw [List.length_map, HCL.out]; unfold maxLen; omega
      have hby : ((cs.map (remFn w.heap.size)).length + 1) * 8 ≤ 140737488355328 := by rw [List.length_map, HCL.out]; omega
      have hB2 : Below w.heap.size w w2 := HB.out.trans ((hb1.trans (hb2.mono hb1.size)).mono HB.out.size)
      have HW2 := Lib.hid (show w2 = (wr.alloc (.cells #[.int .i64 (nk : Int)] 3)).alloc (.cells #[.func (.func 113) #[] #[.pointer (some ⟨w.heap.size, 0, none⟩), .pointer (some ⟨wr.heap.size, 0, none⟩)]] 150) from by rw [hw2, hw1]; rfl)
      have HALL := Lib.hid (And.intro hst2 (And.intro hrem2 (And.intro hcel (And.intro hone (And.intro hmx (And.intro hby hB2))))))
      clear hw1 hb1 hz1 hw2 hb2 hbk h1c hst2 hrem2 hcel hone hmx hby hB2 HST HREM HB HNK w1
      go_wp2_with (at_builtin; rw [← HW2.out]; go_loud (refine wpList_append_own_at _ rfl _ _ 101 rfl w.heap.size 150 i0 .nilFunc 1 8 Tryz.underlying101 hi hy0 hy1 hy2 rfl (by decide) (.slice Ax (cs.map (remFn w.heap.size)).length cx) (cs.map (remFn w.heap.size)).length _ rfl HALL.out.1 ⟨wr.heap.size + 1, 0, none⟩ 1 1 [fnV (remFn w.heap.size wr.heap.size)] rfl rfl HALL.out.2.2.1 HALL.out.2.2.2.1 HALL.out.2.2.2.2.1 HALL.out.2.2.2.2.2.1 HALL.out.2.2.2.2.2.2.size ?_))
      intro v' w3 ho3 hg3 _ _
      obtain ⟨hst2, hrem2, _, _, _, _, hB2⟩ := HALL.out
      rw [List.length_map] at hst2
      have hrow : ∀ r, (Value.slice Ax cs.length cx).ownBlock = some r → w.heap.size ≤ r ∧ ∃ C, Blk w2 r 150 C := fun r e => by
        rcases hst2.2 with ⟨e2, _⟩ | ⟨gg, cap, cur, e2, hg, hh, _⟩
        · rw [e2] at e; cases e
        · rw [e2] at e
          injection e with e
          subst e
          exact ⟨hg, cur, hh⟩
      have hrem3 : RemAt w.heap.size w3 g w.heap.size (cs ++ [wr.heap.size]) (ns.take (k + 1)) := hrem2.kept (fun j t c _ ht hk => hk.grown hg3 (fun e => by
        obtain ⟨_, C, hC⟩ := hrow j e.symm
        have e := hk.symm.trans hC
        injection e with e
        injection e with _ e
        rcases ht with rfl | rfl
        · revert e; decide
        · revert e; decide))
      have hB3 : Below w.heap.size w w3 := hB2.grown hg3 hB2.size (fun r e => (hrow r e).1)
      have hst3 : Stps w.heap.size w3 v' ((cs ++ [wr.heap.size]).map (remFn w.heap.size)) := by
        unfold Stps
        simpa using ho3
      have HE := Lib.hid (And.intro hst3 (And.intro hrem3 hB3))
      obtain ⟨Av, cv, hvv⟩ := hst3.shape
      subst hvv
      clear hst2 hrem2 hB2 hrow hrem3 hB3 hst3 ho3 hg3 HALL HW2
      rw [List.length_map, List.length_append, List.length_singleton] at HE
      go_wp2
      go_roundw
      case rel =>
        refine ⟨k + 1, cs ++ [wr.heap.size], by omega, by go_num, ?_⟩
        rw [List.length_map, List.length_append, List.length_singleton]
        exact HE.out
      case measure => simp [intOf]; omega
    · obtain rfl : k = ns.length := by omega
      rw [List.take_length] at hrem
      go_wp2
      go_ret
      exact ⟨_, _, cs, rfl, hst, hrem, hb⟩
/-- Three closures in a new block. -/
theorem cells_new {w : World} {xs : List (Nat × Array Value)} : ∀ (j : Nat) (u : Value), (xs.map fnV)[j]? = some u → (w.alloc (.cells (xs.map fnV).toArray 150)).cell? ((⟨w.heap.size, 0, none⟩ : Addr).add j) = some u := by
  intro j u hu
  rw [add_plain, (Blk.new w _ _).cell, Nat.zero_add]
  simpa using hu
theorem cells_one {xs : List (Nat × Array Value)} : ∀ u ∈ xs.map fnV, u.oneCell' = true := by
  intro u hu
  obtain ⟨x, _, rfl⟩ := List.mem_map.1 hu
  rfl
def begFns (cl cn cr cf : Nat) : List (Nat × Array Value) :=
  [(110, #[.pointer (some ⟨cl, 0, none⟩), .pointer (some ⟨cf, 0, none⟩), .pointer (some ⟨cr, 0, none⟩)]), (111, #[.pointer (some ⟨cl, 0, none⟩), .pointer (some ⟨cf, 0, none⟩)]), (112, #[.pointer (some ⟨cn, 0, none⟩), .pointer (some ⟨cr, 0, none⟩), .pointer (some ⟨cl, 0, none⟩)])]
/-- What the closures of beginning have in their boxes. -/
structure BegAt (B : Nat) (W : World) (g n : Nat) (s : ByteArray) (vrec : Value) (cl cn cr cf : Nat) : Prop where
  bl : B ≤ cl ∧ Blk W cl 40 #[.pointer (some ⟨g, 0, none⟩)]
  bn : B ≤ cn ∧ Blk W cn 3 #[.int .i64 (n : Int)]
  br : B ≤ cr ∧ Blk W cr 22 #[vrec]
  bf : B ≤ cf ∧ Blk W cf 9 #[.string (segS s n)]
theorem BegAt.kept {B : Nat} {W W' : World} {g n : Nat} {s : ByteArray} {vrec : Value} {cl cn cr cf : Nat} (h : BegAt B W g n s vrec cl cn cr cf) (hk : ∀ k t c, B ≤ k → t ≠ 150 → Blk W k t c → Blk W' k t c) : BegAt B W' g n s vrec cl cn cr cf :=
  ⟨⟨h.bl.1, hk _ _ _ h.bl.1 (by decide) h.bl.2⟩, ⟨h.bn.1, hk _ _ _ h.bn.1 (by decide) h.bn.2⟩, ⟨h.br.1, hk _ _ _ h.br.1 (by decide) h.br.2⟩, ⟨h.bf.1, hk _ _ _ h.bf.1 (by decide) h.bf.2⟩⟩
set_option maxHeartbeats 2000000 in
theorem beginning_any (g n : Nat) (s : ByteArray) (A : Option Addr) (rn rc : Nat) (w : World) (hn : n ≤ 2147483647) (hsz : s.size ≤ 1000000) (hc : w.cell? ⟨g, 1, none⟩ = some (.string s)) (hld : Ld w) :
    Calls Tryz.prog 65 #[.pointer (some ⟨g, 0, none⟩), .int .i64 (n : Int), .slice A rn rc] w fun e w' => ∃ vr c0 cs cl cn cr cf, e = .returned vr ∧ Stps w.heap.size w' vr (cs.map (remFn c0) ++ begFns cl cn cr cf) ∧ RemAt w.heap.size w' g c0 cs [n] ∧ BegAt w.heap.size w' g n s (.slice A rn rc) cl cn cr cf ∧ Below w.heap.size w w' := by
  obtain ⟨i0, hi, hy0, hy1, hy2⟩ := info_parts info_step
  have hmf : ∀ (fn : Fn) (first cap : Array Value) (w : World), (Instr.makeFunc fn first cap).run Tryz.prog w = .ok (.func fn first cap) w := fun _ _ _ _ => rfl
  obtain ⟨w1, hw1⟩ : ∃ w1, w1 = ((w.alloc (.cells #[.pointer (some ⟨g, 0, none⟩)] 40)).alloc (.cells #[.int .i64 (n : Int)] 3)).alloc (.cells #[.slice A rn rc] 22) := ⟨_, rfl⟩
  have hb1 : Below w.heap.size w w1 := by rw [hw1]; exact (((Below.refl _ w).alloc (Nat.le_refl _) _).alloc (by simp) _).alloc (by simp; omega) _
  have hz1 : w1.heap.size = w.heap.size + 3 := by rw [hw1]; simp
  have k0 : Blk w1 w.heap.size 40 #[.pointer (some ⟨g, 0, none⟩)] := by rw [hw1]; exact ((Blk.new w _ _).alloc _).alloc _
  have k1 : Blk w1 (w.heap.size + 1) 3 #[.int .i64 (n : Int)] := by
    have := Blk.new (w.alloc (.cells #[.pointer (some ⟨g, 0, none⟩)] 40)) 3 #[.int .i64 (n : Int)]
    rw [World.size_alloc] at this
    rw [hw1]; exact this.alloc _
  have k2 : Blk w1 (w.heap.size + 2) 22 #[.slice A rn rc] := by
    have := Blk.new ((w.alloc (.cells #[.pointer (some ⟨g, 0, none⟩)] 40)).alloc (.cells #[.int .i64 (n : Int)] 3)) 22 #[.slice A rn rc]
    rw [World.size_alloc, World.size_alloc] at this
    rw [hw1]; exact this
  have hF := file_any g s n (by omega) hsz w1 ((hb1.cell (World.block_lt_of_cell? w _ hc)).trans hc) (hld.below hb1)
  have p0 : w1.cell? ⟨w.heap.size, 0, none⟩ = some (.pointer (some ⟨g, 0, none⟩)) := by rw [k0.cell]; rfl
  have p1 : w1.cell? ⟨w.heap.size + 1, 0, none⟩ = some (.int .i64 (n : Int)) := by rw [k1.cell]; rfl
  have HF := Lib.hid hF
  have HW1 := Lib.hid hw1
  have HK := Lib.hid (And.intro hb1 (And.intro k0 (And.intro k1 k2)))
  have HZ1 := Lib.hid hz1
  clear hF hw1 hb1 k0 k1 k2 hc hld hz1
  go_enter Tryz.func65, Tryz.ntmps65
  go_wp2_with fail
  rw [← HW1.out]
  refine HF.out.mono ?_
  rintro e w2 ⟨rfl, hb2⟩
  have HB2 := Lib.hid hb2
  obtain ⟨w3, hw3⟩ : ∃ w3, w3 = w2.alloc (.cells #[.string (segS s n)] 9) := ⟨_, rfl⟩
  have hb3 : Below w2.heap.size w2 w3 := by rw [hw3]; exact al_one w2 _
  have k4 : Blk w3 w2.heap.size 9 #[.string (segS s n)] := by rw [hw3]; exact Blk.new w2 _ _
  have hz3 : w3.heap.size = w2.heap.size + 1 := by rw [hw3]; simp
  obtain ⟨w4, hw4⟩ : ∃ w4, w4 = w3.alloc (.cells #[.int .i64 (n : Int)] 3) := ⟨_, rfl⟩
  have hb4 : Below w3.heap.size w3 w4 := by rw [hw4]; exact al_one w3 _
  have hb24 : Below w1.heap.size w1 w4 := hb2.trans ((hb3.trans (hb4.mono hb3.size)).mono hb2.size)
  have p0' : (w2.alloc (.cells #[.string (segS s n)] 9)).cell? ⟨w.heap.size, 0, none⟩ = some (.pointer (some ⟨g, 0, none⟩)) := by rw [← hw3]; exact ((hb2.trans (hb3.mono hb2.size)).cell (World.block_lt_of_cell? w1 _ p0)).trans p0
  have p1' : (w2.alloc (.cells #[.string (segS s n)] 9)).cell? ⟨w.heap.size + 1, 0, none⟩ = some (.int .i64 (n : Int)) := by rw [← hw3]; exact ((hb2.trans (hb3.mono hb2.size)).cell (World.block_lt_of_cell? w1 _ p1)).trans p1
  have hints : IntsAt w4 (.slice (some ⟨w2.heap.size + 1, 0, none⟩) 1 1) [n] := ⟨_, 1, rfl, fun _ => ⟨_, 0, rfl, fun j hj => by
    have hj0 : j = 0 := by simpa using hj
    subst hj0
    rw [hw4, ← hz3, (Blk.new w3 _ _).cell]; rfl⟩⟩
  have HREM := Lib.hid (removal_any g _ [n] w4 hints (by simp))
  have HX := Lib.hid (And.intro hb3 (And.intro k4 (And.intro hb24 (And.intro p0' p1'))))
  have HW3 := Lib.hid hw3
  have HW4 := Lib.hid hw4
  clear hb2 hw3 hb3 k4 hw4 hb4 hb24 hints hz3 p0 p1
  go_wp2_with fail
  rw [← HW3.out, ← HW4.out]
  refine HREM.out.mono ?_
  rintro e w5 ⟨vr, c0, cs, rfl, hst5, hrem5, hb5⟩
  obtain ⟨Ax, cx, hvx⟩ := hst5.shape
  subst hvx
  have hcl : cs.length = 1 := hrem5.2.2.1
  rw [List.length_map, hcl] at hst5 ⊢
  obtain ⟨kb1, k0, k1, k2⟩ := HK.out
  obtain ⟨hb3, k4, hb24, _, _⟩ := HX.out
  have hw14 : w1.heap.size ≤ w4.heap.size := hb24.size
  have hw1s := HZ1.out
  have hb45 : Below w.heap.size w w5 := kb1.trans ((hb24.trans (hb5.mono hb24.size)).mono kb1.size)
  have hz2 : w2.heap.size < w4.heap.size := by
    have := k4.lt
    have h2 : w3.heap.size ≤ w4.heap.size := by rw [HW4.out]; simp
    omega
  have hbeg : BegAt w.heap.size w5 g n s (.slice A rn rc) w.heap.size (w.heap.size + 1) (w.heap.size + 1 + 1) w2.heap.size := by
    have hK : ∀ k t c, Blk w1 k t c → Blk w5 k t c := fun k t c hk => (hk.below hb24 hk.lt).below hb5 (Nat.lt_of_lt_of_le hk.lt hw14)
    have k4' : Blk w4 w2.heap.size 9 #[.string (segS s n)] := by rw [HW4.out]; exact k4.alloc _
    exact ⟨⟨Nat.le_refl _, hK _ _ _ k0⟩, ⟨Nat.le_succ _, hK _ _ _ k1⟩, ⟨by omega, hK _ _ _ k2⟩, ⟨by have := HB2.out.size; omega, k4'.below hb5 k4'.lt⟩⟩
  obtain ⟨w6, hw6⟩ : ∃ w6, w6 = w5.alloc (.cells ((begFns w.heap.size (w.heap.size + 1) (w.heap.size + 1 + 1) w2.heap.size).map fnV).toArray 150) := ⟨_, rfl⟩
  have hb6 : Below w5.heap.size w5 w6 := by rw [hw6]; exact al_one w5 _
  have hst6 : Stps w.heap.size w6 (.slice Ax (cs.map (remFn c0)).length cx) (cs.map (remFn c0)) := by
    rw [List.length_map, hcl]
    exact (hst5.mono (by omega)).below hb6 (Nat.le_refl _)
  have hcell6 : ∀ (j : Nat) (u : Value), ((begFns w.heap.size (w.heap.size + 1) (w.heap.size + 1 + 1) w2.heap.size).map fnV)[j]? = some u → w6.cell? ((⟨w5.heap.size, 0, none⟩ : Addr).add j) = some u := by rw [hw6]; exact cells_new
  have HW6 := Lib.hid (show w6 = w5.alloc (.cells #[.func (.func 110) #[] #[.pointer (some ⟨w.heap.size, 0, none⟩), .pointer (some ⟨w2.heap.size, 0, none⟩), .pointer (some ⟨w.heap.size + 1 + 1, 0, none⟩)], .func (.func 111) #[] #[.pointer (some ⟨w.heap.size, 0, none⟩), .pointer (some ⟨w2.heap.size, 0, none⟩)], .func (.func 112) #[] #[.pointer (some ⟨w.heap.size + 1, 0, none⟩), .pointer (some ⟨w.heap.size + 1 + 1, 0, none⟩), .pointer (some ⟨w.heap.size, 0, none⟩)]] 150) from by rw [hw6]; rfl)
  have HALL := Lib.hid (And.intro hst6 (And.intro hcell6 (And.intro (hbeg.kept (W' := w6) (fun k t c _ _ hk => hk.below hb6 hk.lt)) (And.intro ((hrem5.mono (B' := w.heap.size) (by omega)).below hb6) (hb45.trans (hb6.mono hb45.size))))))
  have hmx : (cs.map (remFn c0)).length + 3 ≤ maxLen := by rw [List.length_map, hcl]; unfold maxLen; omega
  have hby : ((cs.map (remFn c0)).length + 3) * 8 ≤ 140737488355328 := by rw [List.length_map, hcl]; omega
  have HM := Lib.hid (And.intro hmx hby)
  have hlm : (cs.map (remFn c0)).length = 1 := by rw [List.length_map, hcl]
  have HLM := Lib.hid hlm
  clear hw6 hb6 hst6 hcell6 hbeg hst5 hrem5 hb5 hb45 kb1 k0 k1 k2 hb3 k4 hb24 hw14 hw1s hz2 hmx hby hcl p0' p1' hlm
  go_wp2_with (at_builtin; rw [← HW6.out]; go_loud (refine wpList_append_own_at _ rfl _ _ 101 rfl w.heap.size 150 i0 .nilFunc 1 8 Tryz.underlying101 hi hy0 hy1 hy2 rfl (by decide) (.slice Ax 1 cx) (cs.map (remFn c0)).length _ rfl (by have := HALL.out.1; rw [HLM.out] at this; exact this) ⟨w5.heap.size, 0, none⟩ 3 3 _ rfl rfl HALL.out.2.1 cells_one HM.out.1 HM.out.2 HALL.out.2.2.2.2.size ?_))
  intro v' w7 ho7 hg7 _ _
  obtain ⟨hst6, _, hbeg, hrem, hb6⟩ := HALL.out
  rw [HLM.out] at hst6
  have hst7 : Stps w.heap.size w7 v' (cs.map (remFn c0) ++ begFns w.heap.size (w.heap.size + 1) (w.heap.size + 1 + 1) w2.heap.size) := by
    unfold Stps
    simpa [begFns] using ho7
  have HE := Lib.hid (And.intro hst7 (And.intro (hrem.kept (W' := w7) (fun k t c _ ht hk => grown_blk hst6 hg7 hk (by rcases ht with rfl | rfl <;> decide))) (And.intro (hbeg.kept (W' := w7) (fun k t c _ ht hk => grown_blk hst6 hg7 hk ht)) (grown_below hst6 hg7 hb6 hb6.size))))
  clear hst6 hbeg hrem hb6 hst7 ho7 hg7 HALL HW6 HLM HM
  go_wp2
  go_ret
  exact ⟨_, _, cs, _, _, _, _, rfl, HE.out⟩
end Go.Proofs.YtibifnknkphanaaGreatDoor

/-
  The log's looks that answer a number or a truth; refuses.
-/
namespace Go.Proofs.YtibifnknkphanaaGreatDoor
open Go.RowKit Go.Maps
open DskM WalM
set_option linter.unusedVariables false
set_option linter.unusedSimpArgs false
set_option maxRecDepth 20000
attribute [local go_sem] Oper.semAt_some

section
variable {w : World} {g p : Nat} {s : ByteArray} {most : Int} {num synced : Nat} {size : Int} {dead : Bool} {vs vr : Value}
theorem wnone_any (h : Blk w g 60 (lgCells p s most num vs vr size synced dead)) : Calls Tryz.prog 69 #[.pointer (some ⟨g, 0, none⟩)] w fun e w' => e = .returned (.bool false) ∧ w' = w := by
  have c0 : w.cell? ⟨g, 0, none⟩ = some (.pointer (some ⟨p, 0, none⟩)) := by rw [h.cell]; rfl
  go_enter Tryz.func69, Tryz.ntmps69
  go_wp2
  go_ret
  exact ⟨rfl, rfl⟩
theorem wnone_nil (w : World) : Calls Tryz.prog 69 #[.pointer none] w fun e w' => e = .returned (.bool true) ∧ w' = w := by
  go_enter Tryz.func69, Tryz.ntmps69
  go_wp2
  go_ret
  exact ⟨rfl, rfl⟩
theorem wnone_zero {cs : Array Value} (h : Blk w g 60 cs) (h0 : cs[0]? = some (.pointer none)) : Calls Tryz.prog 69 #[.pointer (some ⟨g, 0, none⟩)] w fun e w' => e = .returned (.bool true) ∧ w' = w := by
  have c0 : w.cell? ⟨g, 0, none⟩ = some (.pointer none) := by rw [h.cell]; exact h0
  go_enter Tryz.func69, Tryz.ntmps69
  go_wp2
  go_ret
  exact ⟨rfl, rfl⟩
/-- Which error a write meets ahead of the disk. -/
def refP (long : Int) (dead : Bool) : Int := if long = 0 then (if dead = true then 7 else 0) else long
theorem refuses_any (h : Blk w g 60 (lgCells p s most num vs vr size synced dead)) (long : Int) : Calls Tryz.prog 58 #[.pointer (some ⟨g, 0, none⟩), .int .i64 long] w fun e w' => e = .returned (.int .i64 (refP long dead)) ∧ w' = w := by
  have c8 : w.cell? ⟨g, 8, none⟩ = some (.bool dead) := by rw [h.cell]; rfl
  have HN := Lib.hid (wnone_any h)
  clear h
  unfold refP
  by_cases hl : long = 0
  · subst hl
    rw [if_pos rfl]
    cases dead with
    | true =>
      rw [if_pos rfl]
      go_enter Tryz.func58, Tryz.ntmps58
      go_wp2_with fail
      refine HN.out.mono ?_
      rintro e wx ⟨rfl, hwx⟩
      rw [hwx]
      clear hwx wx HN
      go_wp2
      go_ret
      exact ⟨rfl, rfl⟩
    | false =>
      rw [if_neg (by simp)]
      go_enter Tryz.func58, Tryz.ntmps58
      go_wp2_with fail
      refine HN.out.mono ?_
      rintro e wx ⟨rfl, hwx⟩
      rw [hwx]
      clear hwx wx HN
      go_wp2
      go_ret
      exact ⟨rfl, rfl⟩
  · rw [if_neg hl]
    have hb : (long != 0) = true := by rw [bne_iff_ne]; exact hl
    go_enter Tryz.func58, Tryz.ntmps58
    go_wp2_with fail
    refine HN.out.mono ?_
    rintro e wx ⟨rfl, hwx⟩
    rw [hwx]
    clear hwx wx HN
    go_wp2
    go_ret
    exact ⟨rfl, rfl⟩
theorem wseg_any (h : Blk w g 60 (lgCells p s most num vs vr size synced dead)) : Calls Tryz.prog 40 #[.pointer (some ⟨g, 0, none⟩)] w fun e w' => e = .returned (.int .i64 (num : Int)) ∧ w' = w := by
  have c3 : w.cell? ⟨g, 3, none⟩ = some (.int .i64 (num : Int)) := by rw [h.cell]; rfl
  have HN := Lib.hid (wnone_any h)
  clear h
  go_enter Tryz.func40, Tryz.ntmps40
  go_wp2_with fail
  refine HN.out.mono ?_
  rintro e wx ⟨rfl, hwx⟩
  rw [hwx]
  clear hwx wx HN
  go_wp2
  go_ret
  exact ⟨rfl, rfl⟩
theorem wsize_any (h : Blk w g 60 (lgCells p s most num vs vr size synced dead)) : Calls Tryz.prog 27 #[.pointer (some ⟨g, 0, none⟩)] w fun e w' => e = .returned (.int .i64 size) ∧ w' = w := by
  have c3 : w.cell? ⟨g, 6, none⟩ = some (.int .i64 size) := by rw [h.cell]; rfl
  have HN := Lib.hid (wnone_any h)
  clear h
  go_enter Tryz.func27, Tryz.ntmps27
  go_wp2_with fail
  refine HN.out.mono ?_
  rintro e wx ⟨rfl, hwx⟩
  rw [hwx]
  clear hwx wx HN
  go_wp2
  go_ret
  exact ⟨rfl, rfl⟩
theorem wsynced_any (h : Blk w g 60 (lgCells p s most num vs vr size synced dead)) : Calls Tryz.prog 41 #[.pointer (some ⟨g, 0, none⟩)] w fun e w' => e = .returned (.int .i64 (synced : Int)) ∧ w' = w := by
  have c3 : w.cell? ⟨g, 7, none⟩ = some (.int .i64 (synced : Int)) := by rw [h.cell]; rfl
  have HN := Lib.hid (wnone_any h)
  clear h
  go_enter Tryz.func41, Tryz.ntmps41
  go_wp2_with fail
  refine HN.out.mono ?_
  rintro e wx ⟨rfl, hwx⟩
  rw [hwx]
  clear hwx wx HN
  go_wp2
  go_ret
  exact ⟨rfl, rfl⟩
theorem wlen_any {A : Option Addr} {n c : Nat} (h : Blk w g 60 (lgCells p s most num vs (.slice A n c) size synced dead)) : Calls Tryz.prog 39 #[.pointer (some ⟨g, 0, none⟩)] w fun e w' => e = .returned (.int .i64 (n : Int)) ∧ w' = w := by
  have c3 : w.cell? ⟨g, 5, none⟩ = some (.slice A n c) := by rw [h.cell]; rfl
  have HN := Lib.hid (wnone_any h)
  clear h
  go_enter Tryz.func39, Tryz.ntmps39
  go_wp2_with fail
  refine HN.out.mono ?_
  rintro e wx ⟨rfl, hwx⟩
  rw [hwx]
  clear hwx wx HN
  go_wp2
  go_ret
  exact ⟨rfl, rfl⟩
theorem wbig_any (h : Blk w g 60 (lgCells p s most num vs vr size synced dead)) : Calls Tryz.prog 28 #[.pointer (some ⟨g, 0, none⟩)] w fun e w' => e = .returned (.bool (decide (most < size))) ∧ Below w.heap.size w w' := by
  have hfo : Tryz.prog.follows .mixedOrders = true := by kernel_rfl
  have c2 : w.cell? ⟨g, 2, none⟩ = some (.int .i64 most) := by rw [h.cell]; rfl
  have c6 : w.cell? ⟨g, 6, none⟩ = some (.int .i64 size) := by rw [h.cell]; rfl
  have HN := Lib.hid (fun n => wnone_any (h.drewN n))
  clear h
  go_enter Tryz.func28, Tryz.ntmps28
  go_wp2_with fail
  have hN := HN.out
  go_quiet ((go_at_call 69; exact Calls.quiet_of_same (hN _)))
  clear hN HN
  go_wp2
  go_ret
  exact ⟨rfl, below_drewN (Below.refl _ _) _⟩
end
end Go.Proofs.YtibifnknkphanaaGreatDoor

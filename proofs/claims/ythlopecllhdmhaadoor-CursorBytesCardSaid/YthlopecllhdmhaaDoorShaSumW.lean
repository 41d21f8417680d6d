/-
  The walk of sha.Sum.
-/
import Derived.Test.YthlopecllhdmhaaDoorShaSum
import Derived.StillTailTactics
namespace Go.Proofs.YthlopecllhdmhaaDoor
open Go.RowKit
set_option linter.unusedVariables false
set_option linter.unusedSimpArgs false

/-- A load of a whole row, as a step that only reads. -/
theorem wpStill_load {P : Program} {ops : Array Oper} {w : World} {Q : Act → Prop} {op : Oper} {rest : List Oper} {a : Act} (hgd : op.guard = none) (ty : TypeId) (x : Operand) (ho : op.op = .load ty x)
    (p v : Value) (hx : a.eval x = p) (hr : (Instr.loadAt ty p).run P w = .ok v w) (h : wpStill P ops w Q rest (a.put op.dst v)) : wpStill P ops w Q (op :: rest) a := by
  have hw : Region.wanted op (yielded ops a.tmps) = true := by simp [Region.wanted, hgd]
  refine wpStill_step fun K hK => ?_
  rw [if_pos hw]
  unfold Oper.still execOp
  simp only [ho, hx, Sem.run_bind, hr, Result.andThen_ok, Sem.run_pure, Oper.stillUpon_value]
  exact hK _ h

/-- The value v is a slice that reads as the bytes l, not in block g. -/
def Sg (w : World) (g : Nat) (v : Value) (l : List UInt8) : Prop :=
  ∃ A c, v = .slice A l.length c ∧ l.length ≤ c ∧ (0 < l.length → ∃ b o, A = some ⟨b, o, none⟩ ∧ b ≠ g ∧ ∀ j (h : j < l.length), w.cell? ⟨b, o + j, none⟩ = some (.int .u8 (l[j].toNat : Int)))
theorem Sg.sl {w : World} {g : Nat} {v : Value} {l : List UInt8} (h : Sg w g v l) : Sl w v l := by
  obtain ⟨A, c, e, hc, ha⟩ := h
  refine ⟨A, c, e, hc, fun h0 => ?_⟩
  obtain ⟨b, o, e, _, hx⟩ := ha h0
  exact ⟨b, o, e, hx⟩
theorem Sg.keep {w w' : World} {g : Nat} {v : Value} {l : List UInt8} (h : Sg w g v l) (hk : ∀ p : Addr, p.block ≠ g → ∀ u, w.cell? p = some u → w'.cell? p = some u) : Sg w' g v l := by
  obtain ⟨A, c, e, hc, ha⟩ := h
  refine ⟨A, c, e, hc, fun h0 => ?_⟩
  obtain ⟨b, o, e, hne, hx⟩ := ha h0
  exact ⟨b, o, e, hne, fun j hj => hk _ hne _ (hx j hj)⟩
theorem Sg.below {w w' : World} {g : Nat} {v : Value} {l : List UInt8} (h : Sg w g v l) (hb : Below w.heap.size w w') : Sg w' g v l :=
  h.keep fun p _ u hu => (hb.cell (World.block_lt_of_cell? w p hu)).trans hu
theorem Sg.grown {w w' : World} {g : Nat} {v : Value} {l : List UInt8} (h : Sg w g v l) (hb : w.grownBy w' (some g)) : Sg w' g v l :=
  h.keep fun p hp u hu => by
    have hlt := World.block_lt_of_cell? w p hu
    have e := hb.block p.block hlt (fun e => hp (by injection e))
    rw [← hu]
    simp only [World.cell?, e]
theorem Own.sg {w : World} {b g : Nat} {e : TypeId} {v : Value} {l : List UInt8} (h : Own w b e v l) (hg : w.heap.size ≤ g ∨ g < b) : Sg w g v l := by
  have hs := h.sl
  rcases h.2 with ⟨rfl, h0⟩ | ⟨gv, cap, cur, rfl, hge, hh, hnc, _, hsz, ht⟩
  · exact ⟨none, 0, by rw [h0], by omega, fun hn => absurd hn (by omega)⟩
  · have hlt : gv < w.heap.size := by
      rcases Nat.lt_or_ge gv w.heap.size with hlt | hge
      · exact hlt
      · rw [Array.getElem?_eq_none hge] at hh; cases hh
    obtain ⟨A, c, e, hc, ha⟩ := hs
    injection e with e1 e2 e3
    subst e1 e3
    refine ⟨_, _, rfl, hc, fun h0 => ?_⟩
    obtain ⟨b', o, e, hx⟩ := ha h0
    injection e with e
    injection e with e1 e2 e3
    subst e1 e2
    exact ⟨gv, 0, rfl, by omega, hx⟩
theorem Sg.drop {w : World} {g : Nat} {A A' : Option Addr} {n c : Nat} {l : List UInt8} (h : Sg w g (.slice A n c) l) (m : Nat) (hm : m ≤ n) (hA : ∀ b o, A = some ⟨b, o, none⟩ → c ≠ m → A' = some ⟨b, o + m, none⟩) (n' c' : Nat) (hn' : n' = n - m) (hc' : c' = c - m) : Sg w g (.slice A' n' c') (l.drop m) := by
  have hn := h.sl.len
  subst hn
  obtain ⟨A2, c2, e, hc, ha⟩ := h
  injection e with e1 e2 e3
  subst e1 e3 hn' hc'
  clear e2
  have hd : (l.drop m).length = l.length - m := List.length_drop
  refine ⟨A', c - m, by rw [hd], by omega, fun h0 => ?_⟩
  have h1 : 0 < l.length := by clear ha; omega
  have hcm : c ≠ m := by clear ha; omega
  obtain ⟨b, o, rfl, hne, hx⟩ := ha h1
  clear ha
  obtain rfl : A' = some ⟨b, o + m, none⟩ := hA b o rfl hcm
  refine ⟨b, o + m, rfl, hne, fun j hj => ?_⟩
  have hj' : m + j < l.length := by clear hx; omega
  rw [Nat.add_assoc, hx (m + j) hj', List.getElem_drop]

/-- What is written in a block that was not there keeps all that was. -/
theorem keeps_fresh {W0 w w' : World} {g : Nat} (hk : Keeps W0 w) (hgr : w.grownBy w' (some g)) (hg : W0.heap.size ≤ g) : Keeps W0 w' := by
  intro p u hu
  have hlt0 := World.block_lt_of_cell? W0 p hu
  have h1 := hk p u hu
  have hlt := World.block_lt_of_cell? w p h1
  have e := hgr.block p.block hlt (fun e => by injection e with e; omega)
  rw [← h1]
  simp only [World.cell?, e]
theorem Gl.s {w : World} (h : Gl w) (i : Nat) (v : Value) (hv : shaS.row[i]? = some v) : w.cell? ⟨0, i, none⟩ = some v := by
  obtain ⟨⟨t, f, h1⟩, _⟩ := h
  rw [cell_of_row w 0 i _ t f h1, hv]

set_option maxHeartbeats 800000 in
theorem sum_any (v : Value) (ls : List (List UInt8)) (w : World) (hs : Sls w v ls) (hl : ls.flatten.length ≤ 1000000) (hn : ls.length ≤ 9223372036854775807) (hg : Gl w) :
    Calls Tryd.prog 43 #[v] w fun e w' => e = .returned (.agg (rowB (shaN ls.flatten))) ∧ Below w.heap.size w w' := by
  have hs' := hs
  obtain ⟨A, c, rfl, hc, ha⟩ := hs
  clear ha
  have hB := (Blk.new w 45 (rowB (List.replicate 32 0))).drew
  have hbw : Below w.heap.size w (w.alloc (.cells (rowB (List.replicate 32 0)) 45)).drew := ((Below.refl _ _).alloc (Nat.le_refl _) _).drew
  have hZ : (rowB (List.replicate 32 0)).size = 32 := by rw [rowB_size, List.length_replicate]
  go_enter Tryd.func43, Tryd.ntmps43
  go_wp2
  change Code.wp _ _ _ _ (w.alloc (.cells (rowB (List.replicate 32 0)) 45))
  generalize rowB (List.replicate 32 0) = Z at hB hbw hZ ⊢
  generalize hEM : ls.flatten = m at hl
  have EM := Lib.hid hEM
  clear hEM
  go_cut [3, 4] (fun p x wc => ∃ g, p = .pointer (some ⟨g, 0, none⟩) ∧ Sg wc g x (padN m) ∧ Blk wc g 73 shaS.row ∧ w.heap.size < g ∧ Blk wc w.heap.size 45 Z ∧ Below w.heap.size w wc)
  case first =>
    refine held_begin (by kernel_rfl) ?_
    have hsz : (w.alloc (.cells Z 45)).drew.heap.size = w.heap.size + 1 := by simp
    have hg0 := hg.below hbw
    have hs0 := hs'.below hbw
    generalize (w.alloc (.cells Z 45)).drew = W0 at hB hbw hg0 hs0 hsz ⊢
    have c0 := hg0.s 0 _ rfl
    have c1 := hg0.s 1 _ rfl
    have c2 := hg0.s 2 _ rfl
    have c3 := hg0.s 3 _ rfl
    have c4 := hg0.s 4 _ rfl
    have c5 := hg0.s 5 _ rfl
    have c6 := hg0.s 6 _ rfl
    have c7 := hg0.s 7 _ rfl
    refine' wpAnyH_take (i := 0) (oi := ⟨some 5, _, _, _, _, _⟩) (v := .agg shaS.row) rfl (by kernel_rfl) (by kernel_rfl) (by kernel_rfl) (fun _ _ _ h => h) (Or.inl ⟨by rfl, ?y0⟩) (Keeps.refl _) ?r0
    case y0 =>
      intro w' hSw
      have d0 := hSw _ _ c0
      have d1 := hSw _ _ c1
      have d2 := hSw _ _ c2
      have d3 := hSw _ _ c3
      have d4 := hSw _ _ c4
      have d5 := hSw _ _ c5
      have d6 := hSw _ _ c6
      have d7 := hSw _ _ c7
      go_simp
      rfl
    try simp only [Act.put, List.setIfInBounds_toArray, List.set_cons_zero, List.set_cons_succ]
    clear c0 c1 c2 c3 c4 c5 c6 c7
    refine' wpAnyH_take (i := 1) (oi := ⟨some 6, _, _, _, _, _⟩) (v := _) rfl (by kernel_rfl) (by kernel_rfl) (by kernel_rfl) (fun _ _ _ h => h) (Or.inl ⟨by rfl, ?y1⟩) (Keeps.refl _) ?r1
    case y1 => (intro w' hSw; go_simp; try rfl)
    try simp only [Act.put, List.setIfInBounds_toArray, List.set_cons_zero, List.set_cons_succ]
    have hi := shaS.row_info
    have h1 := shaS.row_one
    have hz := shaS.row_size
    generalize hR : shaS.row = R at hi h1 hz ⊢
    have ER := Lib.hid hR
    clear hR
    have hZ8 : (rowU (List.replicate 8 0)).size = 8 := rfl
    refine wpAnyH_ready (by kernel_rfl) (by simp) (rs := [2, 3]) (AllReadyH.cons (i := 2) rfl (fun K hK => ?_) (AllReadyH.cons (i := 3) rfl (fun K hK => ?_) AllReadyH.nil))
    · go_simp
      refine (padded_any _ ls W0 hs0 (by rw [EM.out]; exact hl) hn).mono ?_
      rintro e w1 ⟨v1, rfl, ho, hb1⟩
      rw [EM.out] at ho
      have kk1 := Keeps.of_below hb1
      refine hK.out _ _ kk1 (fun _ => ?_)
      clear hK K
      refine held_one (i := 3) (by kernel_rfl) rfl (fun K hK => ?_)
      go_simp
      change K _ (w1.alloc (.cells (rowU (List.replicate 8 0)) 73))
      have kk2 : Keeps W0 (w1.alloc (.cells (rowU (List.replicate 8 0)) 73)) := kk1.trans (Keeps.of_below ((Below.refl _ _).alloc (Nat.le_refl _) _))
      refine hK.out _ _ kk2 (fun _ => ?_)
      clear hK K
      refine held_one (i := 4) (by kernel_rfl) rfl (fun K hK => ?_)
      rw [if_pos (by rfl)]
      have hN := Blk.new w1 73 (rowU (List.replicate 8 0))
      have hth : (w1.alloc (.cells (rowU (List.replicate 8 0)) 73)).there w1.heap.size 0 R.size := by rw [hz, ← hZ8]; exact hN.there
      refine wp_store_mid 73 _ _ rfl w1.heap.size 0 R rfl rfl hth hi h1 ?_
      have hgr := grown_setCells w1.heap.size R.toList 0 (w1.alloc (.cells (rowU (List.replicate 8 0)) 73))
      have kk3 : Keeps W0 ((w1.alloc (.cells (rowU (List.replicate 8 0)) 73)).setCells w1.heap.size 0 R.toList) := keeps_fresh kk2 hgr (by have := hb1.size; omega)
      refine hK.out _ _ kk3 (fun _ => ?_)
      clear hK K
      try simp only [Act.put, List.setIfInBounds_toArray, List.set_cons_zero, List.set_cons_succ]
      refine' wpAnyH_take (i := 5) (oi := ⟨some 4, _, _, _, _, _⟩) (v := _) rfl (by kernel_rfl) (by kernel_rfl) (by kernel_rfl) (fun _ _ _ h => h) (Or.inl ⟨by rfl, ?yA⟩) kk3 ?rA
      case yA => (intro w' hSw; go_simp; try rfl)
      try simp only [Act.put, List.setIfInBounds_toArray, List.set_cons_zero, List.set_cons_succ]
      refine wpAnyH_done (by kernel_rfl) ?_ _
      have hE := hN.setRow (ds := R) (by rw [hz, hZ8])
      have hsgA := ((ho.sg (g := w1.heap.size) (.inl (Nat.le_refl _))).below ((Below.refl _ _).alloc (Nat.le_refl _) (.cells (rowU (List.replicate 8 0)) 73))).grown hgr
      have hBA := ((hB.below hb1 hB.lt).alloc (.cells (rowU (List.replicate 8 0)) 73)).grown hgr (by intro e; injection e with e; have := hb1.size; omega)
      have hbA := Below.only ((hbw.trans (hb1.mono hbw.size)).alloc (by have := hb1.size; omega) (.cells (rowU (List.replicate 8 0)) 73)) hgr (by have := hb1.size; omega) (by have := hb1.size; simp; omega)
      have hlt : w.heap.size < w1.heap.size := by have := hb1.size; omega
      generalize (w1.alloc (.cells (rowU (List.replicate 8 0)) 73)).setCells w1.heap.size 0 R.toList = W9 at hE hsgA hBA hbA ⊢
      go_wp2_with fail
      go_meet
      exact ⟨_, rfl, hsgA, by rw [ER.out]; exact hE, hlt, hBA, hbA⟩
    · go_simp
      change K _ (W0.alloc (.cells (rowU (List.replicate 8 0)) 73))
      have hal : Below W0.heap.size W0 (W0.alloc (.cells (rowU (List.replicate 8 0)) 73)) := (Below.refl _ _).alloc (Nat.le_refl _) _
      have kk1 : Keeps W0 (W0.alloc (.cells (rowU (List.replicate 8 0)) 73)) := Keeps.of_below hal
      refine hK.out _ _ kk1 (fun _ => ?_)
      clear hK K
      have hN0 := Blk.new W0 73 (rowU (List.replicate 8 0))
      rw [hsz] at hN0
      have hs1 := hs0.below hal
      have hB1 := hB.alloc (.cells (rowU (List.replicate 8 0)) 73)
      have hsz1 : (W0.alloc (.cells (rowU (List.replicate 8 0)) 73)).heap.size = W0.heap.size + 1 := by simp
      have hbw1 := hbw.alloc hbw.size (.cells (rowU (List.replicate 8 0)) 73)
      generalize W0.alloc (.cells (rowU (List.replicate 8 0)) 73) = W1 at kk1 hal hN0 hs1 hB1 hsz1 hbw1 ⊢
      refine held_one (i := 2) (by kernel_rfl) rfl (fun K hK => ?_)
      go_simp
      refine (padded_any _ ls W1 hs1 (by rw [EM.out]; exact hl) hn).mono ?_
      rintro e w1 ⟨v1, rfl, ho, hb1⟩
      rw [EM.out] at ho
      have kk2 := kk1.trans (Keeps.of_below hb1)
      refine hK.out _ _ kk2 (fun _ => ?_)
      clear hK K
      have hN := hN0.below hb1 hN0.lt
      refine held_one (i := 4) (by kernel_rfl) rfl (fun K hK => ?_)
      rw [if_pos (by rfl)]
      have hth : w1.there (w.heap.size + 1) 0 R.size := by rw [hz, ← hZ8]; exact hN.there
      refine wp_store_mid 73 _ _ rfl (w.heap.size + 1) 0 R rfl rfl hth hi h1 ?_
      have hgr := grown_setCells (w.heap.size + 1) R.toList 0 w1
      have kk3 : Keeps W0 (w1.setCells (w.heap.size + 1) 0 R.toList) := keeps_fresh kk2 hgr (by omega)
      refine hK.out _ _ kk3 (fun _ => ?_)
      clear hK K
      try simp only [Act.put, List.setIfInBounds_toArray, List.set_cons_zero, List.set_cons_succ]
      refine' wpAnyH_take (i := 5) (oi := ⟨some 4, _, _, _, _, _⟩) (v := _) rfl (by kernel_rfl) (by kernel_rfl) (by kernel_rfl) (fun _ _ _ h => h) (Or.inl ⟨by rfl, ?yB⟩) kk3 ?rB
      case yB => (intro w' hSw; go_simp; try rfl)
      try simp only [Act.put, List.setIfInBounds_toArray, List.set_cons_zero, List.set_cons_succ]
      refine wpAnyH_done (by kernel_rfl) ?_ _
      have hE := hN.setRow (ds := R) (by rw [hz, hZ8])
      have hsgA := (ho.sg (g := (w.heap.size + 1)) (.inr (by omega))).grown hgr
      have hBA := (hB1.below hb1 hB1.lt).grown hgr (by intro e; injection e with e; omega)
      have hbA := Below.only (hbw1.trans (hb1.mono hbw1.size)) hgr (by omega) (by have := hb1.size; omega)
      have hlt : w.heap.size < (w.heap.size + 1) := by omega
      generalize w1.setCells (w.heap.size + 1) 0 R.toList = W9 at hE hsgA hBA hbA ⊢
      go_wp2_with fail
      go_meet
      exact ⟨_, rfl, hsgA, by rw [ER.out]; exact hE, hlt, hBA, hbA⟩
  case rest =>
    obtain ⟨g, rfl, hsg, hE, hlt, hZB, hb⟩ := hcut
    have hpl := padN_length m
    have EP := Lib.hid (show shaN ls.flatten = (pressAll shaS (padN m) ((padN m).length / 64)).bytes by rw [EM.out]; rfl)
    generalize padN m = b at hsg hpl EP
    clear hB hbw hs'
    go_wp2
    go_loopw [4] (fun x wr => ∃ k : Nat, 64 * k ≤ b.length ∧ Sg wr g x (b.drop (64 * k)) ∧ Blk wr g 73 (pressAll shaS b k).row ∧ Blk wr w.heap.size 45 Z ∧ Below w.heap.size w wr) (fun x _ => lenOf x)
    case atStart => exact ⟨0, by omega, by simpa using hsg, hE, hZB, hb⟩
    case round =>
      clear hsg hE hZB hb
      obtain ⟨k, hk, hsg, hE, hZB, hb⟩ := hrel
      have hq := pressAll_ok shaS_ok b k
      obtain ⟨A1, n1, c1, rfl⟩ := hsg.sl.shape
      have hn1 := hsg.sl.len
      rw [List.length_drop] at hn1
      have hc1 : n1 ≤ c1 := by
        obtain ⟨A2, c2, e, hcc, _⟩ := hsg
        injection e with e1 e2 e3
        rw [e2, e3]; exact hcc
      by_cases hm : 64 ≤ n1
      · have hblk : Sl wr (.slice A1 64 c1) ((b.drop (64 * k)).take 64) := hsg.sl.begin 64 hm c1 (by omega)
        have hbl : ((b.drop (64 * k)).take 64).length = 64 := by rw [List.length_take, List.length_drop]; omega
        have HP := Lib.hid (show pressAll shaS b (k + 1) = pressN (pressAll shaS b k) ((b.drop (64 * k)).take 64) from rfl)
        generalize pressAll shaS b k = q at hE hq HP
        generalize (b.drop (64 * k)).take 64 = blk at hblk hbl HP
        have HN := Lib.hid hn1
        clear hn1
        have h64 : 64 ≤ c1 := by omega
        have h64' : (64 : Int) ≤ (c1 : Int) := by omega
        have hqi := q.row_info
        have hqz := q.row_size
        have hqE := Lib.hid (show q.row = q.row from rfl)
        have hR : wr.drew.rangeAt g 0 q.row.toList := fun i v hv => by rw [Nat.zero_add, hE.drew.cell i]; simpa using hv
        have hqi' : (Tryd.prog.info? 73).map (·.size) = some q.row.toList.length := by rw [Array.length_toList]; exact hqi
        have hld := run_loadAt_mid (P := Tryd.prog) wr.drew g 0 73 q.row.toList _ hR Tryd.underlying73 rfl hqi'
        rw [Array.toArray_toList] at hld
        have hE1 := hE.drew
        have hZB1 := hZB.drew
        have hb1 := hb.drew
        have hsg1 : Sg wr.drew g (.slice A1 n1 c1) (b.drop (64 * k)) := hsg
        have hblk1 : Sl wr.drew (.slice A1 64 c1) blk := hblk
        clear hE hZB hb hsg hblk hR hqi' hqE
        go_wp2
        refine wp_region_still_tail 3 (by kernel_rfl) (by kernel_rfl) ?_
        simp only [List.take_succ_cons, List.take_zero, List.drop_succ_cons, List.drop_zero]
        change wpStill _ _ wr.drew (fun a' => wpList _ _ _ _ a' wr.drew) _ _
        generalize wr.drew = W at hE1 hZB1 hb1 hsg1 hblk1 hld ⊢
        refine wpStill_load rfl _ _ rfl _ _ rfl hld ?_
        simp only [Act.put, List.setIfInBounds_toArray, List.set_cons_zero, List.set_cons_succ]
        clear hld
        repeat still_step
        refine wpStill_nil ?_
        go_wp2_with fail
        refine (pressed_any q _ blk _ hblk1 hbl hq (hg.below hb1)).mono ?_
        rintro e w2 ⟨rfl, hb2⟩
        rw [← HP.out]
        have hi2 := (pressAll shaS b (k + 1)).row_info
        have h12 := (pressAll shaS b (k + 1)).row_one
        have hz2 := (pressAll shaS b (k + 1)).row_size
        generalize hRR : (pressAll shaS b (k + 1)).row = RR at hi2 h12 hz2 ⊢
        have ERR := Lib.hid hRR
        clear hRR HP
        have hE2 := hE1.below hb2 hE1.lt
        have hth : w2.there g 0 RR.size := by rw [hz2, ← hqz]; exact hE2.there
        have hgr := grown_setCells g RR.toList 0 w2
        have hE3 := Lib.hid (hE2.setRow (ds := RR) (by rw [hz2, hqz]))
        have hsg3 := Lib.hid ((hsg1.below hb2).grown hgr)
        have hZ3 := Lib.hid ((hZB1.below hb2 hZB1.lt).grown hgr (by intro e; injection e with e; omega))
        have hb3 := Lib.hid (Below.only (hb1.trans (hb2.mono hb1.size)) hgr (by omega) (by have := hb1.size; have := hb2.size; omega))
        clear hE1 hE2 hsg1 hZB1 hgr hb1 hb2 hblk1
        go_wp2_with (refine wpList_store_mid rfl 73 _ _ rfl g 0 RR rfl rfl hth hi2 h12 ?_)
        go_roundw
        case rel =>
          have hn1 := HN.out
          refine ⟨k + 1, by omega, ?_, by rw [ERR.out]; exact hE3.out, hZ3.out, hb3.out⟩
          rw [show 64 * (k + 1) = 64 * k + 64 by omega, ← List.drop_drop]
          refine hsg3.out.drop 64 hm (fun b' o' e hne => ?_) _ _ rfl rfl
          rw [if_neg hne, e]
          rfl
        case measure => simp only [lenOf]; omega
      · have hn0 : n1 = 0 := by omega
        have hk2 : k = b.length / 64 := by omega
        subst hk2
        have EQ := Lib.hid EP.out
        generalize pressAll shaS b (b.length / 64) = q at hE hq EQ
        clear EP
        have hqi := q.row_info
        have hn1' : ¬ (64 : Int) ≤ (n1 : Int) := by omega
        clear hn1 hk
        go_wp2_with (refine wpList_load_row rfl 73 _ rfl g rfl 73 q.row (0, 0) _ hE Tryd.underlying73 rfl hqi ?_)
        refine (hashOf_any q _ hq).mono ?_
        rintro e w2 ⟨rfl, hb2⟩
        have hi2 := rowB_info q.bytes_length
        have h12 := rowB_one q.bytes
        have hs2 : (rowB q.bytes).size = 32 := by rw [rowB_size, q.bytes_length]
        generalize hT : rowB q.bytes = T at hi2 h12 hs2 ⊢
        have ET := Lib.hid hT
        clear hT
        have hZ2 := hZB.below hb2 hZB.lt
        have hb02 := hb.trans (hb2.mono hb.size)
        have hth : w2.there w.heap.size 0 T.size := by rw [hs2, ← hZ]; exact hZ2.there
        go_wp2_with (refine wpList_store_mid rfl 45 _ _ rfl w.heap.size 0 T rfl rfl hth hi2 h12 ?_)
        have hEE : Blk (w2.setCells w.heap.size 0 T.toList) w.heap.size 45 T := hZ2.setRow (by rw [hs2, hZ])
        have hgE := grown_setCells w.heap.size T.toList 0 w2
        exact bodyPost_ret (v := .agg T) (results_cell_row rfl _ _ w.heap.size 45 T (0, 0) _ rfl hEE Tryd.underlying45 rfl hi2) rfl ⟨by rw [EQ.out, ET.out], Below.only hb02 hgE (Nat.le_refl _) hb02.size⟩
end Go.Proofs.YthlopecllhdmhaaDoor

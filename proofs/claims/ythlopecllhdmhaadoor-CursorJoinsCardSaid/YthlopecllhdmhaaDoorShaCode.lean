/-
  The walk of sha.Code.
-/
import Derived.Test.YthlopecllhdmhaaDoorShaKey
namespace Go.Proofs.YthlopecllhdmhaaDoor
open Go.RowKit
set_option linter.unusedVariables false
set_option linter.unusedSimpArgs false

/-- Values that read as lists, one by one. -/
def SlAllC (w : World) (vs : List Value) (ls : List (List UInt8)) : Prop := vs.length = ls.length ∧ ∀ j (h : j < ls.length), ∃ u, vs[j]? = some u ∧ Sl w u ls[j]
theorem SlAllC.below {w w' : World} {vs : List Value} {ls : List (List UInt8)} (h : SlAllC w vs ls) (hb : Below w.heap.size w w') : SlAllC w' vs ls :=
  ⟨h.1, fun j hj => by obtain ⟨u, hu, hs⟩ := h.2 j hj; exact ⟨u, hu, hs.below hb⟩⟩
theorem SlAllC.append {w : World} {vs vs2 : List Value} {ls ls2 : List (List UInt8)} (h : SlAllC w vs ls) (h2 : SlAllC w vs2 ls2) : SlAllC w (vs ++ vs2) (ls ++ ls2) := by
  refine ⟨by rw [List.length_append, List.length_append, h.1, h2.1], fun j hj => ?_⟩
  by_cases hlt : j < ls.length
  · obtain ⟨u, hu, hs⟩ := h.2 j hlt
    exact ⟨u, by rw [List.getElem?_append_left (by rw [h.1]; exact hlt)]; exact hu, by rw [List.getElem_append_left hlt]; exact hs⟩
  · have hj2 : j - ls.length < ls2.length := by rw [List.length_append] at hj; omega
    obtain ⟨u, hu, hs⟩ := h2.2 _ hj2
    exact ⟨u, by rw [List.getElem?_append_right (by rw [h.1]; omega), h.1]; exact hu, by rw [List.getElem_append_right (by omega)]; exact hs⟩
theorem Sl.one_cell {w : World} {v : Value} {l : List UInt8} (h : Sl w v l) : v.oneCell' = true := by
  obtain ⟨A, c, rfl, _⟩ := h
  rfl
theorem Sls.values {w : World} {A : Option Addr} {n c : Nat} {ls : List (List UInt8)} (h : Sls w (.slice A n c) ls) : ∃ vs, SlAllC w vs ls ∧ (0 < ls.length → ∃ ad, A = some ad ∧ ∀ j u, vs[j]? = some u → w.cell? (ad.add j) = some u) := by
  obtain ⟨A2, c2, e, _, ha⟩ := h
  injection e with e1 e2 e3
  subst e1 e2
  by_cases h0 : 0 < ls.length
  · obtain ⟨b, o, rfl, hx⟩ := ha h0
    refine ⟨(List.range ls.length).map (fun j => (w.cell? ⟨b, o + j, none⟩).getD undef), ⟨by simp, fun j hj => ?_⟩, fun _ => ⟨_, rfl, fun j u hu => ?_⟩⟩
    · obtain ⟨u, hu, hs⟩ := hx j hj
      exact ⟨u, by simp [hj, hu], hs⟩
    · have hj : j < ls.length := by
        have := (List.getElem?_eq_some_iff.1 hu).1
        simpa using this
      obtain ⟨u2, hu2, hs⟩ := hx j hj
      rw [add_plain]
      simp [hj, hu2] at hu
      rw [hu2, hu]
  · obtain rfl : ls = [] := List.eq_nil_of_length_eq_zero (by omega)
    exact ⟨[], ⟨rfl, fun j hj => absurd hj (by simp)⟩, fun h => absurd h h0⟩

/-- What is written in a block of one slice turns no bytes. -/
theorem Sl.grown_farC {w w' : World} {g : Nat} {e : TypeId} {u v : Value} {l l0 : List UInt8} (h : Sl w v l) (hB : Blk w g e #[u]) (hu : Sl w u l0) (hgr : w.grownBy w' (some g)) : Sl w' v l := by
  obtain ⟨A, c, rfl, hc, ha⟩ := h
  refine ⟨A, c, rfl, hc, fun h0 => ?_⟩
  obtain ⟨b, o, rfl, hx⟩ := ha h0
  have hne : b ≠ g := by
    rintro rfl
    have h1 := hx 0 h0
    rw [hB.cell] at h1
    obtain ⟨A1, c1, rfl, _⟩ := hu
    rcases Nat.eq_zero_or_pos (o + 0) with ho | ho
    · rw [ho] at h1; simp at h1
    · rw [Array.getElem?_eq_none (by simp; omega)] at h1; cases h1
  refine ⟨b, o, rfl, fun j hj => ?_⟩
  exact hgr.cell (hx j hj) (by simpa using hne)

section
variable {P : Program} (w : World)
/-- Slices appended to a row of the call's own, which has one. -/
theorem run_append_lists (g : Nat) (t ty e : TypeId) (i : TypeInfo) (ht : P.underlying t = some (.slice e)) (hi : P.info? e = some i) (hz : i.zero = some (.slice none 0 0))
    (hsize : i.size = 1) (hby : i.bytes = 24) (u : Value) (l : List UInt8) (hB : Blk w g e #[u]) (hu : Sl w u l)
    (v2 : Value) (ls2 : List (List UInt8)) (hm : Sls w v2 ls2) (hlen : ls2.length ≤ 1000000000000) :
    ∃ v' w', (Builtin.append_ #[t, t] ty #[.slice (some ⟨g, 0, none⟩) 1 1, v2]).run P w = .ok v' w' ∧ Sls w' v' (l :: ls2) ∧ w.grownBy w' (some g) := by
  have hm' := hm
  obtain ⟨A, c, rfl, hc, _⟩ := hm
  obtain ⟨vs, hvs, hcells⟩ := hm'.values
  have hall : SlAllC w (u :: vs) (l :: ls2) := SlAllC.append (vs := [u]) (ls := [l]) ⟨rfl, fun j hj => by
    have h0 : j = 0 := by simpa using hj
    subst h0
    exact ⟨u, rfl, hu⟩⟩ hvs
  have hown : w.ownsRow 0 e 1 (.slice (some ⟨g, 0, none⟩) 1 1) 1 [u] := ⟨rfl, .inr ⟨g, 1, #[u], rfl, Nat.zero_le _, hB, Nat.le_refl _, by decide, rfl, rfl⟩⟩
  have fin : ∀ v' w', w'.ownsRow 0 e 1 v' (1 + ls2.length) (u :: vs) → w.grownBy w' (some g) → Sls w' v' (l :: ls2) := by
    intro v' w' ho hgr
    rw [show 1 + ls2.length = (l :: ls2).length by simp; omega] at ho
    rcases ho.2 with ⟨rfl, h0⟩ | ⟨g2, cap, cur, rfl, _, hh, hnc, _⟩
    · cases h0
    · refine ⟨_, _, rfl, hnc, fun _ => ⟨g2, 0, rfl, fun j hj => ?_⟩⟩
      obtain ⟨x, hx, hs⟩ := hall.2 j hj
      have := World.ownsRow.cells ho (g := g2) rfl j x hx
      rw [add_plain] at this
      exact ⟨x, this, hs.grown_farC hB hu hgr⟩
  cases A with
  | none =>
    have h0 : ls2 = [] := by
      rcases Nat.eq_zero_or_pos ls2.length with h0 | h0
      · exact List.eq_nil_of_length_eq_zero h0
      · obtain ⟨ad, e, _⟩ := hcells h0
        cases e
    subst h0
    obtain rfl : vs = [] := List.eq_nil_of_length_eq_zero hvs.1
    exact ⟨_, w, run_append_of_nil w 0 t ty e i 1 ht hi _ _ _ hown c, fin _ w hown (grown_refl w _), grown_refl w _⟩
  | some ad =>
    have hcs : ∀ j x, vs[j]? = some x → w.cell? (ad.add j) = some x := by
      intro j x hx
      have hj : j < vs.length := (List.getElem?_eq_some_iff.1 hx).1
      obtain ⟨ad2, e, hc⟩ := hcells (by rw [← hvs.1]; omega)
      injection e with e
      subst e
      exact hc j x hx
    obtain ⟨v', w', hrun, h2, h3, _, _⟩ := run_append_own_at (P := P) w 0 t ty e i (.slice none 0 0) 1 24 ht hi hz hsize hby rfl (by decide) _ 1 [u] hown ad ls2.length c vs (by rw [hvs.1]; simp) hcs
      (by
        intro x hx
        obtain ⟨j, hj, rfl⟩ := List.mem_iff_getElem.1 hx
        obtain ⟨y, hy, hs⟩ := hvs.2 j (by rw [← hvs.1]; exact hj)
        rw [List.getElem?_eq_getElem hj] at hy
        injection hy with hy
        rw [hy]; exact hs.one_cell) (by unfold maxLen; omega) (by omega) (Nat.zero_le _)
    exact ⟨v', w', hrun, fin v' w' h2 h3, h3⟩
theorem wpList_append_lists {ops : Array Oper} {rest : List Oper} {o : Oper} {a : Act} {Q : Exit → Act → World → Prop} (hgd : o.guard = none) (s x : Operand) (t : TypeId)
    (ho : o.op = .call { callee := .builtin .append, args := #[s, x], argTypes := #[t, t] })
    (g : Nat) (e : TypeId) (i : TypeInfo) (ht : P.underlying t = some (.slice e)) (hi : P.info? e = some i) (hz : i.zero = some (.slice none 0 0))
    (hsize : i.size = 1) (hby : i.bytes = 24) (u : Value) (l : List UInt8) (hs : a.eval s = .slice (some ⟨g, 0, none⟩) 1 1) (hB : Blk w g e #[u]) (hu : Sl w u l)
    (v2 : Value) (ls2 : List (List UInt8)) (hx : a.eval x = v2) (hm : Sls w v2 ls2) (hlen : ls2.length ≤ 1000000000000)
    (h : ∀ v' w', Sls w' v' (l :: ls2) → w.grownBy w' (some g) → wpList P ops Q rest (a.put o.dst v') w') : wpList P ops Q (o :: rest) a w := by
  refine wpList_plain hgd fun K hK => ?_
  obtain ⟨v', w', hr, h2, h3⟩ := run_append_lists (P := P) w g t o.type e i ht hi hz hsize hby u l hB hu v2 ls2 hm hlen
  unfold Oper.wp execOp
  simp only [ho, resolve, invoke, builtin, Sem.run_bind, Sem.run_pure, Result.andThen_ok, List.map_toArray, List.map_cons, List.map_nil, hs, hx, hr]
  exact hK _ _ (h v' w' h2 h3)
end
theorem info_sl : (Tryd.prog.info? 22).map (fun i => (i.zero, i.size, i.bytes)) = some (some (.slice none 0 0), 1, 24) := by kernel_rfl
theorem Gl.size {w : World} (h : Gl w) : 1 < w.heap.size := by
  obtain ⟨_, t1, f1, h1⟩ := h
  rcases Nat.lt_or_ge 1 w.heap.size with hlt | hge
  · exact hlt
  · rw [Array.getElem?_eq_none hge] at h1; cases h1
theorem keyN_row (l : List UInt8) : (rowB (keyN l)).size = 64 := by rw [rowB_size, keyN_length]
theorem zeros_row (n : Nat) : (rowB (List.replicate n 0)).size = n := by rw [rowB_size, List.length_replicate]
/-- A row laid into a block just made. -/
theorem fresh_row (w : World) (t : TypeId) (T : Array Value) (n : Nat) (hn : T.size = n) :
    (w.alloc (.cells (rowB (List.replicate n 0)) t)).there w.heap.size 0 T.size ∧ Blk ((w.alloc (.cells (rowB (List.replicate n 0)) t)).setCells w.heap.size 0 T.toList) w.heap.size t T ∧
      Below w.heap.size w ((w.alloc (.cells (rowB (List.replicate n 0)) t)).setCells w.heap.size 0 T.toList) := by
  have hN := Blk.new w t (rowB (List.replicate n 0))
  refine ⟨?_, hN.setRow (by rw [zeros_row, hn]), ?_⟩
  · have := hN.there
    rw [zeros_row] at this
    rw [hn]; exact this
  · exact Below.only ((Below.refl _ _).alloc (Nat.le_refl _) _) (grown_setCells _ _ _ _) (Nat.le_refl _) (by simp)
theorem Gl.grown {w w' : World} {g : Nat} (h : Gl w) (hgr : w.grownBy w' (some g)) (hg : 1 < g) : Gl w' := by
  have hz := h.size
  obtain ⟨⟨t, f, h0⟩, ⟨t1, f1, h1⟩⟩ := h
  exact ⟨⟨t, f, (hgr.block 0 (by omega) (by intro e; injection e with e; omega)).trans h0⟩, ⟨t1, f1, (hgr.block 1 hz (by intro e; injection e with e; omega)).trans h1⟩⟩

theorem run_exec_load {P : Program} (ac : Act) (op : Oper) (ty : TypeId) (x : Operand) (ho : op.op = .load ty x) (p v : Value) (hx : ac.eval x = p) (w : World) (hr : (Instr.loadAt ty p).run P w = .ok v w) :
    (execOp ac.eval op).run P w = .ok (.value v) w := by
  unfold execOp
  simp only [ho, hx, Sem.run_bind, hr, Result.andThen_ok, Sem.run_pure]

set_option maxHeartbeats 1600000 in
theorem code_any (v v2 : Value) (l : List UInt8) (ls : List (List UInt8)) (w : World) (hs : Sl w v l) (hs2 : Sls w v2 ls) (hl : l.length ≤ 1000000) (hl2 : ls.flatten.length ≤ 900000) (hn : ls.length ≤ 1000000000000) (hg : Gl w) :
    Calls Tryd.prog 34 #[v, v2] w fun e w' => e = .returned (.agg (rowB (codeN l ls.flatten))) ∧ Below w.heap.size w w' := by
  obtain ⟨i0, hi, hz0, hz1, hz2⟩ := info_parts info_sl
  obtain ⟨A, n, c, rfl⟩ := hs.shape
  have hs2' := hs2
  obtain ⟨A2, c2, rfl, _, _⟩ := hs2'
  have hB0 := Blk.new w 45 (rowB (List.replicate 32 0))
  have hb0 : Below w.heap.size w (w.alloc (.cells (rowB (List.replicate 32 0)) 45)) := (Below.refl _ _).alloc (Nat.le_refl _) _
  have hZ := zeros_row 32
  have hzw : w.heap.size < (w.alloc (.cells (rowB (List.replicate 32 0)) 45)).heap.size := by simp
  have hkr := keyN_row l
  have hki := rowB_info64 (keyN_length l)
  have hk1 := rowB_one (keyN l)
  go_enter Tryd.func34, Tryd.ntmps34
  go_upto_region 1 with (fail)
  change Code.wp _ _ _ _ (w.alloc (.cells (rowB (List.replicate 32 0)) 45))
  have hs1 := hs.below hb0
  have hs21 := hs2.below hb0
  have hg1 := hg.below hb0
  generalize w.alloc (.cells (rowB (List.replicate 32 0)) 45) = W0 at hB0 hb0 hzw hs1 hs21 hg1 ⊢
  generalize rowB (List.replicate 32 0) = Z at hB0 hZ
  clear hs hs2 hg
  go_wp2_with fail
  refine (keyOf_any _ l _ hs1 hl hg1).mono ?_
  rintro e w1 ⟨rfl, hb1⟩
  have hs22 := hs21.below hb1
  have hg2 := hg1.below hb1
  have hB2 := hB0.below hb1 hB0.lt
  have hb2 := hb0.trans (hb1.mono hb0.size)
  have hzw2 : w.heap.size < w1.heap.size := by have := hb1.size; omega
  clear hB0 hb0 hzw hs1 hs21 hg1 hb1
  have HM54 := Lib.hid (fun (w : World) => show Calls Tryd.prog 42 #[.agg (rowB (keyN l)), .int .u8 54] w _ from masked_any (keyN l) 54 w (keyN_length l))
  have HM92 := Lib.hid (fun (w : World) => show Calls Tryd.prog 42 #[.agg (rowB (keyN l)), .int .u8 92] w _ from masked_any (keyN l) 92 w (keyN_length l))
  obtain ⟨hth, hK, hbK⟩ := fresh_row w1 68 (rowB (keyN l)) 64 hkr
  generalize hKK : rowB (keyN l) = K at hkr hki hk1 hth hK hbK HM54 HM92 ⊢
  have EK := Lib.hid hKK
  clear hKK
  go_upto_region 2 with (refine wpList_store_mid rfl 68 _ _ rfl w1.heap.size 0 K rfl rfl hth hki hk1 ?_)
  change Code.wp _ _ _ _ ((w1.alloc (.cells (rowB (List.replicate 64 0)) 68)).setCells w1.heap.size 0 K.toList)
  have hs23 := hs22.below hbK
  have hg3 := hg2.below hbK
  have hB3 := hB2.below hbK hB2.lt
  have hb3 := hb2.trans (hbK.mono hb2.size)
  have hzK : w1.heap.size < ((w1.alloc (.cells (rowB (List.replicate 64 0)) 68)).setCells w1.heap.size 0 K.toList).heap.size := hK.lt
  generalize (w1.alloc (.cells (rowB (List.replicate 64 0)) 68)).setCells w1.heap.size 0 K.toList = W1 at hs23 hg3 hB3 hb3 hK hzK ⊢
  clear hs22 hg2 hB2 hb2 hth hbK
  generalize w1.heap.size = a1 at hK hzK hzw2 ⊢
  have HZW := Lib.hid hzw2
  clear hzw2
  go_wp2_with (refine wpList_load_row rfl 68 _ rfl a1 rfl 68 K (0, 0) _ hK Tryd.underlying68 rfl hki ?_)
  refine (HM54.out W1).mono ?_
  rintro e w2 ⟨rfl, hM, hb2⟩
  have hs24 := hs23.below hb2
  have hg4 := hg3.below hb2
  have hB4 := hB3.below hb2 hB3.lt
  have hb4 := hb3.trans (hb2.mono hb3.size)
  have hK4 := hK.below hb2 hK.lt
  have hm54 := hM.bytes 64 64 (by rw [maskN_length, keyN_length]) (Nat.le_refl _)
  generalize W1.heap.size = b1 at hM hm54 ⊢
  clear hs23 hg3 hB3 hb3 hK hb2 hM hzK
  go_upto_region 3 with (fail)
  have hs25 := hs24.below ((Below.refl _ _).alloc (Nat.le_refl _) (.cells #[Value.slice (some ⟨b1, 0, none⟩) 64 64] 22))
  have hg5 := hg4.below ((Below.refl _ _).alloc (Nat.le_refl _) (.cells #[Value.slice (some ⟨b1, 0, none⟩) 64 64] 22))
  have hB5 := hB4.alloc (.cells #[Value.slice (some ⟨b1, 0, none⟩) 64 64] 22)
  have hK5 := hK4.alloc (.cells #[Value.slice (some ⟨b1, 0, none⟩) 64 64] 22)
  have hb5 := hb4.alloc hb4.size (.cells #[Value.slice (some ⟨b1, 0, none⟩) 64 64] 22)
  have hm5 := hm54.alloc (.cells #[Value.slice (some ⟨b1, 0, none⟩) 64 64] 22)
  have hL5 := Blk.new w2 22 #[Value.slice (some ⟨b1, 0, none⟩) 64 64]
  have z0 := hB4.lt
  have z1 := hK4.lt
  have gz := hg4.size
  generalize w2.alloc (.cells #[Value.slice (some ⟨b1, 0, none⟩) 64 64] 22) = W2 at hs25 hg5 hB5 hK5 hb5 hm5 hL5 ⊢
  clear hs24 hg4 hB4 hb4 hK4 hm54
  generalize w2.heap.size = g at hL5 z0 z1 gz ⊢
  go_wp2_with (refine wpList_append_lists _ rfl (.tmp 13) (.tmp 14) 60 rfl g 22 i0 Tryd.underlying60 hi hz0 hz1 hz2 _ _ rfl hL5 hm5 _ ls rfl hs25 hn ?_)
  intro v3 w3 hs3 hgr
  have hg6 := hg5.grown hgr gz
  have hB6 := hB5.grown hgr (by intro e; injection e with e; omega)
  have hK6 := hK5.grown hgr (by intro e; injection e with e; omega)
  have hb6 := Below.only hb5 hgr (by omega) hb5.size
  clear hs25 hg5 hB5 hK5 hb5 hm5 hL5 hgr
  go_wp2_with fail
  refine (sum_any v3 (maskN 54 (keyN l) :: ls) w3 hs3 (by rw [List.flatten_cons, List.length_append, maskN_length, keyN_length]; omega) (by rw [List.length_cons]; omega) hg6).mono ?_
  rintro e w4 ⟨rfl, hb4⟩
  rw [List.flatten_cons]
  have hg7 := hg6.below hb4
  have hB7 := hB6.below hb4 hB6.lt
  have hK7 := hK6.below hb4 hK6.lt
  have hb7 := hb6.trans (hb4.mono hb6.size)
  have z3 : a1 < w4.heap.size := hK7.lt
  clear hs3 hg6 hB6 hK6 hb6 hb4
  have HC := Lib.hid (show codeN l ls.flatten = shaN (maskN 92 (keyN l) ++ shaN (maskN 54 (keyN l) ++ ls.flatten)) from rfl)
  have hil := shaN_length (maskN 54 (keyN l) ++ ls.flatten)
  generalize shaN (maskN 54 (keyN l) ++ ls.flatten) = m at HC hil ⊢
  have hii := rowB_info hil
  have hi1 := rowB_one m
  have hir : (rowB m).size = 32 := by rw [rowB_size, hil]
  obtain ⟨hth, hI, hbI⟩ := fresh_row w4 45 (rowB m) 32 hir
  go_upto_region 4 with (refine wpList_store_mid rfl 45 _ _ rfl w4.heap.size 0 (rowB m) rfl rfl hth hii hi1 ?_)
  change Code.wp _ _ _ _ ((w4.alloc (.cells (rowB (List.replicate 32 0)) 45)).setCells w4.heap.size 0 (rowB m).toList)
  have hg8 := hg7.below hbI
  have hB8 := hB7.below hbI hB7.lt
  have hK8 := hK7.below hbI hK7.lt
  have hb8 := hb7.trans (hbI.mono hb7.size)
  generalize (w4.alloc (.cells (rowB (List.replicate 32 0)) 45)).setCells w4.heap.size 0 (rowB m).toList = W4 at hg8 hB8 hK8 hb8 hI ⊢
  clear hg7 hB7 hK7 hb7 hth hbI
  generalize w4.heap.size = a3 at hI z3 ⊢
  refine wp_region_held_drew (S := fun w' => Blk w' a1 68 K) (by kernel_rfl) hK8.drew (fun _ => ?_)
  have hg9 := hg8.drew
  have hB9 := hB8.drew
  have hK9 := hK8.drew
  have hI9 := hI.drew
  have hb9 := hb8.drew
  generalize W4.drew = W5 at hg9 hB9 hK9 hI9 hb9 ⊢
  clear hg8 hB8 hK8 hb8 hI
  have hRK : ∀ w', Blk w' a1 68 K → w'.rangeAt a1 0 K.toList := fun w' hS i v hv => by rw [Nat.zero_add, hS.cell i]; simpa using hv
  have hki' : (Tryd.prog.info? 68).map (·.size) = some K.toList.length := by rw [Array.length_toList]; exact hki
  refine' wpAnyH_take (i := 0) (oi := ⟨some 17, _, _, _, _, _⟩) (v := .agg K) rfl (by kernel_rfl) (by kernel_rfl) (by kernel_rfl) (fun _ _ _ h => h) (Or.inl ⟨by rfl, ?y0⟩) hK9 ?r0
  case y0 =>
    intro w' hSw
    have hld := run_loadAt_mid (P := Tryd.prog) w' a1 0 68 K.toList _ (hRK _ hSw) Tryd.underlying68 rfl hki'
    rw [Array.toArray_toList] at hld
    exact run_exec_load _ _ _ _ rfl _ _ rfl _ hld
  try simp only [Act.put, List.setIfInBounds_toArray, List.set_cons_zero, List.set_cons_succ]
  refine' wpAnyH_take (i := 2) (oi := ⟨some 19, _, _, _, _, _⟩) (v := _) rfl (by kernel_rfl) (by kernel_rfl) (by kernel_rfl) (fun _ _ _ h => h) (Or.inl ⟨by rfl, ?y1⟩) hK9 ?r1
  case y1 => (intro w' hSw; go_simp; try rfl)
  try simp only [Act.put, List.setIfInBounds_toArray, List.set_cons_zero, List.set_cons_succ]
  refine held_one (i := 1) (by kernel_rfl) rfl (fun KK hKK => ?_)
  go_simp
  refine (HM92.out W5).mono ?_
  rintro e w6 ⟨rfl, hM, hb6⟩
  have hKA := hK9.below hb6 hK9.lt
  refine hKK.out _ _ hKA (fun _ => ?_)
  clear hKK KK
  have hgA := hg9.below hb6
  have hBA := hB9.below hb6 hB9.lt
  have hIA := hI9.below hb6 hI9.lt
  have hbA := hb9.trans (hb6.mono hb9.size)
  have hm92 := hM.bytes 64 64 (by rw [maskN_length, keyN_length]) (Nat.le_refl _)
  have hin := hIA.bytes 32 32 hil.symm (Nat.le_refl _)
  generalize W5.heap.size = b2 at hM hm92 ⊢
  refine held_one (i := 3) (by kernel_rfl) rfl (fun KK hKK => ?_)
  go_simp
  have hal : Below w6.heap.size w6 (w6.alloc (.cells #[Value.slice (some ⟨b2, 0, none⟩) 64 64, Value.slice (some ⟨a3, 0, none⟩) 32 32] 22)) := (Below.refl _ _).alloc (Nat.le_refl _) _
  have hLL : Sls (w6.alloc (.cells #[Value.slice (some ⟨b2, 0, none⟩) 64 64, Value.slice (some ⟨a3, 0, none⟩) 32 32] 22)) (.slice (some ⟨w6.heap.size, 0, none⟩) 2 2) [maskN 92 (keyN l), m] := by
    refine ⟨_, _, rfl, Nat.le_refl _, fun _ => ⟨_, 0, rfl, fun j hj => ?_⟩⟩
    have hj2 : j < 2 := by simpa using hj
    rw [Nat.zero_add, (Blk.new w6 _ _).cell]
    rcases j with _ | _ | j
    · exact ⟨_, rfl, hm92.alloc _⟩
    · exact ⟨_, rfl, hin.alloc _⟩
    · omega
  have hKB := hKA.below hal hKA.lt
  refine hKK.out _ _ hKB (fun _ => ?_)
  clear hKK KK
  have hgB := hgA.below hal
  have hBB := hBA.below hal hBA.lt
  have hbB := hbA.trans (hal.mono hbA.size)
  generalize w6.alloc (.cells #[Value.slice (some ⟨b2, 0, none⟩) 64 64, Value.slice (some ⟨a3, 0, none⟩) 32 32] 22) = W7 at hal hLL hgB hBB hbB hKB ⊢
  generalize w6.heap.size = g2 at hLL ⊢
  try simp only [Act.put, List.setIfInBounds_toArray, List.set_cons_zero, List.set_cons_succ]
  refine held_one (i := 4) (by kernel_rfl) rfl (fun KK hKK => ?_)
  go_simp
  refine (sum_any _ [maskN 92 (keyN l), m] W7 hLL (by simp [maskN_length, keyN_length, hil]) (by simp) hgB).mono ?_
  rintro e w8 ⟨rfl, hb8⟩
  rw [show [maskN 92 (keyN l), m].flatten = maskN 92 (keyN l) ++ m by simp, ← HC.out]
  have hKC := hKB.below hb8 hKB.lt
  refine hKK.out _ _ hKC (fun _ => ?_)
  clear hKK KK
  have hBC := hBB.below hb8 hBB.lt
  have hbC := hbB.trans (hb8.mono hbB.size)
  have hcl : (codeN l ls.flatten).length = 32 := codeN_length _ _
  have hci := rowB_info hcl
  have hc1 := rowB_one (codeN l ls.flatten)
  have hcr : (rowB (codeN l ls.flatten)).size = 32 := by rw [rowB_size, hcl]
  generalize hT : rowB (codeN l ls.flatten) = T at hci hc1 hcr ⊢
  have ET := Lib.hid hT
  have hth : w8.there w.heap.size 0 T.size := by rw [hcr, ← hZ]; exact hBC.there
  have hgr := grown_setCells w.heap.size T.toList 0 w8
  try simp only [Act.put, List.setIfInBounds_toArray, List.set_cons_zero, List.set_cons_succ]
  refine held_one (i := 5) (by kernel_rfl) rfl (fun KK hKK => ?_)
  rw [if_pos (by rfl)]
  refine wp_store_mid 45 _ _ rfl w.heap.size 0 T rfl rfl hth hci hc1 ?_
  refine hKK.out _ _ (hKC.grown hgr (by intro e; injection e with e; have := HZW.out; omega)) (fun _ => ?_)
  clear hKK KK
  refine wpAnyH_done (by kernel_rfl) ?_ _
  have hEE : Blk (w8.setCells w.heap.size 0 T.toList) w.heap.size 45 T := hBC.setRow (by rw [hcr, hZ])
  have hbE := Below.only hbC hgr (Nat.le_refl _) hbC.size
  generalize w8.setCells w.heap.size 0 T.toList = W9 at hEE hbE ⊢
  go_wp2_with fail
  exact bodyPost_ret (v := .agg T) (results_cell_row rfl _ _ w.heap.size 45 T (0, 0) _ rfl hEE Tryd.underlying45 rfl hci) rfl ⟨by rw [ET.out], hbE⟩
end Go.Proofs.YthlopecllhdmhaaDoor

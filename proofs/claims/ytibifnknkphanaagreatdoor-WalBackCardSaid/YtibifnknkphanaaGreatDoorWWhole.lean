/-
  wal.Whole.
-/
import Derived.Test.YtibifnknkphanaaGreatDoorWSplitA
import Derived.Test.YtibifnknkphanaaGreatDoorDskFull0
import Derived.Maps.OwnIn
namespace Go.Proofs.YtibifnknkphanaaGreatDoor
open Go.RowKit Go.Maps Go.Shelf
open DskM
set_option linter.unusedVariables false
set_option linter.unusedSimpArgs false
set_option maxRecDepth 100000
attribute [local go_sem] Oper.semAt_some

theorem info_sl : (Tryz.prog.info? 22).map (fun i => (i.zero, i.size, i.bytes)) = some (some (.slice none 0 0), 1, 24) := by kernel_rfl
theorem al_one (w : World) (o : Obj) : Below w.heap.size w (w.alloc o) := (Below.refl _ _).alloc (Nat.le_refl _) _
theorem split_any (A : Option Addr) (n c : Nat) (w : World) : Calls Tryz.prog 47 #[.slice A n c] w fun e w' => e = .returned (.func (.func 94) #[] #[.pointer (some ⟨w.heap.size, 0, none⟩)]) ∧ Blk w' w.heap.size 22 #[.slice A n c] ∧ Below w.heap.size w w' := by
  have hmf : ∀ (fn : Fn) (first cap : Array Value) (w : World), (Instr.makeFunc fn first cap).run Tryz.prog w = .ok (.func fn first cap) w := fun _ _ _ _ => rfl
  go_enter Tryz.func47, Tryz.ntmps47
  go_wp2
  go_ret
  exact ⟨rfl, Blk.new _ _ _, al_one w _⟩
def endR (pre : List Rec) : Nat := (pre.getLast?.map (fun x => x.2.2)).getD 0
theorem endR_snoc (pre : List Rec) (x : Rec) : endR (pre ++ [x]) = x.2.2 := by simp [endR]
/-- What the body has gathered. -/
def WhI (w0 : World) (hi : Nat) (pre : List Rec) (W : World) : Prop :=
  Below w0.heap.size w0 W ∧ hi ≤ W.heap.size ∧ Blk W (w0.heap.size + 1) 3 #[.int .i64 (endR pre : Int)] ∧ ∃ vr, Blk W w0.heap.size 27 #[vr] ∧ W.ownsRow hi 22 1 vr pre.length (pre.map (·.1)) ∧ ∀ x ∈ pre, SlC hi W x.1 x.2.1
theorem row_kept {w w' : World} {base : Nat} {e : TypeId} {size : Nat} {v : Value} {n : Nat} {xs : List Value} (h : w.ownsRow base e size v n xs) (hk : ∀ k cs, Blk w k e cs → Blk w' k e cs) : w'.ownsRow base e size v n xs := by
  refine ⟨h.1, ?_⟩
  rcases h.2 with h2 | ⟨g, cap, cur, hv, hg, hh, r⟩
  · exact .inl h2
  · exact .inr ⟨g, cap, cur, hv, hg, hk g cur hh, r⟩
theorem WhI.abs {w0 : World} {hi B : Nat} (hB : w0.heap.size ≤ B) (hh : w0.heap.size ≤ hi) : Abs B (StS hi) (WhI w0 hi) := by
  refine ⟨?_, ?_, ?_⟩
  · rintro pre W l o o' ⟨hb, hs, b1, vr, b2, hr, hx⟩ hl hlo hc _
    have hk : ∀ k t cs, Blk W k t cs → Blk (W.putObj l o') k t cs := fun k t cs hk => by
      have hne : k ≠ l := by
        rintro rfl
        unfold Blk at hk
        rw [hk] at hlo
        injection hlo with hlo
        rw [← hlo] at hc
        cases hc
      unfold Blk at hk ⊢
      show (W.heap.setIfInBounds l o')[k]? = _
      rw [Array.getElem?_setIfInBounds_ne (Ne.symm hne)]
      exact hk
    refine ⟨hb.grown (grownBy_putObj' W l o') hb.size (fun k e => by injection e with e; omega), Nat.le_trans hs (grownBy_putObj' W l o').size, hk _ _ _ b1, vr, hk _ _ _ b2, row_kept hr (fun k cs => hk k _ cs), fun x hx' => (hx x hx').kept (fun k cs _ => hk k _ cs)⟩
  · rintro pre W o ⟨hb, hs, b1, vr, b2, hr, hx⟩
    exact ⟨hb.alloc hb.size _, Nat.le_trans hs (by simp), b1.alloc _, vr, b2.alloc _, row_kept hr (fun k cs hb => hb.alloc _), fun x hx' => (hx x hx').kept (fun k cs _ hb => hb.alloc _)⟩
  · rintro pre A B' ⟨hb, hs, b1, vr, b2, hr, hx⟩ hst
    exact ⟨hst.below hb hh (Nat.le_refl _), Nat.le_trans hs hst.size, hst.blk b1 (by decide), vr, hst.blk b2 (by decide), row_kept hr (fun k cs hb => hst.blk hb (by decide)), fun x hx' => (hx x hx').kept (fun k cs _ hb => hst.blk hb (by decide))⟩
set_option maxHeartbeats 8000000 in
theorem whole_any (v : Value) (b : List UInt8) (w : World) (hv : Sl w v b) (hl : b.length ≤ 1000000) :
    Calls Tryz.prog 10 #[v] w fun e w' => ∃ vr xs, e = .returned (.tuple #[vr, .int .i64 (endR xs : Int)]) ∧ xs.map (·.2) = wholeP b ∧ w'.ownsRow w.heap.size 22 1 vr xs.length (xs.map (·.1)) ∧ (∀ x ∈ xs, SlC w.heap.size w' x.1 x.2.1) ∧ Below w.heap.size w w' := by
  obtain ⟨i0, hi, hy0, hy1, hy2⟩ := info_parts info_sl
  have HV := Lib.hid hv
  obtain ⟨A0, n0, c0, rfl⟩ := hv.shape
  refine (callsIn_wide (n := 8)).1 ?_
  refine callsIn_of_wp_marks Tryz.func10 rfl trivial ?_ rfl
  simp only [Tryz.ntmps10, List.size_toArray, List.length_cons, List.length_nil, Nat.reduceAdd, Nat.reduceSub, Array.replicate_succ, Array.replicate_zero, List.push_toArray, List.append_toArray, List.nil_append, List.cons_append]
  have hb0 : Below w.heap.size w ((w.alloc (.cells #[.slice none 0 0] 27)).alloc (.cells #[.int .i64 0] 3)) := (al_one w _).alloc (by simp) _
  obtain ⟨w1, hw1⟩ : ∃ w1, w1 = (w.alloc (.cells #[.slice none 0 0] 27)).alloc (.cells #[.int .i64 0] 3) := ⟨_, rfl⟩
  have hz1 : w1.heap.size = w.heap.size + 2 := by rw [hw1]; simp
  have hbr : Blk w1 w.heap.size 27 #[.slice none 0 0] := by rw [hw1]; exact (Blk.new w _ _).alloc _
  have hbs : Blk w1 (w.heap.size + 1) 3 #[.int .i64 0] := by
    have := Blk.new (w.alloc (.cells #[.slice none 0 0] 27)) 3 #[.int .i64 0]
    rw [World.size_alloc] at this
    rw [hw1]; exact this
  rw [← hw1] at hb0
  have HW1 := Lib.hid hw1
  have HB0 := Lib.hid hb0
  have HBR := Lib.hid hbr
  have HBS := Lib.hid hbs
  have HZ1 := Lib.hid hz1
  clear hb0 hbr hbs hz1 hw1
  gi_wp2_with fail
  rw [← HW1.out]
  refine ⟨trivial, (callsIn_wide.2 (split_any _ _ _ w1)).mono ?_⟩
  rintro e w2 ⟨rfl, hbx, hb2⟩
  have HST := Lib.hid (split_seq 7 (by omega) b hl w1.heap.size _ w2 hbx ((HV.out.below HB0.out).below hb2))
  have HI0 := Lib.hid (show WhI w w2.heap.size [] w2 from ⟨HB0.out.trans (hb2.mono HB0.out.size), Nat.le_refl _, HBS.out.below hb2 HBS.out.lt, _, HBR.out.below hb2 HBR.out.lt, World.ownsRow_nil _ _ _ _, fun x hx => by cases hx⟩)
  have HS2 := Lib.hid (show w.heap.size + 2 ≤ w1.heap.size ∧ w1.heap.size < w2.heap.size from ⟨by rw [HZ1.out]; exact Nat.le_refl _, hbx.lt⟩)
  clear hbx hb2
  gi_wp2_with fail
  refine' range_x rfl (by omega) (gf := 94) (lb := #[.pointer (some ⟨w1.heap.size, 0, none⟩)]) rfl trivial splitFn_enters HST.out (StS.quiet _) (fun {A B C} h k => KpS.trans h k) ?hKb (Below.refl _ _) (fun _ => rfl) ?hX
    (WhI w w2.heap.size) (fun _ _ _ => False) (WhI.abs (by have := HS2.out; omega) (by have := HS2.out; omega)) (fun _ => ⟨fun _ _ _ _ _ h => h.elim, fun _ _ _ h => h.elim, fun _ _ _ h => h.elim⟩) HI0.out _ ?assign ?body ?done ?stop
  case hKb =>
    intro W l o o' hl ho hc _
    have hne : ∀ {k t cs}, Blk W k t cs → k ≠ l := by
      rintro k t cs hk rfl
      unfold Blk at hk
      rw [hk] at ho
      injection ho with ho
      rw [← ho] at hc
      cases hc
    have hput : ∀ {k t cs}, Blk W k t cs → Blk (W.putObj l o') k t cs := fun {k t cs} hk => by
      have := hne hk
      unfold Blk at hk ⊢
      show (W.heap.setIfInBounds l o')[k]? = _
      rw [Array.getElem?_setIfInBounds_ne (Ne.symm this)]
      exact hk
    refine ⟨(grownBy_putObj' W l o').size, fun k cs => hput, fun k cs => hput, ?_⟩
    show (W.heap.setIfInBounds l o')[w1.heap.size]? = _
    rw [Array.getElem?_setIfInBounds_ne (by have := HS2.out; omega)]
  case hX =>
    intro x W l o o' hx ho hc
    refine hx.kept (fun k cs _ hk => ?_)
    have hne : k ≠ l := by
      rintro rfl
      unfold Blk at hk
      rw [hk] at ho
      injection ho with ho
      rw [← ho] at hc
      cases hc
    unfold Blk at hk ⊢
    show (W.heap.setIfInBounds l o')[k]? = _
    rw [Array.getElem?_setIfInBounds_ne (Ne.symm hne)]
    exact hk
  case assign =>
    intro l x W K hK
    dsimp only [encR]
    gi_wp2
    exact hK
  case stop =>
    intro D c pre W hD' _ h _
    exact h.elim
  case body =>
    intro l pre x W hI hX hlen
    obtain ⟨hb, hs, b1, vr, b2, hr, hx⟩ := hI
    obtain ⟨Ar, cr, hvr⟩ := row_shape hr
    obtain ⟨Ax, hax, _⟩ := id hX
    obtain ⟨xv, xl, xo⟩ := x
    dsimp only at hax hX
    subst hvr hax
    obtain ⟨xv, hax⟩ : ∃ xv, xv = Value.slice Ax xl.length xl.length := ⟨_, rfl⟩
    rw [← hax] at hX ⊢
    have q1 : W.cell? ⟨w.heap.size, 0, none⟩ = some (.slice Ar pre.length cr) := by rw [b2.cell]; rfl
    have f1 := b2.frozen 0
    have q2 : W.cell? ⟨w.heap.size + 1, 0, none⟩ = some (.int .i64 (endR pre : Int)) := by rw [b1.cell]; rfl
    have f2 := b1.frozen 0
    have hoa := hr.alloc (.cells #[xv] 22)
    have hcel : ∀ (j : Nat) (u : Value), [xv][j]? = some u → (W.alloc (.cells #[xv] 22)).cell? ((⟨W.heap.size, 0, none⟩ : Addr).add j) = some u := by
      intro j u hu
      have hj : j = 0 := by
        have := (List.getElem?_eq_some_iff.1 hu).1
        simpa using this
      subst hj
      rw [add_plain, (Blk.new W 22 #[xv]).cell]
      simpa using hu
    have hone : ∀ u ∈ [xv], u.oneCell' = true := by
      intro u hu
      obtain rfl := List.mem_singleton.1 hu
      rw [hax]; rfl
    have hl63 : pre.length + 1 ≤ maxLen := by unfold maxLen; omega
    have hby : (pre.length + 1) * 24 ≤ 140737488355328 := by omega
    have hbs : w2.heap.size ≤ (W.alloc (.cells #[xv] 22)).heap.size := by simp; omega
    have HOA := Lib.hid hoa
    have HCEL := Lib.hid hcel
    have HONE := Lib.hid hone
    have HALL := Lib.hid (And.intro hb (And.intro hs (And.intro b1 (And.intro b2 (And.intro hr hx)))))
    have HX := Lib.hid hX
    have HAX := Lib.hid hax
    clear hoa hcel hone hb hs b1 b2 hr hx hX
    subst hax
    clear HAX
    gi_wp2_with (gi_at_builtin; go_loud (refine wpListIn_append_own_at _ rfl _ _ 27 rfl w2.heap.size 22 i0 (.slice none 0 0) 1 24 Tryz.underlying27 hi hy0 hy1 hy2 rfl (by decide) (.slice Ar pre.length cr) pre.length (pre.map (·.1)) rfl HOA.out ⟨W.heap.size, 0, none⟩ 1 1 [.slice Ax xl.length xl.length] rfl rfl HCEL.out HONE.out hl63 hby hbs ?_))
    intro v' w3 ho3 hg3 _ hat
    obtain ⟨hb, hs, b1, b2, hr, hx⟩ := HALL.out
    have hbx := HS2.out
    obtain ⟨ob, hob⟩ : ∃ ob, ob = (Value.slice Ar pre.length cr).ownBlock := ⟨_, rfl⟩
    have hrow : ∀ k, ob = some k → w2.heap.size ≤ k ∧ ∃ cs, Blk W k 22 cs := fun k e => by
      rcases hr.2 with ⟨e2, _⟩ | ⟨g, cap, cur, e2, hg, hh, _⟩
      · rw [hob, e2] at e; cases e
      · rw [hob, e2] at e
        injection e with e
        subst e
        exact ⟨hg, cur, hh⟩
    rw [← hob] at hg3 hat
    have k1 : Keep (fun i => ob = some i) W w3 := (Keep.of_below (al_one W _)).trans (Keep.of_grown hg3 (fun k e => e)) (fun _ h => h) (fun _ _ h => h)
    have hnr : ¬ ob = some w.heap.size := fun e => by have := (hrow _ e).1; omega
    have hns : ¬ ob = some (w.heap.size + 1) := fun e => by have := (hrow _ e).1; omega
    have b1' := b1.kept k1 hns
    have b2' := b2.kept k1 hnr
    have p1 : w3.cell? ⟨w.heap.size, 0, none⟩ = some (.slice Ar pre.length cr) := by rw [b2'.cell]; rfl
    have g1 := b2'.frozen 0
    have p2 : (w3.setCell ⟨w.heap.size, 0, none⟩ v').cell? ⟨w.heap.size + 1, 0, none⟩ = some (.int .i64 (endR pre : Int)) := by rw [(b1'.far (p := ⟨w.heap.size, 0, none⟩) (by show w.heap.size + 1 ≠ w.heap.size; omega) v').cell]; rfl
    have g2 := (b1'.far (p := ⟨w.heap.size, 0, none⟩) (by show w.heap.size + 1 ≠ w.heap.size; omega) v').frozen 0
    obtain ⟨A', c', hv'⟩ := row_shape ho3
    subst hv'
    have k2 : Keep (fun i => i = w.heap.size ∨ i = w.heap.size + 1 ∨ ob = some i) W ((w3.setCell ⟨w.heap.size, 0, none⟩ (.slice A' (pre.length + 1) c')).setCell ⟨w.heap.size + 1, 0, none⟩ (.int .i64 (xo : Int))) :=
      ((k1.mono (fun i h => .inr (.inr h))).trans (Keep.setCell w3 _ _ (.inl rfl)) (fun _ h => h) (fun _ _ h => h)).trans (Keep.setCell _ _ _ (.inr (.inl rfl))) (fun _ h => h) (fun _ _ h => h)
    have b1'' := (b1'.far (p := ⟨w.heap.size, 0, none⟩) (by show w.heap.size + 1 ≠ w.heap.size; omega) (.slice A' (pre.length + 1) c')).set_ 0 (.int .i64 (xo : Int))
    have b2'' := (b2'.set_ 0 (.slice A' (pre.length + 1) c')).far (p := ⟨w.heap.size + 1, 0, none⟩) (by show w.heap.size ≠ w.heap.size + 1; omega) (.int .i64 (xo : Int))
    obtain ⟨W4, hW4⟩ : ∃ W4, W4 = (w3.setCell ⟨w.heap.size, 0, none⟩ (.slice A' (pre.length + 1) c')).setCell ⟨w.heap.size + 1, 0, none⟩ (.int .i64 (xo : Int)) := ⟨_, rfl⟩
    rw [← hW4] at k2 b1'' b2''
    have hoth : ∀ k t cs, Blk W k t cs → t ≠ 27 → t ≠ 3 → t ≠ 22 → Blk W4 k t cs := fun k t cs hk h1 h2 h3 => hk.kept k2 (fun e => by
      rcases e with rfl | rfl | e
      · exact h1 ((by have e := hk.symm.trans b2; injection e with e; injection e))
      · exact h2 ((by have e := hk.symm.trans b1; injection e with e; injection e))
      · obtain ⟨cs', hk'⟩ := (hrow _ e).2
        exact h3 ((by have e := hk.symm.trans hk'; injection e with e; injection e)))
    have ho4 : W4.ownsRow w2.heap.size 22 1 (.slice A' (pre.length + 1) c') (pre.length + 1) ((pre ++ [((.slice Ax xl.length xl.length : Value), xl, xo)]).map (·.1)) := by
      rw [List.map_append]
      refine ⟨ho3.1, ?_⟩
      rcases ho3.2 with h | ⟨g, cap, cur, e1, e2, e3, e4⟩
      · exact .inl h
      · refine .inr ⟨g, cap, cur, e1, e2, ?_, e4⟩
        rw [hW4, Below.heap_setCell _ _ _ g (by show g ≠ w.heap.size + 1; omega), Below.heap_setCell _ _ _ g (by show g ≠ w.heap.size; omega)]
        exact e3
    have hfin : KeepsFrom w2.heap.size W W4 ∧ KpS w1.heap.size W W4 ∧ WhI w w2.heap.size (pre ++ [((.slice Ax xl.length xl.length : Value), xl, xo)]) W4 := by
      refine ⟨⟨k2.size, fun i o hi' ho hc => ?_⟩, ⟨k2.size, fun k cs hk => hoth k _ cs hk (by decide) (by decide) (by decide), fun k cs hk => hoth k _ cs hk (by decide) (by decide) (by decide), k2.block _ (by omega) (fun e => by
          rcases e with e | e | e
          · omega
          · omega
          · have := (hrow _ e).1; omega)⟩, Keep.below hb k2 hb.size (fun i e => by
          rcases e with rfl | rfl | e
          · exact Nat.le_refl _
          · exact Nat.le_succ _
          · have := (hrow _ e).1; omega), Nat.le_trans hs k2.size, by rw [endR_snoc]; exact b1'', _, b2'', by rw [List.length_append, List.length_singleton]; exact ho4, fun y hy => ?_⟩
      · exact (k2.block i (Array.getElem?_eq_some_iff.1 ho).1 (fun e => by
          rcases e with rfl | rfl | e
          · omega
          · omega
          · obtain ⟨cs', hk'⟩ := (hrow _ e).2
            rw [hk'] at ho
            injection ho with ho
            rw [← ho] at hc
            cases hc)).trans ho
      · rcases List.mem_append.1 hy with hy | hy
        · exact (hx y hy).kept (fun k cs _ hk => hoth k _ cs hk (by decide) (by decide) (by decide))
        · obtain rfl := List.mem_singleton.1 hy
          exact HX.out.kept (fun k cs _ hk => hoth k _ cs hk (by decide) (by decide) (by decide))
    have HFIN := Lib.hid hfin
    have HW4 := Lib.hid hW4
    clear hfin ho4 hoth b1'' b2'' k2 b1' b2' k1 hrow hob hat hg3 ho3 hb hs b1 b2 hr hx hW4 hbx
    gi_wp2
    rw [← HW4.out]
    exact HFIN.out
  case done =>
    rintro D xs W hD' hxs hI hKd
    obtain ⟨hb, hs, b1, vr, b2, hr, hx⟩ := hI
    obtain ⟨Ar, cr, hvr⟩ := row_shape hr
    subst hvr
    have q1 : W.drew.cell? ⟨w.heap.size, 0, none⟩ = some (.slice Ar xs.length cr) := by show W.cell? _ = _; rw [b2.cell]; rfl
    have q2 : W.drew.cell? ⟨w.heap.size + 1, 0, none⟩ = some (.int .i64 (endR xs : Int)) := by show W.cell? _ = _; rw [b1.cell]; rfl
    have hbe := hb.drew.grown (grownBy_putObj' W.drew D (.deferred none)) hb.size (fun k e => by injection e with e; have := HS2.out; omega)
    have hne : ∀ k cs t, Blk W k t cs → Blk (W.drew.putObj D (.deferred none)) k t cs := fun k cs t hk => by
      have hkd : k ≠ D := by
        rintro rfl
        unfold Blk at hk
        rw [hk] at hKd
        injection hKd with hKd
        cases hKd
      unfold Blk at hk ⊢
      show (W.heap.setIfInBounds D _)[k]? = _
      rw [Array.getElem?_setIfInBounds_ne (Ne.symm hkd)]
      exact hk
    have HE := Lib.hid (show xs.map (·.2) = wholeP b ∧ (W.drew.putObj D (.deferred none)).ownsRow w.heap.size 22 1 (.slice Ar xs.length cr) xs.length (xs.map (·.1)) ∧ (∀ x ∈ xs, SlC w.heap.size (W.drew.putObj D (.deferred none)) x.1 x.2.1) ∧ Below w.heap.size w (W.drew.putObj D (.deferred none)) from ⟨hxs, by
      have h2 := row_kept hr (fun k cs hk => hne k cs _ hk)
      refine ⟨h2.1, ?_⟩
      rcases h2.2 with h | ⟨g, cap, cur, e1, e2, r⟩
      · exact .inl h
      · exact .inr ⟨g, cap, cur, e1, by have := HS2.out; omega, r⟩, fun x hx' => by
      obtain ⟨A, e, ha⟩ := (hx x hx').kept (fun k cs _ hk => hne k cs _ hk)
      refine ⟨A, e, fun hp => ?_⟩
      obtain ⟨b', o, cs, e2, hb', hc⟩ := ha hp
      exact ⟨b', o, cs, e2, ⟨by have := hb'.ge; have := HS2.out; omega, hb'.blk⟩, hc⟩, hbe⟩)
    have HK := Lib.hid (show W.drew.heap[D]? = some (.deferred (some [])) from hKd)
    clear hb hs b1 b2 hr hx hKd hbe hne hxs
    gi_wp2_with fail
    gi_region
    gi_wp2
    refine ⟨by simp, .inl ⟨_, _, rfl, run_takeDeferred HK.out, ?_⟩⟩
    exact ⟨_, results_tmp2 rfl _ _ _, ⟨.slice Ar xs.length cr, xs, rfl, HE.out⟩⟩
end Go.Proofs.YtibifnknkphanaaGreatDoor

/-
  The law's once: a log's records gone over beside a list of bytes.
-/
import Derived.Test.YtibifnknkphanaaGreatDoorWRecsA
import Derived.Test.YtibifnknkphanaaGreatDoorWRefA
import Derived.BigQuiet
import Derived.Test.YtibifnknkphanaaGreatDoorRnd
namespace Go.Proofs.YtibifnknkphanaaGreatDoor
open Go.RowKit Go.Maps
open DskM WalM
set_option linter.unusedVariables false
set_option linter.unusedSimpArgs false
set_option maxRecDepth 100000
attribute [local go_sem] Oper.semAt_some

/-- A byte of a row of the call's own turned. -/
theorem wown_put {w : World} {base g n c : Nat} {e : TypeId} {l : List UInt8} (h : Own w base e (.slice (some ⟨g, 0, none⟩) n c) l) (k : Nat) (b : UInt8) : Own (w.setCell ⟨g, k, none⟩ (bv b)) base e (.slice (some ⟨g, 0, none⟩) n c) (l.set k b) := by
  obtain rfl : n = l.length := h.sl.len
  have := (World.ownsRow.stored h k (bv b)).1
  unfold Own
  rw [List.length_set, List.map_set]
  exact this
theorem wown_at {w : World} {base n c : Nat} {e : TypeId} {A : Option Addr} {l : List UInt8} (h : Own w base e (.slice A n c) l) (k : Nat) (hk : k < l.length) : ∃ g, A = some ⟨g, 0, none⟩ ∧ base ≤ g ∧ w.cell? ⟨g, k, none⟩ = some (.int .u8 (l[k].toNat : Int)) ∧ w.frozen? ⟨g, k, none⟩ = false := by
  have hn : n = l.length := h.sl.len
  rcases h.2 with ⟨e1, h0⟩ | ⟨g, cap, cur, e1, hg, hh, hnc, hm, hs, ht⟩
  · omega
  · injection e1 with a1 a2 a3
    have h' := h
    subst a1; subst hn
    refine ⟨g, rfl, hg, ?_, World.ownsRow.frozenAt h' k⟩
    rw [World.ownsRow.cellAt h' k (by omega), List.getElem?_map, List.getElem?_eq_getElem hk]
    rfl
theorem wwrap_u8 (x : Nat) (hx : x < 256) : ∃ b : UInt8, IntKind.u8.wrap ((x : Int) + 1) = (b.toNat : Int) := by
  refine ⟨UInt8.ofNat ((x + 1) % 256), ?_⟩
  have h1 : (UInt8.ofNat ((x + 1) % 256)).toNat = (x + 1) % 256 := by simp
  rw [h1]
  show ((x : Int) + 1) % 256 = _
  omega
def OnW (w : World) (hi : Nat) (vw : Value) (wls : List (List UInt8)) (pre : List RecV) (W : World) : Prop :=
  (Below w.heap.size w W ∧ hi ≤ W.heap.size) ∧ Blk W w.heap.size 27 #[vw] ∧ Blk W (w.heap.size + 1) 3 #[.int .i64 0] ∧ Blk W (w.heap.size + 1 + 1) 4 #[.bool false] ∧ Blk W (w.heap.size + 1 + 1 + 1) 3 #[.int .i64 (pre.length : Int)] ∧
    pre.map (·.2) = wls.take pre.length ∧ pre.length ≤ wls.length
def OnXW (w : World) (wls : List (List UInt8)) (c : Code) (pre : List RecV) (W : World) : Prop :=
  Below w.heap.size w W ∧ c = .ret ∧ Blk W (w.heap.size + 1 + 1) 4 #[.bool false] ∧ ¬ (pre.map (·.2) = wls.take pre.length ∧ pre.length ≤ wls.length)
theorem blk_putw {W : World} {l : Nat} {o o' : Obj} (ho : W.heap[l]? = some o) (hc : o.isCells = false) : ∀ k t cs, Blk W k t cs → Blk (W.putObj l o') k t cs := fun k t cs hk => by
  have hne : k ≠ l := by
    rintro rfl
    unfold Blk at hk
    rw [hk] at ho
    injection ho with ho
    rw [← ho] at hc
    cases hc
  unfold Blk at hk ⊢
  show (W.heap.setIfInBounds l o')[k]? = _
  rw [Array.getElem?_setIfInBounds_ne (Ne.symm hne)]
  exact hk
theorem OnW.abs {w : World} {hi B : Nat} {vw : Value} {wls : List (List UInt8)} (hB : w.heap.size ≤ B) (hh : w.heap.size + 4 ≤ hi) : Abs B StR (OnW w hi vw wls) := by
  refine ⟨?_, ?_, ?_⟩
  · rintro pre W l o o' ⟨⟨hb, hs⟩, b1, b2, b3, b4, h⟩ hl hlo hc _
    have hk := blk_putw (o' := o') hlo hc
    exact ⟨⟨hb.grown (grownBy_putObj' W l o') hb.size (fun k e => by injection e with e; omega), Nat.le_trans hs (grownBy_putObj' W l o').size⟩, hk _ _ _ b1, hk _ _ _ b2, hk _ _ _ b3, hk _ _ _ b4, h⟩
  · rintro pre W o ⟨⟨hb, hs⟩, b1, b2, b3, b4, h⟩
    exact ⟨⟨hb.alloc hb.size _, Nat.le_trans hs (by simp)⟩, b1.alloc _, b2.alloc _, b3.alloc _, b4.alloc _, h⟩
  · rintro pre A B' ⟨⟨hb, hs⟩, b1, b2, b3, b4, h⟩ hst
    exact ⟨⟨hb.trans (Below.mono hst hb.size), Nat.le_trans hs hst.size⟩, b1.below hst b1.lt, b2.below hst b2.lt, b3.below hst b3.lt, b4.below hst b4.lt, h⟩
theorem OnXW.abs {w : World} {B : Nat} {wls : List (List UInt8)} (hB : w.heap.size ≤ B) (c : Code) : Abs B StR (OnXW w wls c) := by
  refine ⟨?_, ?_, ?_⟩
  · rintro pre W l o o' ⟨hb, hc0, b3, h⟩ hl hlo hc _
    exact ⟨hb.grown (grownBy_putObj' W l o') hb.size (fun k e => by injection e with e; omega), hc0, blk_putw hlo hc _ _ _ b3, h⟩
  · rintro pre W o ⟨hb, hc0, b3, h⟩
    exact ⟨hb.alloc hb.size _, hc0, b3.alloc _, h⟩
  · rintro pre A B' ⟨hb, hc0, b3, h⟩ hst
    exact ⟨hb.trans (Below.mono hst hb.size), hc0, b3.below hst b3.lt, h⟩
theorem wfunc_nil (f : Nat) (caps : Array Value) (w : World) : (binOp .eql 112 (.func (.func f) #[] caps) .nilFunc).run Tryz.prog w = .ok (.bool false) w := by kernel_rfl
set_option maxHeartbeats 8000000 in
theorem wonce_any (T X : Nat → Prop) (P : Option Addr) (w : World) (ls wls : List (List UInt8)) (vw : Value) (hr : RecsOk T X w P ls) (hT : ∀ k, T k → k < w.heap.size) (hl : ls.length ≤ 2000001) (hll : ∀ l ∈ ls, l.length ≤ 1000000000) (hw : Sls w vw wls) :
    Calls Tryz.prog 43 #[.pointer P, vw, .int .i64 0] w fun e w' => e = .returned (.bool (decide (ls = wls))) ∧ Below w.heap.size w w' := by
  have hfo : Tryz.prog.follows .mixedOrders = true := by kernel_rfl
  have hfn := wfunc_nil
  obtain ⟨AL, cL, hvw, hcL, hWL⟩ := hw
  subst hvw
  obtain ⟨W4, hW4⟩ : ∃ W4, W4 = (((w.alloc (.cells #[.slice AL wls.length cL] 27)).alloc (.cells #[.int .i64 0] 3)).alloc (.cells #[.bool false] 4)).alloc (.cells #[.int .i64 0] 3) := ⟨_, rfl⟩
  have hb4 : Below w.heap.size w W4 := by rw [hW4]; exact (((((Below.refl _ _).alloc (Nat.le_refl _) _).alloc (by simp) _).alloc (by simp; omega) _).alloc (by simp; omega) _)
  have hz4 : W4.heap.size = w.heap.size + 4 := by rw [hW4]; simp
  have h1 : Blk W4 w.heap.size 27 #[.slice AL wls.length cL] := by rw [hW4]; exact (((Blk.new w _ _).alloc _).alloc _).alloc _
  have h2 : Blk W4 (w.heap.size + 1) 3 #[.int .i64 0] := by
    have := ((Blk.new (w.alloc (.cells #[.slice AL wls.length cL] 27)) 3 #[.int .i64 0]).alloc (.cells #[.bool false] 4)).alloc (.cells #[.int .i64 0] 3)
    rw [World.size_alloc] at this
    rw [hW4]; exact this
  have h3 : Blk W4 (w.heap.size + 1 + 1) 4 #[.bool false] := by
    have := (Blk.new ((w.alloc (.cells #[.slice AL wls.length cL] 27)).alloc (.cells #[.int .i64 0] 3)) 4 #[.bool false]).alloc (.cells #[.int .i64 0] 3)
    rw [World.size_alloc, World.size_alloc] at this
    rw [hW4]; exact this
  have h4 : Blk W4 (w.heap.size + 1 + 1 + 1) 3 #[.int .i64 0] := by
    have := Blk.new (((w.alloc (.cells #[.slice AL wls.length cL] 27)).alloc (.cells #[.int .i64 0] 3)).alloc (.cells #[.bool false] 4)) 3 #[.int .i64 0]
    rw [World.size_alloc, World.size_alloc, World.size_alloc] at this
    rw [hW4]; exact this
  have hcf := hr W4 hb4
  rw [hW4] at hcf
  have HW4 := Lib.hid hW4
  have HB4 := Lib.hid hb4
  have HZ4 := Lib.hid hz4
  have HI := Lib.hid (And.intro h1 (And.intro h2 (And.intro h3 h4)))
  have HWL := Lib.hid hWL
  have HL := Lib.hid (And.intro hl (And.intro hll hT))
  clear hW4 hb4 hz4 h1 h2 h3 h4 hr hWL hl hll hT
  refine (callsIn_wide (n := 8)).1 ?_
  refine callsIn_of_wp_marks Tryz.func43 rfl trivial ?_ rfl
  simp only [Tryz.ntmps43, List.size_toArray, List.length_cons, List.length_nil, Nat.reduceAdd, Nat.reduceSub, Array.replicate_succ, Array.replicate_zero, List.push_toArray, List.append_toArray, List.nil_append, List.cons_append]
  gi_wp2_with fail
  refine ⟨trivial, (callsIn_wide.2 hcf).mono ?_⟩
  rintro e w5 ⟨rfl, ⟨v, hbx, hrow⟩, hb5⟩
  clear hcf
  rw [← HW4.out] at hbx hb5 ⊢
  have hz5 : W4.heap.size < w5.heap.size := hbx.lt
  have HSEQ := Lib.hid (rec_seq 7 (by omega) T X W4.heap.size v ls HL.out.1 HL.out.2.1 w5 hbx (fun k hk => by have := HL.out.2.2 k hk; have := HZ4.out; omega) hrow)
  have hI0 : OnW w w5.heap.size (.slice AL wls.length cL) wls [] w5 :=
    ⟨⟨HB4.out.trans (hb5.mono HB4.out.size), Nat.le_refl _⟩, HI.out.1.below hb5 HI.out.1.lt, HI.out.2.1.below hb5 HI.out.2.1.lt, HI.out.2.2.1.below hb5 HI.out.2.2.1.lt, HI.out.2.2.2.below hb5 HI.out.2.2.2.lt, rfl, Nat.zero_le _⟩
  have HI0 := Lib.hid hI0
  have HZ := Lib.hid (show W4.heap.size = w.heap.size + 4 ∧ W4.heap.size < w5.heap.size from ⟨HZ4.out, hz5⟩)
  clear hrow hbx hI0 hb5 hz5
  gi_wp2_with fail
  refine' range_x rfl (by omega) (gf := 114) (lb := #[.pointer (some ⟨W4.heap.size, 0, none⟩)]) rfl trivial recFn_enters HSEQ.out StR.quiet (fun {A B C} h k => KpR.trans h k) ?hKb (Below.refl _ _) (fun _ => rfl) ?hX
    (OnW w w5.heap.size (.slice AL wls.length cL) wls) (OnXW w wls) (OnW.abs (by have := HZ.out; omega) (by have := HZ.out; omega)) (OnXW.abs (by have := HZ.out; omega)) HI0.out _ ?assign ?body ?done ?stop
  case hKb =>
    intro W l o o' hl ho hc _
    have hz := HZ.out
    have hput := blk_putw (o' := o') ho hc
    refine ⟨(grownBy_putObj' W l o').size, fun k cs _ => hput k _ cs, ?_, fun k hk => ?_⟩
    · show (W.heap.setIfInBounds l o')[W4.heap.size]? = _
      rw [Array.getElem?_setIfInBounds_ne (by omega)]
    · show (W.heap.setIfInBounds l o')[k]? = _
      rw [Array.getElem?_setIfInBounds_ne (by have := HL.out.2.2 k hk; omega)]
  case hX =>
    intro x W l o o' hx ho hc
    exact row_kept hx (fun k cs => blk_putw ho hc k _ cs)
  case assign =>
    intro l x W K hK
    dsimp only [encV]
    gi_wp2
    exact hK
  case body =>
    intro l pre x W hI hX hlen
    obtain ⟨⟨hb, hs⟩, b1, b2, b3, b4, hpre, hple⟩ := hI
    obtain ⟨xv, xl⟩ := x
    dsimp only at hX ⊢
    obtain ⟨Ax, cx, hxv, hcx⟩ : ∃ A c, xv = .slice A xl.length c ∧ xl.length ≤ c := by obtain ⟨A, c, e, h, _⟩ := hX.sl; exact ⟨A, c, e, h⟩
    subst hxv
    have q1 : W.cell? ⟨w.heap.size, 0, none⟩ = some (.slice AL wls.length cL) := by rw [b1.cell]; rfl
    have q2 : W.cell? ⟨w.heap.size + 1, 0, none⟩ = some (.int .i64 0) := by rw [b2.cell]; rfl
    have q4 : W.cell? ⟨w.heap.size + 1 + 1 + 1, 0, none⟩ = some (.int .i64 (pre.length : Int)) := by rw [b4.cell]; rfl
    have z3 := b3.frozen 0
    have q3 : W.cell? ⟨w.heap.size + 1 + 1, 0, none⟩ = some (.bool false) := by rw [b3.cell]; rfl
    have HX := Lib.hid hX
    have hxl : xl.length ≤ 9223372036854775807 := by
      rcases hX.2 with ⟨_, h0⟩ | ⟨g, cap, cur, e, _, _, h1, h2, _⟩
      · omega
      · unfold maxLen at h2; omega
    have hcxl : cx ≤ 9223372036854775807 := by
      rcases hX.2 with ⟨e, _⟩ | ⟨g, cap, cur, e, _, _, h1, h2, _⟩
      · injection e with _ _ e; omega
      · injection e with _ _ e; unfold maxLen at h2; omega
    have HB := Lib.hid (And.intro hb (And.intro hs (And.intro b1 (And.intro b2 (And.intro b3 b4)))))
    have HPRE := Lib.hid (And.intro hpre hple)
    have hpl : pre.length ≤ 2000001 := by have := HL.out.1; omega
    have HPL := Lib.hid hlen
    clear hb hs b1 b2 b3 b4 hpre hple hX hlen
    obtain ⟨n, hn⟩ : ∃ n, n = pre.length := ⟨_, rfl⟩
    rw [← hn] at q4 hpl
    have HN := Lib.hid hn
    clear hn
    have hbad : (∀ X', Keep (fun i => i = w.heap.size + 1 + 1) W X' → Blk X' (w.heap.size + 1 + 1) 4 #[.bool false] → ¬ ((pre ++ [((.slice Ax xl.length cx : Value), xl)]).map (·.2) = wls.take (pre ++ [((.slice Ax xl.length cx : Value), xl)]).length ∧ (pre ++ [((.slice Ax xl.length cx : Value), xl)]).length ≤ wls.length) →
        KeepsFrom w5.heap.size W X' ∧ OnXW w wls .ret (pre ++ [((.slice Ax xl.length cx : Value), xl)]) X') := fun X' hk hb3 hne => by
      obtain ⟨hb, hs, b1, b2, b3, b4⟩ := HB.out
      exact ⟨⟨hk.size, fun i o hi' ho' hc => (hk.block i (Array.getElem?_eq_some_iff.1 ho').1 (fun e => by have := HZ.out; omega)).trans ho'⟩, Keep.below hb hk hb.size (fun i e => by omega), rfl, hb3, hne⟩
    have HBAD := Lib.hid hbad
    clear hbad
    by_cases hlt : n < wls.length
    · obtain ⟨bw, ow, hAL, hxw⟩ := HWL.out (by omega)
      subst hAL
      obtain ⟨vy, hcy, hsy⟩ := hxw n hlt
      have hcyW := (HB.out.1.cell (World.block_lt_of_cell? w _ hcy)).trans hcy
      have hsyW := hsy.below HB.out.1
      obtain ⟨Ay, ny, cy, hvy⟩ := hsy.shape
      subst hvy
      have HC := Lib.hid (fun Y (k : Below W.heap.size W Y) => And.intro ((k.cell (World.block_lt_of_cell? W _ q1)).trans q1) (And.intro ((k.cell (World.block_lt_of_cell? W _ q4)).trans q4) ((k.cell (World.block_lt_of_cell? W _ hcyW)).trans hcyW)))
      have HSX := Lib.hid (show ∀ Y, Below W.heap.size W Y → Sl Y (.slice Ax xl.length cx) xl from fun Y k => HX.out.sl.below k)
      have HSY := Lib.hid (show ∀ Y, Below W.heap.size W Y → Sl Y (.slice Ay ny cy) wls[n] from fun Y k => hsyW.below k)
      have HSTEP := Lib.hid (show xl = wls[n] → (pre ++ [((.slice Ax xl.length cx : Value), xl)]).map (·.2) = wls.take (pre ++ [((.slice Ax xl.length cx : Value), xl)]).length ∧ (pre ++ [((.slice Ax xl.length cx : Value), xl)]).length ≤ wls.length from fun e => by
        rw [List.length_append, List.length_singleton, ← HN.out, List.take_succ_eq_append_getElem hlt, List.map_append, HPRE.out.1, ← HN.out]
        refine ⟨?_, by omega⟩
        congr 1
        show [xl] = [wls[n]]
        rw [e])
      have HNE := Lib.hid (show xl ≠ wls[n] → ¬ ((pre ++ [((.slice Ax xl.length cx : Value), xl)]).map (·.2) = wls.take (pre ++ [((.slice Ax xl.length cx : Value), xl)]).length ∧ (pre ++ [((.slice Ax xl.length cx : Value), xl)]).length ≤ wls.length) from fun e h => by
        have h1 := h.1
        rw [List.length_append, List.length_singleton, ← HN.out, List.take_succ_eq_append_getElem hlt, List.map_append] at h1
        have h2 := (List.append_inj' h1 rfl).2
        injection h2 with h2
        exact e h2)
      obtain ⟨y, hy⟩ : ∃ y, y = wls[n] := ⟨_, rfl⟩
      rw [← hy] at HSY HSTEP HNE
      obtain ⟨sx, hsx⟩ : ∃ sx : ByteArray, (⟨xl.toArray⟩ : ByteArray) = sx := ⟨_, rfl⟩
      obtain ⟨sy, hsy2⟩ : ∃ sy : ByteArray, (⟨y.toArray⟩ : ByteArray) = sy := ⟨_, rfl⟩
      have HBQ := Lib.hid (show ∀ q, decide (xl = y) = q → (!sx.toList == sy.toList) = !q from fun q hq => by rw [← hsx, ← hsy2, bytes_beq, hq])
      have HSX2 := Lib.hid hsx
      have HSY2 := Lib.hid hsy2
      have hnd : decide ((wls.length : Int) ≤ (n : Int)) = false := decide_eq_false (by omega)
      have hnd2 : decide (wls.length ≤ n) = false := decide_eq_false (by omega)
      have hni : (n : Int) < (wls.length : Int) := by omega
      have hn0 : (0 : Int) ≤ (n : Int) := by omega
      have HLT := Lib.hid hlt
      clear hy hsx hsy2 hsy hcy hcyW hsyW hxw hlt
      cases hq : decide (xl = y) with
      | false =>
        have HE := Lib.hid (HNE.out (of_decide_eq_false hq))
        have HQ := Lib.hid (HBQ.out _ hq)
        clear hq HBQ HNE HSTEP
        gi_wp2_with fail
        have HB9 := Lib.hid (show ∀ X, Below W.heap.size W.drew X → Below W.heap.size W X from fun X hX => (Below.refl _ W).drew.trans hX)
        refine wpIn_region_held_round (S := fun X => Below W.heap.size W.drew X) hfo (by kernel_rfl) (fun _ _ h => h) (Below.refl _ _) (fun hS0 => ?_)
        obtain ⟨Z0, hZ0⟩ : ∃ Z0, Z0 = W.drew := ⟨_, rfl⟩
        rw [← hZ0] at hS0 HB9 ⊢
        clear hZ0
        refine' wpAnyH_take (i := 0) (oi := ⟨some 17, _, _, _, _, _⟩) (v := _) rfl (by kernel_rfl) (by kernel_rfl) (by kernel_rfl) (fun _ _ _ h => h) (Or.inl ⟨by rfl, ?y0f⟩) hS0 ?r0f
        case y0f => (intro w' hSw; obtain ⟨s1, s2, s3⟩ := HC.out w' (HB9.out w' hSw); have e1 := conv_w (HSX.out w' (HB9.out w' hSw)) HSX2.out; have e2 := conv_w (HSY.out w' (HB9.out w' hSw)) HSY2.out; go_simp; try rfl)
        try simp only [Act.put, List.setIfInBounds_toArray, List.set_cons_zero, List.set_cons_succ, HQ.out, Bool.not_true, Bool.not_false]
        refine' wpAnyH_take (i := 1) (oi := ⟨some 18, _, _, _, _, _⟩) (v := _) rfl (by kernel_rfl) (by kernel_rfl) (by kernel_rfl) (fun _ _ _ h => h) (Or.inl ⟨by rfl, ?y1f⟩) hS0 ?r1f
        case y1f => (intro w' hSw; obtain ⟨s1, s2, s3⟩ := HC.out w' (HB9.out w' hSw); have e1 := conv_w (HSX.out w' (HB9.out w' hSw)) HSX2.out; have e2 := conv_w (HSY.out w' (HB9.out w' hSw)) HSY2.out; go_simp; try rfl)
        try simp only [Act.put, List.setIfInBounds_toArray, List.set_cons_zero, List.set_cons_succ, HQ.out, Bool.not_true, Bool.not_false]
        refine' wpAnyH_take (i := 2) (oi := ⟨some 19, _, _, _, _, _⟩) (v := _) rfl (by kernel_rfl) (by kernel_rfl) (by kernel_rfl) (fun _ _ _ h => h) (Or.inl ⟨by rfl, ?y2f⟩) hS0 ?r2f
        case y2f => (intro w' hSw; obtain ⟨s1, s2, s3⟩ := HC.out w' (HB9.out w' hSw); have e1 := conv_w (HSX.out w' (HB9.out w' hSw)) HSX2.out; have e2 := conv_w (HSY.out w' (HB9.out w' hSw)) HSY2.out; go_simp; try rfl)
        try simp only [Act.put, List.setIfInBounds_toArray, List.set_cons_zero, List.set_cons_succ, HQ.out, Bool.not_true, Bool.not_false]
        refine' wpAnyH_take (i := 3) (oi := ⟨some 20, _, _, _, _, _⟩) (v := _) rfl (by kernel_rfl) (by kernel_rfl) (by kernel_rfl) (fun _ _ _ h => h) (Or.inl ⟨by rfl, ?y3f⟩) hS0 ?r3f
        case y3f => (intro w' hSw; obtain ⟨s1, s2, s3⟩ := HC.out w' (HB9.out w' hSw); have e1 := conv_w (HSX.out w' (HB9.out w' hSw)) HSX2.out; have e2 := conv_w (HSY.out w' (HB9.out w' hSw)) HSY2.out; go_simp; try rfl)
        try simp only [Act.put, List.setIfInBounds_toArray, List.set_cons_zero, List.set_cons_succ, HQ.out, Bool.not_true, Bool.not_false]
        refine' wpAnyH_take (i := 4) (oi := ⟨some 21, _, _, _, _, _⟩) (v := _) rfl (by kernel_rfl) (by kernel_rfl) (by kernel_rfl) (fun _ _ _ h => h) (Or.inl ⟨by rfl, ?y4f⟩) hS0 ?r4f
        case y4f => (intro w' hSw; obtain ⟨s1, s2, s3⟩ := HC.out w' (HB9.out w' hSw); have e1 := conv_w (HSX.out w' (HB9.out w' hSw)) HSX2.out; have e2 := conv_w (HSY.out w' (HB9.out w' hSw)) HSY2.out; go_simp; try rfl)
        try simp only [Act.put, List.setIfInBounds_toArray, List.set_cons_zero, List.set_cons_succ, HQ.out, Bool.not_true, Bool.not_false]
        refine' wpAnyH_take (i := 5) (oi := ⟨some 22, _, _, _, _, _⟩) (v := _) rfl (by kernel_rfl) (by kernel_rfl) (by kernel_rfl) (fun _ _ _ h => h) (Or.inl ⟨by rfl, ?y5f⟩) hS0 ?r5f
        case y5f => (intro w' hSw; obtain ⟨s1, s2, s3⟩ := HC.out w' (HB9.out w' hSw); have e1 := conv_w (HSX.out w' (HB9.out w' hSw)) HSX2.out; have e2 := conv_w (HSY.out w' (HB9.out w' hSw)) HSY2.out; go_simp; try rfl)
        try simp only [Act.put, List.setIfInBounds_toArray, List.set_cons_zero, List.set_cons_succ, HQ.out, Bool.not_true, Bool.not_false]
        refine' wpAnyH_take (i := 6) (oi := ⟨some 23, _, _, _, _, _⟩) (v := _) rfl (by kernel_rfl) (by kernel_rfl) (by kernel_rfl) (fun _ _ _ h => h) (Or.inl ⟨by rfl, ?y6f⟩) hS0 ?r6f
        case y6f => (intro w' hSw; obtain ⟨s1, s2, s3⟩ := HC.out w' (HB9.out w' hSw); have e1 := conv_w (HSX.out w' (HB9.out w' hSw)) HSX2.out; have e2 := conv_w (HSY.out w' (HB9.out w' hSw)) HSY2.out; go_simp; try rfl)
        try simp only [Act.put, List.setIfInBounds_toArray, List.set_cons_zero, List.set_cons_succ, HQ.out, Bool.not_true, Bool.not_false]
        refine' wpAnyH_take (i := 7) (oi := ⟨some 24, _, _, _, _, _⟩) (v := _) rfl (by kernel_rfl) (by kernel_rfl) (by kernel_rfl) (fun _ _ _ h => h) (Or.inl ⟨by rfl, ?y7f⟩) hS0 ?r7f
        case y7f => (intro w' hSw; obtain ⟨s1, s2, s3⟩ := HC.out w' (HB9.out w' hSw); have e1 := conv_w (HSX.out w' (HB9.out w' hSw)) HSX2.out; have e2 := conv_w (HSY.out w' (HB9.out w' hSw)) HSY2.out; go_simp; try rfl)
        try simp only [Act.put, List.setIfInBounds_toArray, List.set_cons_zero, List.set_cons_succ, HQ.out, Bool.not_true, Bool.not_false]
        refine' wpAnyH_take (i := 8) (oi := ⟨some 25, _, _, _, _, _⟩) (v := _) rfl (by kernel_rfl) (by kernel_rfl) (by kernel_rfl) (fun _ _ _ h => h) (Or.inl ⟨by rfl, ?y8f⟩) hS0 ?r8f
        case y8f => (intro w' hSw; obtain ⟨s1, s2, s3⟩ := HC.out w' (HB9.out w' hSw); have e1 := conv_w (HSX.out w' (HB9.out w' hSw)) HSX2.out; have e2 := conv_w (HSY.out w' (HB9.out w' hSw)) HSY2.out; go_simp; try rfl)
        try simp only [Act.put, List.setIfInBounds_toArray, List.set_cons_zero, List.set_cons_succ, HQ.out, Bool.not_true, Bool.not_false]
        refine' wpAnyH_take (i := 9) (oi := ⟨some 26, _, _, _, _, _⟩) (v := _) rfl (by kernel_rfl) (by kernel_rfl) (by kernel_rfl) (fun _ _ _ h => h) (Or.inl ⟨by rfl, ?y9f⟩) hS0 ?r9f
        case y9f => (intro w' hSw; obtain ⟨s1, s2, s3⟩ := HC.out w' (HB9.out w' hSw); have e1 := conv_w (HSX.out w' (HB9.out w' hSw)) HSX2.out; have e2 := conv_w (HSY.out w' (HB9.out w' hSw)) HSY2.out; go_simp; try rfl)
        try simp only [Act.put, List.setIfInBounds_toArray, List.set_cons_zero, List.set_cons_succ, HQ.out, Bool.not_true, Bool.not_false]
        refine' wpAnyH_take (i := 10) (oi := ⟨some 27, _, _, _, _, _⟩) (v := _) rfl (by kernel_rfl) (by kernel_rfl) (by kernel_rfl) (fun _ _ _ h => h) (Or.inl ⟨by rfl, ?y10f⟩) hS0 ?r10f
        case y10f => (intro w' hSw; obtain ⟨s1, s2, s3⟩ := HC.out w' (HB9.out w' hSw); have e1 := conv_w (HSX.out w' (HB9.out w' hSw)) HSX2.out; have e2 := conv_w (HSY.out w' (HB9.out w' hSw)) HSY2.out; go_simp; try rfl)
        try simp only [Act.put, List.setIfInBounds_toArray, List.set_cons_zero, List.set_cons_succ, HQ.out, Bool.not_true, Bool.not_false]
        refine' wpAnyH_take (i := 11) (oi := ⟨some 28, _, _, _, _, _⟩) (v := _) rfl (by kernel_rfl) (by kernel_rfl) (by kernel_rfl) (fun _ _ _ h => h) (Or.inl ⟨by rfl, ?y11f⟩) hS0 ?r11f
        case y11f => (intro w' hSw; obtain ⟨s1, s2, s3⟩ := HC.out w' (HB9.out w' hSw); have e1 := conv_w (HSX.out w' (HB9.out w' hSw)) HSX2.out; have e2 := conv_w (HSY.out w' (HB9.out w' hSw)) HSY2.out; go_simp; try rfl)
        try simp only [Act.put, List.setIfInBounds_toArray, List.set_cons_zero, List.set_cons_succ, HQ.out, Bool.not_true, Bool.not_false]
        refine' wpAnyH_take (i := 12) (oi := ⟨some 29, _, _, _, _, _⟩) (v := _) rfl (by kernel_rfl) (by kernel_rfl) (by kernel_rfl) (fun _ _ _ h => h) (Or.inl ⟨by rfl, ?y12f⟩) hS0 ?r12f
        case y12f => (intro w' hSw; obtain ⟨s1, s2, s3⟩ := HC.out w' (HB9.out w' hSw); have e1 := conv_w (HSX.out w' (HB9.out w' hSw)) HSX2.out; have e2 := conv_w (HSY.out w' (HB9.out w' hSw)) HSY2.out; go_simp; try rfl)
        try simp only [Act.put, List.setIfInBounds_toArray, List.set_cons_zero, List.set_cons_succ, HQ.out, Bool.not_true, Bool.not_false]
        refine' wpAnyH_take (i := 13) (oi := ⟨some 30, _, _, _, _, _⟩) (v := _) rfl (by kernel_rfl) (by kernel_rfl) (by kernel_rfl) (fun _ _ _ h => h) (Or.inl ⟨by rfl, ?y13f⟩) hS0 ?r13f
        case y13f => (intro w' hSw; obtain ⟨s1, s2, s3⟩ := HC.out w' (HB9.out w' hSw); have e1 := conv_w (HSX.out w' (HB9.out w' hSw)) HSX2.out; have e2 := conv_w (HSY.out w' (HB9.out w' hSw)) HSY2.out; go_simp; try rfl)
        try simp only [Act.put, List.setIfInBounds_toArray, List.set_cons_zero, List.set_cons_succ, HQ.out, Bool.not_true, Bool.not_false]
        refine wpAnyH_done (by kernel_rfl) ?_ _
        have hS : Below W.heap.size W Z0 := HB9.out _ hS0
        have hb3 : Blk Z0 (w.heap.size + 1 + 1) 4 #[.bool false] := HB.out.2.2.2.2.1.below hS HB.out.2.2.2.2.1.lt
        have q3' : Z0.cell? ⟨w.heap.size + 1 + 1, 0, none⟩ = some (.bool false) := by rw [hb3.cell]; rfl
        have z3' := hb3.frozen 0
        have HF := Lib.hid (HBAD.out (Z0.setCell ⟨w.heap.size + 1 + 1, 0, none⟩ (.bool false)) ((Keep.of_below (S := fun i => i = w.heap.size + 1 + 1) hS).trans (Keep.setCell (S := fun i => i = w.heap.size + 1 + 1) _ _ _ rfl) (fun _ h => h) (fun _ _ h => h)) (hb3.set_ 0 _) HE.out)
        clear hS hb3 hS0 HB9 HSX HSY HC HQ
        gi_wp2
        exact HF.out
      | true =>
        have HE := Lib.hid (HSTEP.out (of_decide_eq_true hq))
        have HQ := Lib.hid (HBQ.out _ hq)
        clear hq HBQ HNE HSTEP
        gi_wp2_with fail
        have HB9 := Lib.hid (show ∀ X, Below W.heap.size W.drew X → Below W.heap.size W X from fun X hX => (Below.refl _ W).drew.trans hX)
        refine wpIn_region_held_round (S := fun X => Below W.heap.size W.drew X) hfo (by kernel_rfl) (fun _ _ h => h) (Below.refl _ _) (fun hS0 => ?_)
        obtain ⟨Z0, hZ0⟩ : ∃ Z0, Z0 = W.drew := ⟨_, rfl⟩
        rw [← hZ0] at hS0 HB9 ⊢
        clear hZ0
        refine' wpAnyH_take (i := 0) (oi := ⟨some 17, _, _, _, _, _⟩) (v := _) rfl (by kernel_rfl) (by kernel_rfl) (by kernel_rfl) (fun _ _ _ h => h) (Or.inl ⟨by rfl, ?y0t⟩) hS0 ?r0t
        case y0t => (intro w' hSw; obtain ⟨s1, s2, s3⟩ := HC.out w' (HB9.out w' hSw); have e1 := conv_w (HSX.out w' (HB9.out w' hSw)) HSX2.out; have e2 := conv_w (HSY.out w' (HB9.out w' hSw)) HSY2.out; go_simp; try rfl)
        try simp only [Act.put, List.setIfInBounds_toArray, List.set_cons_zero, List.set_cons_succ, HQ.out, Bool.not_true, Bool.not_false]
        refine' wpAnyH_take (i := 1) (oi := ⟨some 18, _, _, _, _, _⟩) (v := _) rfl (by kernel_rfl) (by kernel_rfl) (by kernel_rfl) (fun _ _ _ h => h) (Or.inl ⟨by rfl, ?y1t⟩) hS0 ?r1t
        case y1t => (intro w' hSw; obtain ⟨s1, s2, s3⟩ := HC.out w' (HB9.out w' hSw); have e1 := conv_w (HSX.out w' (HB9.out w' hSw)) HSX2.out; have e2 := conv_w (HSY.out w' (HB9.out w' hSw)) HSY2.out; go_simp; try rfl)
        try simp only [Act.put, List.setIfInBounds_toArray, List.set_cons_zero, List.set_cons_succ, HQ.out, Bool.not_true, Bool.not_false]
        refine' wpAnyH_take (i := 2) (oi := ⟨some 19, _, _, _, _, _⟩) (v := _) rfl (by kernel_rfl) (by kernel_rfl) (by kernel_rfl) (fun _ _ _ h => h) (Or.inl ⟨by rfl, ?y2t⟩) hS0 ?r2t
        case y2t => (intro w' hSw; obtain ⟨s1, s2, s3⟩ := HC.out w' (HB9.out w' hSw); have e1 := conv_w (HSX.out w' (HB9.out w' hSw)) HSX2.out; have e2 := conv_w (HSY.out w' (HB9.out w' hSw)) HSY2.out; go_simp; try rfl)
        try simp only [Act.put, List.setIfInBounds_toArray, List.set_cons_zero, List.set_cons_succ, HQ.out, Bool.not_true, Bool.not_false]
        refine' wpAnyH_take (i := 3) (oi := ⟨some 20, _, _, _, _, _⟩) (v := _) rfl (by kernel_rfl) (by kernel_rfl) (by kernel_rfl) (fun _ _ _ h => h) (Or.inl ⟨by rfl, ?y3t⟩) hS0 ?r3t
        case y3t => (intro w' hSw; obtain ⟨s1, s2, s3⟩ := HC.out w' (HB9.out w' hSw); have e1 := conv_w (HSX.out w' (HB9.out w' hSw)) HSX2.out; have e2 := conv_w (HSY.out w' (HB9.out w' hSw)) HSY2.out; go_simp; try rfl)
        try simp only [Act.put, List.setIfInBounds_toArray, List.set_cons_zero, List.set_cons_succ, HQ.out, Bool.not_true, Bool.not_false]
        refine' wpAnyH_take (i := 4) (oi := ⟨some 21, _, _, _, _, _⟩) (v := _) rfl (by kernel_rfl) (by kernel_rfl) (by kernel_rfl) (fun _ _ _ h => h) (Or.inl ⟨by rfl, ?y4t⟩) hS0 ?r4t
        case y4t => (intro w' hSw; obtain ⟨s1, s2, s3⟩ := HC.out w' (HB9.out w' hSw); have e1 := conv_w (HSX.out w' (HB9.out w' hSw)) HSX2.out; have e2 := conv_w (HSY.out w' (HB9.out w' hSw)) HSY2.out; go_simp; try rfl)
        try simp only [Act.put, List.setIfInBounds_toArray, List.set_cons_zero, List.set_cons_succ, HQ.out, Bool.not_true, Bool.not_false]
        refine' wpAnyH_take (i := 5) (oi := ⟨some 22, _, _, _, _, _⟩) (v := _) rfl (by kernel_rfl) (by kernel_rfl) (by kernel_rfl) (fun _ _ _ h => h) (Or.inl ⟨by rfl, ?y5t⟩) hS0 ?r5t
        case y5t => (intro w' hSw; obtain ⟨s1, s2, s3⟩ := HC.out w' (HB9.out w' hSw); have e1 := conv_w (HSX.out w' (HB9.out w' hSw)) HSX2.out; have e2 := conv_w (HSY.out w' (HB9.out w' hSw)) HSY2.out; go_simp; try rfl)
        try simp only [Act.put, List.setIfInBounds_toArray, List.set_cons_zero, List.set_cons_succ, HQ.out, Bool.not_true, Bool.not_false]
        refine' wpAnyH_take (i := 6) (oi := ⟨some 23, _, _, _, _, _⟩) (v := _) rfl (by kernel_rfl) (by kernel_rfl) (by kernel_rfl) (fun _ _ _ h => h) (Or.inl ⟨by rfl, ?y6t⟩) hS0 ?r6t
        case y6t => (intro w' hSw; obtain ⟨s1, s2, s3⟩ := HC.out w' (HB9.out w' hSw); have e1 := conv_w (HSX.out w' (HB9.out w' hSw)) HSX2.out; have e2 := conv_w (HSY.out w' (HB9.out w' hSw)) HSY2.out; go_simp; try rfl)
        try simp only [Act.put, List.setIfInBounds_toArray, List.set_cons_zero, List.set_cons_succ, HQ.out, Bool.not_true, Bool.not_false]
        refine' wpAnyH_take (i := 7) (oi := ⟨some 24, _, _, _, _, _⟩) (v := _) rfl (by kernel_rfl) (by kernel_rfl) (by kernel_rfl) (fun _ _ _ h => h) (Or.inl ⟨by rfl, ?y7t⟩) hS0 ?r7t
        case y7t => (intro w' hSw; obtain ⟨s1, s2, s3⟩ := HC.out w' (HB9.out w' hSw); have e1 := conv_w (HSX.out w' (HB9.out w' hSw)) HSX2.out; have e2 := conv_w (HSY.out w' (HB9.out w' hSw)) HSY2.out; go_simp; try rfl)
        try simp only [Act.put, List.setIfInBounds_toArray, List.set_cons_zero, List.set_cons_succ, HQ.out, Bool.not_true, Bool.not_false]
        refine' wpAnyH_take (i := 8) (oi := ⟨some 25, _, _, _, _, _⟩) (v := _) rfl (by kernel_rfl) (by kernel_rfl) (by kernel_rfl) (fun _ _ _ h => h) (Or.inl ⟨by rfl, ?y8t⟩) hS0 ?r8t
        case y8t => (intro w' hSw; obtain ⟨s1, s2, s3⟩ := HC.out w' (HB9.out w' hSw); have e1 := conv_w (HSX.out w' (HB9.out w' hSw)) HSX2.out; have e2 := conv_w (HSY.out w' (HB9.out w' hSw)) HSY2.out; go_simp; try rfl)
        try simp only [Act.put, List.setIfInBounds_toArray, List.set_cons_zero, List.set_cons_succ, HQ.out, Bool.not_true, Bool.not_false]
        refine' wpAnyH_take (i := 9) (oi := ⟨some 26, _, _, _, _, _⟩) (v := _) rfl (by kernel_rfl) (by kernel_rfl) (by kernel_rfl) (fun _ _ _ h => h) (Or.inl ⟨by rfl, ?y9t⟩) hS0 ?r9t
        case y9t => (intro w' hSw; obtain ⟨s1, s2, s3⟩ := HC.out w' (HB9.out w' hSw); have e1 := conv_w (HSX.out w' (HB9.out w' hSw)) HSX2.out; have e2 := conv_w (HSY.out w' (HB9.out w' hSw)) HSY2.out; go_simp; try rfl)
        try simp only [Act.put, List.setIfInBounds_toArray, List.set_cons_zero, List.set_cons_succ, HQ.out, Bool.not_true, Bool.not_false]
        refine' wpAnyH_take (i := 10) (oi := ⟨some 27, _, _, _, _, _⟩) (v := _) rfl (by kernel_rfl) (by kernel_rfl) (by kernel_rfl) (fun _ _ _ h => h) (Or.inl ⟨by rfl, ?y10t⟩) hS0 ?r10t
        case y10t => (intro w' hSw; obtain ⟨s1, s2, s3⟩ := HC.out w' (HB9.out w' hSw); have e1 := conv_w (HSX.out w' (HB9.out w' hSw)) HSX2.out; have e2 := conv_w (HSY.out w' (HB9.out w' hSw)) HSY2.out; go_simp; try rfl)
        try simp only [Act.put, List.setIfInBounds_toArray, List.set_cons_zero, List.set_cons_succ, HQ.out, Bool.not_true, Bool.not_false]
        refine' wpAnyH_take (i := 11) (oi := ⟨some 28, _, _, _, _, _⟩) (v := _) rfl (by kernel_rfl) (by kernel_rfl) (by kernel_rfl) (fun _ _ _ h => h) (Or.inl ⟨by rfl, ?y11t⟩) hS0 ?r11t
        case y11t => (intro w' hSw; obtain ⟨s1, s2, s3⟩ := HC.out w' (HB9.out w' hSw); have e1 := conv_w (HSX.out w' (HB9.out w' hSw)) HSX2.out; have e2 := conv_w (HSY.out w' (HB9.out w' hSw)) HSY2.out; go_simp; try rfl)
        try simp only [Act.put, List.setIfInBounds_toArray, List.set_cons_zero, List.set_cons_succ, HQ.out, Bool.not_true, Bool.not_false]
        refine' wpAnyH_take (i := 12) (oi := ⟨some 29, _, _, _, _, _⟩) (v := _) rfl (by kernel_rfl) (by kernel_rfl) (by kernel_rfl) (fun _ _ _ h => h) (Or.inl ⟨by rfl, ?y12t⟩) hS0 ?r12t
        case y12t => (intro w' hSw; obtain ⟨s1, s2, s3⟩ := HC.out w' (HB9.out w' hSw); have e1 := conv_w (HSX.out w' (HB9.out w' hSw)) HSX2.out; have e2 := conv_w (HSY.out w' (HB9.out w' hSw)) HSY2.out; go_simp; try rfl)
        try simp only [Act.put, List.setIfInBounds_toArray, List.set_cons_zero, List.set_cons_succ, HQ.out, Bool.not_true, Bool.not_false]
        refine' wpAnyH_take (i := 13) (oi := ⟨some 30, _, _, _, _, _⟩) (v := _) rfl (by kernel_rfl) (by kernel_rfl) (by kernel_rfl) (fun _ _ _ h => h) (Or.inl ⟨by rfl, ?y13t⟩) hS0 ?r13t
        case y13t => (intro w' hSw; obtain ⟨s1, s2, s3⟩ := HC.out w' (HB9.out w' hSw); have e1 := conv_w (HSX.out w' (HB9.out w' hSw)) HSX2.out; have e2 := conv_w (HSY.out w' (HB9.out w' hSw)) HSY2.out; go_simp; try rfl)
        try simp only [Act.put, List.setIfInBounds_toArray, List.set_cons_zero, List.set_cons_succ, HQ.out, Bool.not_true, Bool.not_false]
        refine wpAnyH_done (by kernel_rfl) ?_ _
        have hS : Below W.heap.size W Z0 := HB9.out _ hS0
        have HS := Lib.hid hS
        clear hS hS0 HB9 HSX HSY HC HQ q1 q2 q3 q4 z3
        gi_wp2_with fail
        gi_loopw [10] (fun z wr => ∃ (j : Nat) (bs : List UInt8), j ≤ xl.length ∧ z = .int .i64 (j : Int) ∧ bs.length = xl.length ∧ Own wr w5.heap.size 5 (.slice Ax xl.length cx) bs ∧ Keep (fun k => (Value.slice Ax xl.length cx).ownBlock = some k) Z0 wr) (fun z _ => xl.length - (intOf z).toNat)
        case atStart => exact ⟨0, xl, Nat.zero_le _, rfl, rfl, HX.out.keep (fun k hk => HS.out.block k (HX.out.lt k hk).2), Keep.refl _ _⟩
        case round =>
          obtain ⟨j, bs, hj, rfl, hbl, ho, hkk⟩ := hrel
          have HO5 := Lib.hid ho
          have HKK := Lib.hid hkk
          have HBL := Lib.hid hbl
          clear ho hkk
          by_cases hltj : j < xl.length
          · have hltI : (j : Int) < (xl.length : Int) := by omega
            have hj0 : (0 : Int) ≤ (j : Int) := by omega
            have hj24 : (j : Int) < 9223372036854775807 := by omega
            obtain ⟨g9, hA9, hg9, y0, y1⟩ := wown_at HO5.out j (by omega)
            subst hA9
            obtain ⟨x, hx⟩ : ∃ x, x = (bs[j]'(by omega)).toNat := ⟨_, rfl⟩
            have y9 : wr.cell? ⟨g9, j, none⟩ = some (.int .u8 (x : Int)) := y0.trans (congrArg (fun z => some (Value.int .u8 ((z : Nat) : Int))) hx.symm)
            have hx256 : x < 256 := by rw [hx]; exact UInt8.toNat_lt _
            clear y0
            obtain ⟨b9, hw9⟩ := wwrap_u8 x hx256
            have hO6 := wown_put HO5.out j b9
            unfold bv at hO6
            have HO6 := Lib.hid hO6
            have HB6 := Lib.hid (HKK.out.trans (U := fun k => (Value.slice (some ⟨g9, 0, none⟩) xl.length cx).ownBlock = some k) (Keep.setCell (S := fun k => k = g9) wr ⟨g9, j, none⟩ (.int .u8 (b9.toNat : Int)) rfl) (fun _ h => h) (fun i _ e => by rw [e]; rfl))
            have hwj : IntKind.i64.wrap ((j : Int) + 1) = (j : Int) + 1 := by rw [IntKind.wrap_i64] <;> omega
            have HLTJ := Lib.hid hltj
            clear hO6 hx hbl hg9 hltj hj
            gi_wp2
            go_roundw
            case rel => exact ⟨j + 1, bs.set j b9, HLTJ.out, by go_num, by rw [List.length_set]; exact HBL.out, HO6.out, HB6.out⟩
            case measure => have := HLTJ.out; simp [intOf]; omega
          · obtain rfl : j = xl.length := by omega
            obtain ⟨hb, hs, b1, b2, b3, b4⟩ := HB.out
            have hz := HZ.out
            have hown : ∀ k, (Value.slice Ax xl.length cx).ownBlock = some k → w5.heap.size ≤ k ∧ ∃ cs, Blk W k 5 cs := fun k e => ⟨(HX.out.lt k e).1, HX.out.isRow e⟩
            have hk1 : Keep (fun k => (Value.slice Ax xl.length cx).ownBlock = some k) W wr := (Keep.of_below HS.out).trans HKK.out (fun _ h => h) (fun _ _ h => h)
            have c4 := b4.kept hk1 (fun e => by have := (hown _ e).1; omega)
            have c2 := b2.kept hk1 (fun e => by have := (hown _ e).1; omega)
            have y4 : wr.cell? ⟨w.heap.size + 1 + 1 + 1, 0, none⟩ = some (.int .i64 (n : Int)) := by rw [c4.cell, ← HN.out]; rfl
            have f4 := c4.frozen 0
            have hwn : IntKind.i64.wrap ((n : Int) + 1) = (n : Int) + 1 := by rw [IntKind.wrap_i64] <;> omega
            have hk2 : Keep (fun k => (Value.slice Ax xl.length cx).ownBlock = some k ∨ k = w.heap.size + 1 + 1 + 1) W (wr.setCell ⟨w.heap.size + 1 + 1 + 1, 0, none⟩ (.int .i64 ((n : Int) + 1))) := hk1.trans (Keep.setCell (S := fun k => k = w.heap.size + 1 + 1 + 1) _ _ _ rfl) (fun _ h => .inl h) (fun _ _ h => .inr h)
            have y2 : (wr.setCell ⟨w.heap.size + 1 + 1 + 1, 0, none⟩ (.int .i64 ((n : Int) + 1))).cell? ⟨w.heap.size + 1, 0, none⟩ = some (.int .i64 0) := by rw [(c2.far (p := ⟨w.heap.size + 1 + 1 + 1, 0, none⟩) (by show w.heap.size + 1 ≠ w.heap.size + 1 + 1 + 1; omega) _).cell]; rfl
            have y5 : (wr.setCell ⟨w.heap.size + 1 + 1 + 1, 0, none⟩ (.int .i64 ((n : Int) + 1))).cell? ⟨w.heap.size + 1 + 1 + 1, 0, none⟩ = some (.int .i64 ((n : Int) + 1)) := by rw [(c4.set_ 0 _).cell]; rfl
            have hmz : (((n : Int) + 1) == 0) = false := by rw [beq_eq_false_iff_ne]; omega
            have hfin : KeepsFrom w5.heap.size W (wr.setCell ⟨w.heap.size + 1 + 1 + 1, 0, none⟩ (.int .i64 ((n : Int) + 1))) ∧ KpR w5.heap.size W4.heap.size T W (wr.setCell ⟨w.heap.size + 1 + 1 + 1, 0, none⟩ (.int .i64 ((n : Int) + 1))) ∧ OnW w w5.heap.size (.slice (some ⟨bw, ow, none⟩) wls.length cL) wls (pre ++ [((.slice Ax xl.length cx : Value), xl)]) (wr.setCell ⟨w.heap.size + 1 + 1 + 1, 0, none⟩ (.int .i64 ((n : Int) + 1))) := by
              refine ⟨⟨hk2.size, fun i o hi' ho' hc => (hk2.block i (Array.getElem?_eq_some_iff.1 ho').1 (fun e => ?_)).trans ho'⟩, KpR.of_keep hk2 (by omega) (fun k hk => by have := HL.out.2.2 k hk; omega) (fun k e => ?_), ⟨Keep.below hb hk2 hb.size (fun i e => ?_), Nat.le_trans hs hk2.size⟩, b1.kept hk2 (fun e => ?_), b2.kept hk2 (fun e => ?_), b3.kept hk2 (fun e => ?_), ?_, HE.out⟩
              · rcases e with e | e
                · obtain ⟨_, cs, hcs⟩ := hown _ e
                  unfold Blk at hcs
                  rw [ho'] at hcs
                  injection hcs with hcs
                  rw [hcs] at hc
                  cases hc
                · omega
              · rcases e with e | e
                · have h5 := (hown _ e).1
                  exact ⟨by omega, fun hk => by have := HL.out.2.2 k hk; omega, fun h => by omega⟩
                · refine ⟨by omega, fun hk => by have := HL.out.2.2 k hk; omega, fun _ cs hcs => ?_⟩
                  subst e
                  have e := hcs.symm.trans b4
                  injection e with e
                  injection e with _ e
                  revert e; decide
              · rcases e with e | e
                · have := (hown _ e).1; omega
                · omega
              · rcases e with e | e
                · have := (hown _ e).1; omega
                · omega
              · rcases e with e | e
                · have := (hown _ e).1; omega
                · omega
              · rcases e with e | e
                · have := (hown _ e).1; omega
                · omega
              · rw [List.length_append, List.length_singleton, ← HN.out]
                exact c4.set_ 0 _
            have HFIN := Lib.hid hfin
            clear hfin hk2 c2 c4 hk1 hown hb hs b1 b2 b3 b4 hz hj hbl hltj
            gi_wp2
            exact HFIN.out
    · have HNE : ¬ ((pre ++ [((.slice Ax xl.length cx : Value), xl)]).map (·.2) = wls.take (pre ++ [((.slice Ax xl.length cx : Value), xl)]).length ∧ (pre ++ [((.slice Ax xl.length cx : Value), xl)]).length ≤ wls.length) := fun h => by
        have h2 := h.2
        rw [List.length_append, List.length_singleton, ← HN.out] at h2
        omega
      have hnd : decide ((wls.length : Int) ≤ (n : Int)) = true := decide_eq_true (by omega)
      have hnd2 : decide (wls.length ≤ n) = true := decide_eq_true (by omega)
      have HNE2 := Lib.hid HNE
      clear hlt HNE
      gi_upto_region 8 with (fail)
      refine wpIn_region_quiet_round hfo (by kernel_rfl) (fun _ _ h => h) (by kernel_rfl) ?_
      repeat (first | go_big_quiet_skip | go_big_quiet_step (fail))
      refine wpQuiet_nil ?_
      intro _ hw'
      obtain ⟨nq, hw''⟩ := hw'
      subst hw''
      have hb3 : Blk (W.drewN nq) (w.heap.size + 1 + 1) 4 #[.bool false] := HB.out.2.2.2.2.1.drewN nq
      have q3' : (W.drewN nq).cell? ⟨w.heap.size + 1 + 1, 0, none⟩ = some (.bool false) := q3
      have z3' : (W.drewN nq).frozen? ⟨w.heap.size + 1 + 1, 0, none⟩ = false := z3
      have HF := Lib.hid (HBAD.out ((W.drewN nq).setCell ⟨w.heap.size + 1 + 1, 0, none⟩ (.bool false)) ((Keep.of_below (S := fun i => i = w.heap.size + 1 + 1) (below_drewN (Below.refl W.heap.size W) nq)).trans (Keep.setCell (S := fun i => i = w.heap.size + 1 + 1) _ _ _ rfl) (fun _ h => h) (fun _ _ h => h)) (hb3.set_ 0 _) HNE2.out)
      clear hb3
      gi_wp2
      exact HF.out
  case done =>
    rintro D xs W hD hxs ⟨⟨hb, hs⟩, b1, b2, b3, b4, hpre, hple⟩ hKd
    have hxl : xs.length = ls.length := by rw [← hxs, List.length_map]
    rw [hxs, hxl] at hpre
    rw [hxl] at b4 hple
    have hdec : ((ls.length : Int) == (wls.length : Int)) = decide (ls = wls) := by
      by_cases e : ls = wls
      · rw [decide_eq_true e, e]; simp
      · rw [decide_eq_false e, beq_eq_false_iff_ne]
        intro h
        apply e
        rw [hpre, show ls.length = wls.length by omega, List.take_length]
    have q1 : W.cell? ⟨w.heap.size, 0, none⟩ = some (.slice AL wls.length cL) := by rw [b1.cell]; rfl
    have q4 : W.cell? ⟨w.heap.size + 1 + 1 + 1, 0, none⟩ = some (.int .i64 (ls.length : Int)) := by rw [b4.cell]; rfl
    have z3 := b3.frozen 0
    have q3 : W.cell? ⟨w.heap.size + 1 + 1, 0, none⟩ = some (.bool false) := by rw [b3.cell]; rfl
    have hz := HZ.out
    obtain ⟨q, hq⟩ : ∃ q, q = decide (ls = wls) := ⟨_, rfl⟩
    rw [← hq] at hdec
    have HQ := Lib.hid hq
    clear hq
    have hk := Keep.setCell (S := fun i => i = w.heap.size + 1 + 1) W ⟨w.heap.size + 1 + 1, 0, none⟩ (.bool q) rfl
    have hD2 : (W.setCell ⟨w.heap.size + 1 + 1, 0, none⟩ (.bool q)).heap[D]? = some (.deferred (some [])) := (hk.block D (Array.getElem?_eq_some_iff.1 hKd).1 (fun e => by omega)).trans hKd
    have hb2 : Below w.heap.size w (W.setCell ⟨w.heap.size + 1 + 1, 0, none⟩ (.bool q)) := Keep.below hb hk hb.size (fun i e => by omega)
    have hbe := hb2.grown (grownBy_putObj' _ D (.deferred none)) hb2.size (fun k e => by injection e with e; omega)
    have hc5 : ((W.setCell ⟨w.heap.size + 1 + 1, 0, none⟩ (.bool q)).putObj D (.deferred none)).cell? ⟨w.heap.size + 1 + 1, 0, none⟩ = some (.bool q) := by rw [(blk_putw hD2 rfl _ _ _ (b3.set_ 0 (.bool q))).cell]; rfl
    have HC5 := Lib.hid hc5
    have HE := Lib.hid (And.intro hD2 hbe)
    clear hb hs b1 b2 b3 b4 hpre hple hKd hk hD2 hb2 hbe hc5 hxs hxl hz
    gi_wp2
    try rw [hdec]
    refine ⟨by simp, .inl ⟨_, _, rfl, run_takeDeferred HE.out.1, ?_⟩⟩
    have hc5 := HC5.out
    refine ⟨.bool q, ?_, by rw [HQ.out], HE.out.2⟩
    simp [results, Tryz.f43, go_sem, hc5]
  case stop =>
    rintro D c pre W hD ⟨k, hk, hpre⟩ ⟨hb, rfl, b3, hne⟩ hKd
    have hdec : decide (ls = wls) = false := decide_eq_false (fun e => hne (by
      subst e
      have hlk : pre.length = k := by
        have := congrArg List.length hpre
        rw [List.length_map, List.length_take] at this
        omega
      exact ⟨by rw [hlk]; exact hpre, by omega⟩))
    have HDEC := Lib.hid hdec
    have hbe := hb.grown (grownBy_putObj' W D (.deferred none)) hb.size (fun k e => by injection e with e; have := HZ.out; omega)
    have hc5 : (W.putObj D (.deferred none)).cell? ⟨w.heap.size + 1 + 1, 0, none⟩ = some (.bool false) := by rw [(blk_putw hKd rfl _ _ _ b3).cell]; rfl
    have HC5 := Lib.hid hc5
    have HE := Lib.hid hbe
    have HKD := Lib.hid hKd
    clear hc5 hbe b3 hb hne hpre hdec hKd
    gi_wp2
    refine ⟨by simp, .inl ⟨_, _, rfl, run_takeDeferred HKD.out, ?_⟩⟩
    have hc5 := HC5.out
    refine ⟨.bool false, ?_, by rw [HDEC.out], HE.out⟩
    simp [results, Tryz.f43, go_sem, hc5]
end Go.Proofs.YtibifnknkphanaaGreatDoor

/-
  The document's lay.
-/
import Derived.Test.YtellbmghahgjfaaNfB
import Derived.Test.YtellbmghahgjfaaNetY
import Derived.Deep.DeepCutAuto
namespace Go.Proofs.Ytellbmghahgjfaa
open Go.RowKit Go.Maps
open NetM
set_option linter.unusedVariables false
set_option linter.unusedSimpArgs false
set_option maxRecDepth 20000
theorem tail_two {P : Program} {ops : Array Oper} {Q : Exit → Act → World → Prop} {md : Region.Mode} {S : World → Prop} {n : Nat} {i j fuel : Nat} {o1 o2 : Oper} {listed : Array Bool} {a : Act} {w : World} (hr : Region.ready md ops listed = [i, j]) (h1 : ops[i]? = some o1) (h2 : ops[j]? = some o2) (hi : i < n) (hj : j < n)
    (k1 : ∀ K' : Act → World → Prop, Shut (∀ a w, S w → (S w → Tail P md ops Q S n fuel (listed.setIfInBounds i true) a w) → K' a w) → if Region.wanted o1 (yielded ops a.tmps) = true then Oper.wp P o1 a w K' Q else K' (a.put o1.dst undef) w)
    (k2 : ∀ K' : Act → World → Prop, Shut (∀ a w, S w → (S w → Tail P md ops Q S n fuel (listed.setIfInBounds j true) a w) → K' a w) → if Region.wanted o2 (yielded ops a.tmps) = true then Oper.wp P o2 a w K' Q else K' (a.put o2.dst undef) w) :
    Tail P md ops Q S n (fuel + 1) listed a w := fun hB inv => by
  refine ⟨fun h0 => (by rw [hr] at h0; cases h0), fun t ht => ?_⟩
  have ht' := ht
  rw [hr] at ht'
  rcases List.mem_cons.1 ht' with rfl | ht'
  · exact wpOp_step h1 (fun K' hK => k1 K' (fun a w hS hW => hK a w ⟨fun _ => hS, hW hS hB (inv.set ht hi)⟩))
  · obtain rfl : t = j := by simpa using ht'
    exact wpOp_step h2 (fun K' hK => k2 K' (fun a w hS hW => hK a w ⟨fun _ => hS, hW hS hB (inv.set ht hj)⟩))
theorem spot_eq {α : Type} : ∀ (R : List (Fl α)) (q : Pr) (k : Nat), k ≤ R.length → (∀ j (h : j < R.length), j < k → Le R[j].p q) → (∀ h : k < R.length, ¬ Le R[k].p q) → k = spotOf R q
  | [], q, k, hk, _, _ => by
    obtain rfl : k = 0 := by simpa using hk
    rfl
  | f :: R, q, 0, _, _, h2 => by
    have h3 : ¬ Le f.p q := h2 (by simp)
    unfold spotOf
    rw [List.takeWhile_cons, if_neg (by simpa [leB] using h3)]; rfl
  | f :: R, q, k + 1, hk, h1, h2 => by
    have h3 : Le f.p q := h1 0 (by simp) (by omega)
    have ih := spot_eq R q k (by simpa using hk) (fun j hj hjk => h1 (j + 1) (by simpa using hj) (by omega)) (fun h => h2 (by simpa using h))
    unfold spotOf at ih ⊢
    rw [List.takeWhile_cons, if_pos (by simpa [leB] using h3), List.length_cons, ← ih]
section
variable {w w' : World} {x B : Nat} {s : Sv} {E lost : Int} {R : List (Fl Pl)}
theorem Rn.store (h : Rn w x s E lost R B) {W : World} (hb : Below w.heap.size w W) {s' : Sv} {R' : List (Fl Pl)} {B' : Nat} (hB' : w.heap.size ≤ B') (ho : OwnK kFl W B' (sv s') (R'.map shp)) (hB : B ≤ w.heap.size)
    (hm : ∀ f ∈ R', f ∈ R ∨ (Sl w (sv f.x.1) f.x.2 ∧ ∀ i, InB f.x.1 i → B ≤ i ∧ ∃ cs m, w.heap[i]? = some (.cells cs 5 m))) :
    Keep (fun i => i = x) w (W.setCell ⟨x, 0, none⟩ (sv s')) ∧ ∃ s2, Rn (W.setCell ⟨x, 0, none⟩ (sv s')) x s2 E lost R' B := by
  have hxl := h.blk.lt
  have ks := Keep.setCell (S := fun i => i = x) W ⟨x, 0, none⟩ (sv s') rfl
  have k : Keep (fun i => i = x) w (W.setCell ⟨x, 0, none⟩ (sv s')) := (Keep.of_below hb).trans ks (fun _ h => h) (fun _ _ h => h)
  obtain ⟨_, h2, h3⟩ := h.rows k h.offx
  have hn : ∀ i cs m, w.heap[i]? = some (.cells cs 5 m) → ¬ i = x := fun i cs m hh e => (h.offx i e _ _ _ hh).2.1 rfl
  refine ⟨k, s', (h.blk.below hb hxl).set_ 0 (sv s'), (ho.keep fun i hi => ks.block i (ho.lt i hi).2 (fun e => by have := (ho.lt i hi).1; omega)).mono (by omega), fun f hf => ?_, fun f hf i hi => ?_, h.xb⟩
  · rcases hm f hf with hf | ⟨hs, hi⟩
    · exact h2 f hf
    · exact InB.sl hs k fun i hi' => by obtain ⟨_, cs, m, hh⟩ := hi i hi'; exact hn i cs m hh
  · rcases hm f hf with hf | ⟨hs, hi'⟩
    · exact h3 f hf i hi
    · obtain ⟨hBi, cs, m, hh⟩ := hi' i hi
      exact ⟨hBi, cs, m, (k.block i (Array.getElem?_eq_some_iff.1 hh).1 (hn i cs m hh)).trans hh⟩
/-- What an act of the document's leaves. -/
def RnEnd (w : World) (x : Nat) (E lost : Int) (R : List (Fl Pl)) (B : Nat) (w' : World) : Prop := Keep (fun i => i = x) w w' ∧ ∃ s, Rn w' x s E lost R B
theorem flR : Try.prog.underlying 31 = some (.slice kFl.ty) := rfl
/-- A row of the call's own, or none at all. -/
theorem Rn.form {A : Option Addr} {n c : Nat} (h : Rn w x (A, n, c) E lost R B) : (A = none ∧ c = 0 ∧ R = []) ∨ ∃ bs os, A = some ⟨bs, os, none⟩ ∧ R.length ≤ c := by
  rcases h.own.2 with ⟨e, h0⟩ | ⟨g, cap, cur, e, hg, hh, hnc, _⟩
  · unfold sv at e
    injection e with e1 e2 e3
    refine .inl ⟨e1, e3, ?_⟩
    rw [List.length_map] at h0
    exact List.eq_nil_of_length_eq_zero h0
  · unfold sv at e
    injection e with e1 e2 e3
    rw [List.length_map] at hnc
    exact .inr ⟨_, _, e1, by have e4 : c = cap := e3; omega⟩
set_option maxHeartbeats 16000000 in
theorem refLay_any (h : Rn w x s E lost R B) (hB : B ≤ w.heap.size) (hR : R.length ≤ 100000) (q : Pr) (t0 : Option Addr) (t1 t2 : Nat) (l : List UInt8) (hs : Sl w (.slice t0 t1 t2) l) (hi : ∀ i, InB (t0, t1, t2) i → B ≤ i ∧ ∃ cs m, w.heap[i]? = some (.cells cs 5 m)) :
    Calls Try.prog 48 #[.pointer (some ⟨x, 0, none⟩), .agg #[.int .i64 q.1, .int .i64 q.2, .slice t0 t1 t2]] w fun e w' => e = .returned (.tuple #[]) ∧ RnEnd w x E lost (lay R ⟨q, ((t0, t1, t2), l)⟩) B w' := by
  have hfo : Try.prog.follows .mixedOrders = true := by kernel_rfl
  obtain ⟨ifl, hif1, hif2, hif3, hif4⟩ := flI
  obtain ⟨A, c, rfl⟩ := h.shape
  have hb1 : Below w.heap.size w (w.alloc (.cells #[.int .i64 q.1, .int .i64 q.2, .slice t0 t1 t2] 44)) := (Below.refl _ _).alloc (Nat.le_refl _) _
  have hbx := Blk.new w 44 #[.int .i64 q.1, .int .i64 q.2, .slice t0 t1 t2]
  have HH := Lib.hid h
  have hyw : w.heap.size ≤ (w.alloc (.cells #[.int .i64 q.1, .int .i64 q.2, .slice t0 t1 t2] 44)).heap.size := by simp
  go_enter Try.func48, Try.ntmps48
  go_upto_region 1 with fail
  generalize w.alloc (.cells #[.int .i64 q.1, .int .i64 q.2, .slice t0 t1 t2] 44) = Y at hb1 hbx hyw ⊢
  have HY := Lib.hid (h.below hb1)
  have HXL := Lib.hid (show ∀ Z, Below Y.heap.size Y Z → Blk Z x 33 #[.slice A R.length c, .int .i64 E, .int .i64 lost] from fun Z hZ => (HY.out.below hZ).blk)
  have HE := Lib.hid (show ∀ Z, Below Y.heap.size Y Z → Z.cell? ⟨x, 0, none⟩ = some (.slice A R.length c) ∧ Z.cell? ⟨w.heap.size, 0, none⟩ = some (.int .i64 q.1) ∧ Z.cell? ⟨w.heap.size, 1, none⟩ = some (.int .i64 q.2) ∧ Z.cell? ⟨w.heap.size, 2, none⟩ = some (.slice t0 t1 t2) from fun Z hZ => by
    have hf3 := hbx.below hZ hbx.lt
    exact ⟨by rw [(HXL.out Z hZ).cell]; rfl, by rw [hf3.cell]; rfl, by rw [hf3.cell]; rfl, by rw [hf3.cell]; rfl⟩)
  have HFIN := Lib.hid (show ∀ Z A' n' c', Below Y.heap.size Y Z → OwnK kFl Z Y.heap.size (.slice A' n' c') (((R.map shp).take (spotOf R q) ++ [⟨q, (t0, t1, t2)⟩]) ++ (R.map shp).drop (spotOf R q)) → RnEnd w x E lost (lay R ⟨q, ((t0, t1, t2), l)⟩) B (Z.setCell ⟨x, 0, none⟩ (.slice A' n' c')) from fun Z A' n' c' hZ ho => by
    refine h.store (s' := (A', n', c')) (hb1.trans (hZ.mono hyw)) hyw (R' := lay R ⟨q, ((t0, t1, t2), l)⟩) ?_ hB fun f hf => ?_
    · rw [lay_spot, List.map_append, List.map_cons, List.map_take, List.map_drop]
      rw [List.append_assoc] at ho
      exact ho
    · rcases mem_lay.1 hf with rfl | hf
      · exact .inr ⟨hs, hi⟩
      · exact .inl hf)
  clear hbx hs hi hB hb1 hyw h
  go_wp2
  go_loopw [4] (fun z wx => ∃ k : Nat, k ≤ R.length ∧ z = .int .i64 (k : Int) ∧ Below Y.heap.size Y wx ∧ Hid (∀ j (h : j < R.length), j < k → Le R[j].p q)) (fun z _ => R.length - (intOf z).toNat)
  case atStart => exact ⟨0, Nat.zero_le _, rfl, Below.refl _ _, Lib.hid fun j _ h => absurd h (by omega)⟩
  case round =>
    obtain ⟨k, hk, rfl, hbr, hj⟩ := hrel
    obtain ⟨bb, hbb⟩ : ∃ bb, bb = decide (∃ h : k < R.length, Le R[k].p q) := ⟨_, rfl⟩
    have HBB := Lib.hid hbb
    clear hbb
    have hkM : (k : Int) ≤ 100000 := by omega
    have hk0 : (0 : Int) ≤ (k : Int) := by omega
    go_upto_region 2 with fail
    go_cut [50] (fun z wc => z = .bool bb ∧ Below Y.heap.size Y wc)
    case first =>
      by_cases hlt : k < R.length
      · obtain ⟨u, hu⟩ : ∃ u, R[k].p = u := ⟨_, rfl⟩
        have HU := Lib.hid hu
        obtain ⟨⟨bs, os, rfl⟩, hcap⟩ := HY.out.row1 (by omega)
        have HD := Lib.hid (show ∀ Z, Below Y.heap.size Y Z → Z.cell? ⟨bs, os + k * 3, none⟩ = some (.int .i64 u.1) ∧ Z.cell? ⟨bs, os + k * 3 + 1, none⟩ = some (.int .i64 u.2) ∧ Z.cell? ⟨bs, os + k * 3 + 2, none⟩ = some (sv R[k].x.1) from fun Z hZ => hu ▸ HY.out.cells Z hZ k hlt)
        clear hu
        have hkI : (k : Int) < (R.length : Int) := by omega
        rcases (show u.1 < q.1 ∨ (u.1 = q.1 ∧ u.2 ≤ q.2) ∨ (u.1 = q.1 ∧ ¬ u.2 ≤ q.2) ∨ (¬ u.1 < q.1 ∧ u.1 ≠ q.1) by omega) with e1 | ⟨e1, e2⟩ | ⟨e1, e2⟩ | ⟨e1, e2⟩
        · have HB := Lib.hid (show bb = true by rw [HBB.out]; exact decide_eq_true ⟨hlt, by rw [HU.out]; exact .inl e1⟩)
          have j1 : decide (u.1 < q.1) = true := decide_eq_true e1
          have j2 : True := trivial
          have j3 : True := trivial
          refine wp_region_held_drew (S := fun Z => Below Y.heap.size Y Z) hfo (hbr.trans ((show Below wr.heap.size wr wr.drew from (Below.refl _ _).drew).mono hbr.size)) (fun hS0 => ?_)
          generalize wr.drew = wy at hS0 ⊢
          refine' wpAnyH_take (i := 0) (oi := ⟨some 5, _, _, _, _, _⟩) (v := _) rfl (by kernel_rfl) (by kernel_rfl) (by kernel_rfl) (fun _ _ _ h => h) (Or.inl ⟨by rfl, ?y0rB⟩) hS0 ?r0rB
          case y0rB =>
            intro w' hSw
            obtain ⟨e0, e1, e2, e3⟩ := HE.out _ hSw; obtain ⟨d0, d1, d2⟩ := HD.out _ hSw
            go_simp
            try simp only [j1, j2, j3]
            try rfl
          try simp only [Act.put, List.setIfInBounds_toArray, List.set_cons_zero, List.set_cons_succ]
          refine' wpAnyH_take (i := 1) (oi := ⟨some 6, _, _, _, _, _⟩) (v := _) rfl (by kernel_rfl) (by kernel_rfl) (by kernel_rfl) (fun _ _ _ h => h) (Or.inl ⟨by rfl, ?y1rB⟩) hS0 ?r1rB
          case y1rB =>
            intro w' hSw
            obtain ⟨e0, e1, e2, e3⟩ := HE.out _ hSw; obtain ⟨d0, d1, d2⟩ := HD.out _ hSw
            go_simp
            try simp only [j1, j2, j3]
            try rfl
          try simp only [Act.put, List.setIfInBounds_toArray, List.set_cons_zero, List.set_cons_succ]
          refine' wpAnyH_take (i := 2) (oi := ⟨some 7, _, _, _, _, _⟩) (v := _) rfl (by kernel_rfl) (by kernel_rfl) (by kernel_rfl) (fun _ _ _ h => h) (Or.inl ⟨by rfl, ?y2rB⟩) hS0 ?r2rB
          case y2rB =>
            intro w' hSw
            obtain ⟨e0, e1, e2, e3⟩ := HE.out _ hSw; obtain ⟨d0, d1, d2⟩ := HD.out _ hSw
            go_simp
            try simp only [j1, j2, j3]
            try rfl
          try simp only [Act.put, List.setIfInBounds_toArray, List.set_cons_zero, List.set_cons_succ]
          refine' wpAnyH_take (i := 3) (oi := ⟨some 8, _, _, _, _, _⟩) (v := _) rfl (by kernel_rfl) (by kernel_rfl) (by kernel_rfl) (fun _ _ _ h => h) (Or.inl ⟨by rfl, ?y3rB⟩) hS0 ?r3rB
          case y3rB =>
            intro w' hSw
            obtain ⟨e0, e1, e2, e3⟩ := HE.out _ hSw; obtain ⟨d0, d1, d2⟩ := HD.out _ hSw
            go_simp
            try simp only [j1, j2, j3]
            try rfl
          try simp only [Act.put, List.setIfInBounds_toArray, List.set_cons_zero, List.set_cons_succ]
          refine' wpAnyH_take (i := 4) (oi := ⟨some 9, _, _, _, _, _⟩) (v := _) rfl (by kernel_rfl) (by kernel_rfl) (by kernel_rfl) (fun _ _ _ h => h) (Or.inl ⟨by rfl, ?y4rB⟩) hS0 ?r4rB
          case y4rB =>
            intro w' hSw
            obtain ⟨e0, e1, e2, e3⟩ := HE.out _ hSw; obtain ⟨d0, d1, d2⟩ := HD.out _ hSw
            go_simp
            try simp only [j1, j2, j3]
            try rfl
          try simp only [Act.put, List.setIfInBounds_toArray, List.set_cons_zero, List.set_cons_succ]
          refine' wpAnyH_take (i := 5) (oi := ⟨some 10, _, _, _, _, _⟩) (v := _) rfl (by kernel_rfl) (by kernel_rfl) (by kernel_rfl) (fun _ _ _ h => h) (Or.inl ⟨by rfl, ?y5rB⟩) hS0 ?r5rB
          case y5rB =>
            intro w' hSw
            obtain ⟨e0, e1, e2, e3⟩ := HE.out _ hSw; obtain ⟨d0, d1, d2⟩ := HD.out _ hSw
            go_simp
            try simp only [j1, j2, j3]
            try rfl
          try simp only [Act.put, List.setIfInBounds_toArray, List.set_cons_zero, List.set_cons_succ]
          refine' wpAnyH_take (i := 6) (oi := ⟨some 11, _, _, _, _, _⟩) (v := _) rfl (by kernel_rfl) (by kernel_rfl) (by kernel_rfl) (fun _ _ _ h => h) (Or.inl ⟨by rfl, ?y6rB⟩) hS0 ?r6rB
          case y6rB =>
            intro w' hSw
            obtain ⟨e0, e1, e2, e3⟩ := HE.out _ hSw; obtain ⟨d0, d1, d2⟩ := HD.out _ hSw
            go_simp
            try simp only [j1, j2, j3]
            try rfl
          try simp only [Act.put, List.setIfInBounds_toArray, List.set_cons_zero, List.set_cons_succ]
          refine' wpAnyH_take (i := 7) (oi := ⟨some 12, _, _, _, _, _⟩) (v := _) rfl (by kernel_rfl) (by kernel_rfl) (by kernel_rfl) (fun _ _ _ h => h) (Or.inl ⟨by rfl, ?y7rB⟩) hS0 ?r7rB
          case y7rB =>
            intro w' hSw
            obtain ⟨e0, e1, e2, e3⟩ := HE.out _ hSw; obtain ⟨d0, d1, d2⟩ := HD.out _ hSw
            go_simp
            try simp only [j1, j2, j3]
            try rfl
          try simp only [Act.put, List.setIfInBounds_toArray, List.set_cons_zero, List.set_cons_succ]
          refine' wpAnyH_take (i := 8) (oi := ⟨some 13, _, _, _, _, _⟩) (v := _) rfl (by kernel_rfl) (by kernel_rfl) (by kernel_rfl) (fun _ _ _ h => h) (Or.inl ⟨by rfl, ?y8rB⟩) hS0 ?r8rB
          case y8rB =>
            intro w' hSw
            obtain ⟨e0, e1, e2, e3⟩ := HE.out _ hSw; obtain ⟨d0, d1, d2⟩ := HD.out _ hSw
            go_simp
            try simp only [j1, j2, j3]
            try rfl
          try simp only [Act.put, List.setIfInBounds_toArray, List.set_cons_zero, List.set_cons_succ]
          refine' wpAnyH_take (i := 9) (oi := ⟨some 14, _, _, _, _, _⟩) (v := _) rfl (by kernel_rfl) (by kernel_rfl) (by kernel_rfl) (fun _ _ _ h => h) (Or.inl ⟨by rfl, ?y9rB⟩) hS0 ?r9rB
          case y9rB =>
            intro w' hSw
            obtain ⟨e0, e1, e2, e3⟩ := HE.out _ hSw; obtain ⟨d0, d1, d2⟩ := HD.out _ hSw
            go_simp
            try simp only [j1, j2, j3]
            try rfl
          try simp only [Act.put, List.setIfInBounds_toArray, List.set_cons_zero, List.set_cons_succ]
          refine' wpAnyH_take (i := 10) (oi := ⟨some 15, _, _, _, _, _⟩) (v := _) rfl (by kernel_rfl) (by kernel_rfl) (by kernel_rfl) (fun _ _ _ h => h) (Or.inl ⟨by rfl, ?y10rB⟩) hS0 ?r10rB
          case y10rB =>
            intro w' hSw
            obtain ⟨e0, e1, e2, e3⟩ := HE.out _ hSw; obtain ⟨d0, d1, d2⟩ := HD.out _ hSw
            go_simp
            try simp only [j1, j2, j3]
            try rfl
          try simp only [Act.put, List.setIfInBounds_toArray, List.set_cons_zero, List.set_cons_succ]
          refine' wpAnyH_take (i := 11) (oi := ⟨some 16, _, _, _, _, _⟩) (v := _) rfl (by kernel_rfl) (by kernel_rfl) (by kernel_rfl) (fun _ _ _ h => h) (Or.inl ⟨by rfl, ?y11rB⟩) hS0 ?r11rB
          case y11rB =>
            intro w' hSw
            obtain ⟨e0, e1, e2, e3⟩ := HE.out _ hSw; obtain ⟨d0, d1, d2⟩ := HD.out _ hSw
            go_simp
            try simp only [j1, j2, j3]
            try rfl
          try simp only [Act.put, List.setIfInBounds_toArray, List.set_cons_zero, List.set_cons_succ]
          refine' wpAnyH_take (i := 12) (oi := ⟨some 17, _, _, _, _, _⟩) (v := _) rfl (by kernel_rfl) (by kernel_rfl) (by kernel_rfl) (fun _ _ _ h => h) (Or.inl ⟨by rfl, ?y12rB⟩) hS0 ?r12rB
          case y12rB =>
            intro w' hSw
            obtain ⟨e0, e1, e2, e3⟩ := HE.out _ hSw; obtain ⟨d0, d1, d2⟩ := HD.out _ hSw
            go_simp
            try simp only [j1, j2, j3]
            try rfl
          try simp only [Act.put, List.setIfInBounds_toArray, List.set_cons_zero, List.set_cons_succ]
          refine' wpAnyH_take (i := 13) (oi := ⟨some 18, _, _, _, _, _⟩) (v := _) rfl (by kernel_rfl) (by kernel_rfl) (by kernel_rfl) (fun _ _ _ h => h) (Or.inl ⟨by rfl, ?y13rB⟩) hS0 ?r13rB
          case y13rB =>
            intro w' hSw
            obtain ⟨e0, e1, e2, e3⟩ := HE.out _ hSw; obtain ⟨d0, d1, d2⟩ := HD.out _ hSw
            go_simp
            try simp only [j1, j2, j3]
            try rfl
          try simp only [Act.put, List.setIfInBounds_toArray, List.set_cons_zero, List.set_cons_succ]
          refine' wpAnyH_take (i := 14) (oi := ⟨some 19, _, _, _, _, _⟩) (v := _) rfl (by kernel_rfl) (by kernel_rfl) (by kernel_rfl) (fun _ _ _ h => h) (Or.inl ⟨by rfl, ?y14rB⟩) hS0 ?r14rB
          case y14rB =>
            intro w' hSw
            obtain ⟨e0, e1, e2, e3⟩ := HE.out _ hSw; obtain ⟨d0, d1, d2⟩ := HD.out _ hSw
            go_simp
            try simp only [j1, j2, j3]
            try rfl
          try simp only [Act.put, List.setIfInBounds_toArray, List.set_cons_zero, List.set_cons_succ]
          refine' wpAnyH_take (i := 15) (oi := ⟨some 20, _, _, _, _, _⟩) (v := _) rfl (by kernel_rfl) (by kernel_rfl) (by kernel_rfl) (fun _ _ _ h => h) (Or.inl ⟨by rfl, ?y15rB⟩) hS0 ?r15rB
          case y15rB =>
            intro w' hSw
            obtain ⟨e0, e1, e2, e3⟩ := HE.out _ hSw; obtain ⟨d0, d1, d2⟩ := HD.out _ hSw
            go_simp
            try simp only [j1, j2, j3]
            try rfl
          try simp only [Act.put, List.setIfInBounds_toArray, List.set_cons_zero, List.set_cons_succ]
          refine' wpAnyH_take (i := 16) (oi := ⟨some 21, _, _, _, _, _⟩) (v := _) rfl (by kernel_rfl) (by kernel_rfl) (by kernel_rfl) (fun _ _ _ h => h) (Or.inl ⟨by rfl, ?y16rB⟩) hS0 ?r16rB
          case y16rB =>
            intro w' hSw
            obtain ⟨e0, e1, e2, e3⟩ := HE.out _ hSw; obtain ⟨d0, d1, d2⟩ := HD.out _ hSw
            go_simp
            try simp only [j1, j2, j3]
            try rfl
          try simp only [Act.put, List.setIfInBounds_toArray, List.set_cons_zero, List.set_cons_succ]
          refine' wpAnyH_take (i := 17) (oi := ⟨some 22, _, _, _, _, _⟩) (v := _) rfl (by kernel_rfl) (by kernel_rfl) (by kernel_rfl) (fun _ _ _ h => h) (Or.inl ⟨by rfl, ?y17rB⟩) hS0 ?r17rB
          case y17rB =>
            intro w' hSw
            obtain ⟨e0, e1, e2, e3⟩ := HE.out _ hSw; obtain ⟨d0, d1, d2⟩ := HD.out _ hSw
            go_simp
            try simp only [j1, j2, j3]
            try rfl
          try simp only [Act.put, List.setIfInBounds_toArray, List.set_cons_zero, List.set_cons_succ]
          refine' wpAnyH_take (i := 18) (oi := ⟨some 23, _, _, _, _, _⟩) (v := (.bool true)) rfl (by kernel_rfl) (by kernel_rfl) (by kernel_rfl) (fun _ _ _ h => h) (Or.inl ⟨by rfl, ?y18rB⟩) hS0 ?r18rB
          case y18rB =>
            intro w' hSw
            obtain ⟨e0, e1, e2, e3⟩ := HE.out _ hSw; obtain ⟨d0, d1, d2⟩ := HD.out _ hSw
            go_simp
            try simp only [j1, j2, j3]
            try rfl
          try simp only [Act.put, List.setIfInBounds_toArray, List.set_cons_zero, List.set_cons_succ]
          refine' wpAnyH_take (i := 19) (oi := ⟨some 24, _, _, _, _, _⟩) (v := (.bool true)) rfl (by kernel_rfl) (by kernel_rfl) (by kernel_rfl) (fun _ _ _ h => h) (Or.inl ⟨by rfl, ?y19rB⟩) hS0 ?r19rB
          case y19rB =>
            intro w' hSw
            obtain ⟨e0, e1, e2, e3⟩ := HE.out _ hSw; obtain ⟨d0, d1, d2⟩ := HD.out _ hSw
            go_simp
            try simp only [j1, j2, j3]
            try rfl
          try simp only [Act.put, List.setIfInBounds_toArray, List.set_cons_zero, List.set_cons_succ]
          refine' wpAnyH_take (i := 20) (oi := ⟨some 25, _, _, _, _, _⟩) (v := undef) rfl (by kernel_rfl) (by kernel_rfl) (by kernel_rfl) (fun _ _ _ h => h) (Or.inr ⟨by rfl, rfl⟩) hS0 ?r20rB
          try simp only [Act.put, List.setIfInBounds_toArray, List.set_cons_zero, List.set_cons_succ]
          refine' wpAnyH_take (i := 21) (oi := ⟨some 26, _, _, _, _, _⟩) (v := undef) rfl (by kernel_rfl) (by kernel_rfl) (by kernel_rfl) (fun _ _ _ h => h) (Or.inr ⟨by rfl, rfl⟩) hS0 ?r21rB
          try simp only [Act.put, List.setIfInBounds_toArray, List.set_cons_zero, List.set_cons_succ]
          refine' wpAnyH_take (i := 22) (oi := ⟨some 27, _, _, _, _, _⟩) (v := undef) rfl (by kernel_rfl) (by kernel_rfl) (by kernel_rfl) (fun _ _ _ h => h) (Or.inr ⟨by rfl, rfl⟩) hS0 ?r22rB
          try simp only [Act.put, List.setIfInBounds_toArray, List.set_cons_zero, List.set_cons_succ]
          refine' wpAnyH_take (i := 23) (oi := ⟨some 28, _, _, _, _, _⟩) (v := undef) rfl (by kernel_rfl) (by kernel_rfl) (by kernel_rfl) (fun _ _ _ h => h) (Or.inr ⟨by rfl, rfl⟩) hS0 ?r23rB
          try simp only [Act.put, List.setIfInBounds_toArray, List.set_cons_zero, List.set_cons_succ]
          refine' wpAnyH_take (i := 24) (oi := ⟨some 29, _, _, _, _, _⟩) (v := undef) rfl (by kernel_rfl) (by kernel_rfl) (by kernel_rfl) (fun _ _ _ h => h) (Or.inr ⟨by rfl, rfl⟩) hS0 ?r24rB
          try simp only [Act.put, List.setIfInBounds_toArray, List.set_cons_zero, List.set_cons_succ]
          refine' wpAnyH_take (i := 25) (oi := ⟨some 30, _, _, _, _, _⟩) (v := undef) rfl (by kernel_rfl) (by kernel_rfl) (by kernel_rfl) (fun _ _ _ h => h) (Or.inr ⟨by rfl, rfl⟩) hS0 ?r25rB
          try simp only [Act.put, List.setIfInBounds_toArray, List.set_cons_zero, List.set_cons_succ]
          refine' wpAnyH_take (i := 26) (oi := ⟨some 31, _, _, _, _, _⟩) (v := undef) rfl (by kernel_rfl) (by kernel_rfl) (by kernel_rfl) (fun _ _ _ h => h) (Or.inr ⟨by rfl, rfl⟩) hS0 ?r26rB
          try simp only [Act.put, List.setIfInBounds_toArray, List.set_cons_zero, List.set_cons_succ]
          refine' wpAnyH_take (i := 27) (oi := ⟨some 32, _, _, _, _, _⟩) (v := undef) rfl (by kernel_rfl) (by kernel_rfl) (by kernel_rfl) (fun _ _ _ h => h) (Or.inr ⟨by rfl, rfl⟩) hS0 ?r27rB
          try simp only [Act.put, List.setIfInBounds_toArray, List.set_cons_zero, List.set_cons_succ]
          refine' wpAnyH_take (i := 28) (oi := ⟨some 33, _, _, _, _, _⟩) (v := undef) rfl (by kernel_rfl) (by kernel_rfl) (by kernel_rfl) (fun _ _ _ h => h) (Or.inr ⟨by rfl, rfl⟩) hS0 ?r28rB
          try simp only [Act.put, List.setIfInBounds_toArray, List.set_cons_zero, List.set_cons_succ]
          refine' wpAnyH_take (i := 29) (oi := ⟨some 34, _, _, _, _, _⟩) (v := undef) rfl (by kernel_rfl) (by kernel_rfl) (by kernel_rfl) (fun _ _ _ h => h) (Or.inr ⟨by rfl, rfl⟩) hS0 ?r29rB
          try simp only [Act.put, List.setIfInBounds_toArray, List.set_cons_zero, List.set_cons_succ]
          refine' wpAnyH_take (i := 30) (oi := ⟨some 35, _, _, _, _, _⟩) (v := undef) rfl (by kernel_rfl) (by kernel_rfl) (by kernel_rfl) (fun _ _ _ h => h) (Or.inr ⟨by rfl, rfl⟩) hS0 ?r30rB
          try simp only [Act.put, List.setIfInBounds_toArray, List.set_cons_zero, List.set_cons_succ]
          refine' wpAnyH_take (i := 31) (oi := ⟨some 36, _, _, _, _, _⟩) (v := undef) rfl (by kernel_rfl) (by kernel_rfl) (by kernel_rfl) (fun _ _ _ h => h) (Or.inr ⟨by rfl, rfl⟩) hS0 ?r31rB
          try simp only [Act.put, List.setIfInBounds_toArray, List.set_cons_zero, List.set_cons_succ]
          refine' wpAnyH_take (i := 32) (oi := ⟨some 37, _, _, _, _, _⟩) (v := undef) rfl (by kernel_rfl) (by kernel_rfl) (by kernel_rfl) (fun _ _ _ h => h) (Or.inr ⟨by rfl, rfl⟩) hS0 ?r32rB
          try simp only [Act.put, List.setIfInBounds_toArray, List.set_cons_zero, List.set_cons_succ]
          refine' wpAnyH_take (i := 33) (oi := ⟨some 38, _, _, _, _, _⟩) (v := undef) rfl (by kernel_rfl) (by kernel_rfl) (by kernel_rfl) (fun _ _ _ h => h) (Or.inr ⟨by rfl, rfl⟩) hS0 ?r33rB
          try simp only [Act.put, List.setIfInBounds_toArray, List.set_cons_zero, List.set_cons_succ]
          refine' wpAnyH_take (i := 34) (oi := ⟨some 39, _, _, _, _, _⟩) (v := undef) rfl (by kernel_rfl) (by kernel_rfl) (by kernel_rfl) (fun _ _ _ h => h) (Or.inr ⟨by rfl, rfl⟩) hS0 ?r34rB
          try simp only [Act.put, List.setIfInBounds_toArray, List.set_cons_zero, List.set_cons_succ]
          refine' wpAnyH_take (i := 35) (oi := ⟨some 40, _, _, _, _, _⟩) (v := undef) rfl (by kernel_rfl) (by kernel_rfl) (by kernel_rfl) (fun _ _ _ h => h) (Or.inr ⟨by rfl, rfl⟩) hS0 ?r35rB
          try simp only [Act.put, List.setIfInBounds_toArray, List.set_cons_zero, List.set_cons_succ]
          refine' wpAnyH_take (i := 36) (oi := ⟨some 41, _, _, _, _, _⟩) (v := undef) rfl (by kernel_rfl) (by kernel_rfl) (by kernel_rfl) (fun _ _ _ h => h) (Or.inr ⟨by rfl, rfl⟩) hS0 ?r36rB
          try simp only [Act.put, List.setIfInBounds_toArray, List.set_cons_zero, List.set_cons_succ]
          refine' wpAnyH_take (i := 37) (oi := ⟨some 42, _, _, _, _, _⟩) (v := undef) rfl (by kernel_rfl) (by kernel_rfl) (by kernel_rfl) (fun _ _ _ h => h) (Or.inr ⟨by rfl, rfl⟩) hS0 ?r37rB
          try simp only [Act.put, List.setIfInBounds_toArray, List.set_cons_zero, List.set_cons_succ]
          refine' wpAnyH_take (i := 38) (oi := ⟨some 43, _, _, _, _, _⟩) (v := undef) rfl (by kernel_rfl) (by kernel_rfl) (by kernel_rfl) (fun _ _ _ h => h) (Or.inr ⟨by rfl, rfl⟩) hS0 ?r38rB
          try simp only [Act.put, List.setIfInBounds_toArray, List.set_cons_zero, List.set_cons_succ]
          refine' wpAnyH_take (i := 39) (oi := ⟨some 44, _, _, _, _, _⟩) (v := undef) rfl (by kernel_rfl) (by kernel_rfl) (by kernel_rfl) (fun _ _ _ h => h) (Or.inr ⟨by rfl, rfl⟩) hS0 ?r39rB
          try simp only [Act.put, List.setIfInBounds_toArray, List.set_cons_zero, List.set_cons_succ]
          refine' wpAnyH_take (i := 40) (oi := ⟨some 45, _, _, _, _, _⟩) (v := undef) rfl (by kernel_rfl) (by kernel_rfl) (by kernel_rfl) (fun _ _ _ h => h) (Or.inr ⟨by rfl, rfl⟩) hS0 ?r40rB
          try simp only [Act.put, List.setIfInBounds_toArray, List.set_cons_zero, List.set_cons_succ]
          refine' wpAnyH_take (i := 41) (oi := ⟨some 46, _, _, _, _, _⟩) (v := undef) rfl (by kernel_rfl) (by kernel_rfl) (by kernel_rfl) (fun _ _ _ h => h) (Or.inr ⟨by rfl, rfl⟩) hS0 ?r41rB
          try simp only [Act.put, List.setIfInBounds_toArray, List.set_cons_zero, List.set_cons_succ]
          refine' wpAnyH_take (i := 42) (oi := ⟨some 47, _, _, _, _, _⟩) (v := undef) rfl (by kernel_rfl) (by kernel_rfl) (by kernel_rfl) (fun _ _ _ h => h) (Or.inr ⟨by rfl, rfl⟩) hS0 ?r42rB
          try simp only [Act.put, List.setIfInBounds_toArray, List.set_cons_zero, List.set_cons_succ]
          refine' wpAnyH_take (i := 43) (oi := ⟨some 48, _, _, _, _, _⟩) (v := undef) rfl (by kernel_rfl) (by kernel_rfl) (by kernel_rfl) (fun _ _ _ h => h) (Or.inr ⟨by rfl, rfl⟩) hS0 ?r43rB
          try simp only [Act.put, List.setIfInBounds_toArray, List.set_cons_zero, List.set_cons_succ]
          refine' wpAnyH_take (i := 44) (oi := ⟨some 49, _, _, _, _, _⟩) (v := (.bool true)) rfl (by kernel_rfl) (by kernel_rfl) (by kernel_rfl) (fun _ _ _ h => h) (Or.inl ⟨by rfl, ?y44rB⟩) hS0 ?r44rB
          case y44rB =>
            intro w' hSw
            obtain ⟨e0, e1, e2, e3⟩ := HE.out _ hSw; obtain ⟨d0, d1, d2⟩ := HD.out _ hSw
            go_simp
            try simp only [j1, j2, j3]
            try rfl
          try simp only [Act.put, List.setIfInBounds_toArray, List.set_cons_zero, List.set_cons_succ]
          refine' wpAnyH_take (i := 45) (oi := ⟨some 50, _, _, _, _, _⟩) (v := (.bool true)) rfl (by kernel_rfl) (by kernel_rfl) (by kernel_rfl) (fun _ _ _ h => h) (Or.inl ⟨by rfl, ?y45rB⟩) hS0 ?r45rB
          case y45rB =>
            intro w' hSw
            obtain ⟨e0, e1, e2, e3⟩ := HE.out _ hSw; obtain ⟨d0, d1, d2⟩ := HD.out _ hSw
            go_simp
            try simp only [j1, j2, j3]
            try rfl
          try simp only [Act.put, List.setIfInBounds_toArray, List.set_cons_zero, List.set_cons_succ]
          refine wpAnyH_done (by kernel_rfl) ?_ _
          go_wp2_with fail
          go_meet
          case rel => exact ⟨by rw [HB.out], hS0⟩
        · have HB := Lib.hid (show bb = true by rw [HBB.out]; exact decide_eq_true ⟨hlt, by rw [HU.out]; exact .inr ⟨e1, e2⟩⟩)
          have j1 : decide (u.1 < q.1) = false := decide_eq_false (by omega)
          have j2 : (u.1 == q.1) = true := by simp [e1]
          have j3 : decide (u.2 ≤ q.2) = true := decide_eq_true e2
          clear e1
          refine wp_region_held_drew (S := fun Z => Below Y.heap.size Y Z) hfo (hbr.trans ((show Below wr.heap.size wr wr.drew from (Below.refl _ _).drew).mono hbr.size)) (fun hS0 => ?_)
          generalize wr.drew = wy at hS0 ⊢
          refine' wpAnyH_take (i := 0) (oi := ⟨some 5, _, _, _, _, _⟩) (v := _) rfl (by kernel_rfl) (by kernel_rfl) (by kernel_rfl) (fun _ _ _ h => h) (Or.inl ⟨by rfl, ?y0rC⟩) hS0 ?r0rC
          case y0rC =>
            intro w' hSw
            obtain ⟨e0, e1, e2, e3⟩ := HE.out _ hSw; obtain ⟨d0, d1, d2⟩ := HD.out _ hSw
            go_simp
            try simp only [j1, j2, j3]
            try rfl
          try simp only [Act.put, List.setIfInBounds_toArray, List.set_cons_zero, List.set_cons_succ]
          refine' wpAnyH_take (i := 1) (oi := ⟨some 6, _, _, _, _, _⟩) (v := _) rfl (by kernel_rfl) (by kernel_rfl) (by kernel_rfl) (fun _ _ _ h => h) (Or.inl ⟨by rfl, ?y1rC⟩) hS0 ?r1rC
          case y1rC =>
            intro w' hSw
            obtain ⟨e0, e1, e2, e3⟩ := HE.out _ hSw; obtain ⟨d0, d1, d2⟩ := HD.out _ hSw
            go_simp
            try simp only [j1, j2, j3]
            try rfl
          try simp only [Act.put, List.setIfInBounds_toArray, List.set_cons_zero, List.set_cons_succ]
          refine' wpAnyH_take (i := 2) (oi := ⟨some 7, _, _, _, _, _⟩) (v := _) rfl (by kernel_rfl) (by kernel_rfl) (by kernel_rfl) (fun _ _ _ h => h) (Or.inl ⟨by rfl, ?y2rC⟩) hS0 ?r2rC
          case y2rC =>
            intro w' hSw
            obtain ⟨e0, e1, e2, e3⟩ := HE.out _ hSw; obtain ⟨d0, d1, d2⟩ := HD.out _ hSw
            go_simp
            try simp only [j1, j2, j3]
            try rfl
          try simp only [Act.put, List.setIfInBounds_toArray, List.set_cons_zero, List.set_cons_succ]
          refine' wpAnyH_take (i := 3) (oi := ⟨some 8, _, _, _, _, _⟩) (v := _) rfl (by kernel_rfl) (by kernel_rfl) (by kernel_rfl) (fun _ _ _ h => h) (Or.inl ⟨by rfl, ?y3rC⟩) hS0 ?r3rC
          case y3rC =>
            intro w' hSw
            obtain ⟨e0, e1, e2, e3⟩ := HE.out _ hSw; obtain ⟨d0, d1, d2⟩ := HD.out _ hSw
            go_simp
            try simp only [j1, j2, j3]
            try rfl
          try simp only [Act.put, List.setIfInBounds_toArray, List.set_cons_zero, List.set_cons_succ]
          refine' wpAnyH_take (i := 4) (oi := ⟨some 9, _, _, _, _, _⟩) (v := _) rfl (by kernel_rfl) (by kernel_rfl) (by kernel_rfl) (fun _ _ _ h => h) (Or.inl ⟨by rfl, ?y4rC⟩) hS0 ?r4rC
          case y4rC =>
            intro w' hSw
            obtain ⟨e0, e1, e2, e3⟩ := HE.out _ hSw; obtain ⟨d0, d1, d2⟩ := HD.out _ hSw
            go_simp
            try simp only [j1, j2, j3]
            try rfl
          try simp only [Act.put, List.setIfInBounds_toArray, List.set_cons_zero, List.set_cons_succ]
          refine' wpAnyH_take (i := 5) (oi := ⟨some 10, _, _, _, _, _⟩) (v := _) rfl (by kernel_rfl) (by kernel_rfl) (by kernel_rfl) (fun _ _ _ h => h) (Or.inl ⟨by rfl, ?y5rC⟩) hS0 ?r5rC
          case y5rC =>
            intro w' hSw
            obtain ⟨e0, e1, e2, e3⟩ := HE.out _ hSw; obtain ⟨d0, d1, d2⟩ := HD.out _ hSw
            go_simp
            try simp only [j1, j2, j3]
            try rfl
          try simp only [Act.put, List.setIfInBounds_toArray, List.set_cons_zero, List.set_cons_succ]
          refine' wpAnyH_take (i := 6) (oi := ⟨some 11, _, _, _, _, _⟩) (v := _) rfl (by kernel_rfl) (by kernel_rfl) (by kernel_rfl) (fun _ _ _ h => h) (Or.inl ⟨by rfl, ?y6rC⟩) hS0 ?r6rC
          case y6rC =>
            intro w' hSw
            obtain ⟨e0, e1, e2, e3⟩ := HE.out _ hSw; obtain ⟨d0, d1, d2⟩ := HD.out _ hSw
            go_simp
            try simp only [j1, j2, j3]
            try rfl
          try simp only [Act.put, List.setIfInBounds_toArray, List.set_cons_zero, List.set_cons_succ]
          refine' wpAnyH_take (i := 7) (oi := ⟨some 12, _, _, _, _, _⟩) (v := _) rfl (by kernel_rfl) (by kernel_rfl) (by kernel_rfl) (fun _ _ _ h => h) (Or.inl ⟨by rfl, ?y7rC⟩) hS0 ?r7rC
          case y7rC =>
            intro w' hSw
            obtain ⟨e0, e1, e2, e3⟩ := HE.out _ hSw; obtain ⟨d0, d1, d2⟩ := HD.out _ hSw
            go_simp
            try simp only [j1, j2, j3]
            try rfl
          try simp only [Act.put, List.setIfInBounds_toArray, List.set_cons_zero, List.set_cons_succ]
          refine' wpAnyH_take (i := 8) (oi := ⟨some 13, _, _, _, _, _⟩) (v := _) rfl (by kernel_rfl) (by kernel_rfl) (by kernel_rfl) (fun _ _ _ h => h) (Or.inl ⟨by rfl, ?y8rC⟩) hS0 ?r8rC
          case y8rC =>
            intro w' hSw
            obtain ⟨e0, e1, e2, e3⟩ := HE.out _ hSw; obtain ⟨d0, d1, d2⟩ := HD.out _ hSw
            go_simp
            try simp only [j1, j2, j3]
            try rfl
          try simp only [Act.put, List.setIfInBounds_toArray, List.set_cons_zero, List.set_cons_succ]
          refine' wpAnyH_take (i := 9) (oi := ⟨some 14, _, _, _, _, _⟩) (v := _) rfl (by kernel_rfl) (by kernel_rfl) (by kernel_rfl) (fun _ _ _ h => h) (Or.inl ⟨by rfl, ?y9rC⟩) hS0 ?r9rC
          case y9rC =>
            intro w' hSw
            obtain ⟨e0, e1, e2, e3⟩ := HE.out _ hSw; obtain ⟨d0, d1, d2⟩ := HD.out _ hSw
            go_simp
            try simp only [j1, j2, j3]
            try rfl
          try simp only [Act.put, List.setIfInBounds_toArray, List.set_cons_zero, List.set_cons_succ]
          refine' wpAnyH_take (i := 10) (oi := ⟨some 15, _, _, _, _, _⟩) (v := _) rfl (by kernel_rfl) (by kernel_rfl) (by kernel_rfl) (fun _ _ _ h => h) (Or.inl ⟨by rfl, ?y10rC⟩) hS0 ?r10rC
          case y10rC =>
            intro w' hSw
            obtain ⟨e0, e1, e2, e3⟩ := HE.out _ hSw; obtain ⟨d0, d1, d2⟩ := HD.out _ hSw
            go_simp
            try simp only [j1, j2, j3]
            try rfl
          try simp only [Act.put, List.setIfInBounds_toArray, List.set_cons_zero, List.set_cons_succ]
          refine' wpAnyH_take (i := 11) (oi := ⟨some 16, _, _, _, _, _⟩) (v := _) rfl (by kernel_rfl) (by kernel_rfl) (by kernel_rfl) (fun _ _ _ h => h) (Or.inl ⟨by rfl, ?y11rC⟩) hS0 ?r11rC
          case y11rC =>
            intro w' hSw
            obtain ⟨e0, e1, e2, e3⟩ := HE.out _ hSw; obtain ⟨d0, d1, d2⟩ := HD.out _ hSw
            go_simp
            try simp only [j1, j2, j3]
            try rfl
          try simp only [Act.put, List.setIfInBounds_toArray, List.set_cons_zero, List.set_cons_succ]
          refine' wpAnyH_take (i := 12) (oi := ⟨some 17, _, _, _, _, _⟩) (v := _) rfl (by kernel_rfl) (by kernel_rfl) (by kernel_rfl) (fun _ _ _ h => h) (Or.inl ⟨by rfl, ?y12rC⟩) hS0 ?r12rC
          case y12rC =>
            intro w' hSw
            obtain ⟨e0, e1, e2, e3⟩ := HE.out _ hSw; obtain ⟨d0, d1, d2⟩ := HD.out _ hSw
            go_simp
            try simp only [j1, j2, j3]
            try rfl
          try simp only [Act.put, List.setIfInBounds_toArray, List.set_cons_zero, List.set_cons_succ]
          refine' wpAnyH_take (i := 13) (oi := ⟨some 18, _, _, _, _, _⟩) (v := _) rfl (by kernel_rfl) (by kernel_rfl) (by kernel_rfl) (fun _ _ _ h => h) (Or.inl ⟨by rfl, ?y13rC⟩) hS0 ?r13rC
          case y13rC =>
            intro w' hSw
            obtain ⟨e0, e1, e2, e3⟩ := HE.out _ hSw; obtain ⟨d0, d1, d2⟩ := HD.out _ hSw
            go_simp
            try simp only [j1, j2, j3]
            try rfl
          try simp only [Act.put, List.setIfInBounds_toArray, List.set_cons_zero, List.set_cons_succ]
          refine' wpAnyH_take (i := 14) (oi := ⟨some 19, _, _, _, _, _⟩) (v := _) rfl (by kernel_rfl) (by kernel_rfl) (by kernel_rfl) (fun _ _ _ h => h) (Or.inl ⟨by rfl, ?y14rC⟩) hS0 ?r14rC
          case y14rC =>
            intro w' hSw
            obtain ⟨e0, e1, e2, e3⟩ := HE.out _ hSw; obtain ⟨d0, d1, d2⟩ := HD.out _ hSw
            go_simp
            try simp only [j1, j2, j3]
            try rfl
          try simp only [Act.put, List.setIfInBounds_toArray, List.set_cons_zero, List.set_cons_succ]
          refine' wpAnyH_take (i := 15) (oi := ⟨some 20, _, _, _, _, _⟩) (v := _) rfl (by kernel_rfl) (by kernel_rfl) (by kernel_rfl) (fun _ _ _ h => h) (Or.inl ⟨by rfl, ?y15rC⟩) hS0 ?r15rC
          case y15rC =>
            intro w' hSw
            obtain ⟨e0, e1, e2, e3⟩ := HE.out _ hSw; obtain ⟨d0, d1, d2⟩ := HD.out _ hSw
            go_simp
            try simp only [j1, j2, j3]
            try rfl
          try simp only [Act.put, List.setIfInBounds_toArray, List.set_cons_zero, List.set_cons_succ]
          refine' wpAnyH_take (i := 16) (oi := ⟨some 21, _, _, _, _, _⟩) (v := _) rfl (by kernel_rfl) (by kernel_rfl) (by kernel_rfl) (fun _ _ _ h => h) (Or.inl ⟨by rfl, ?y16rC⟩) hS0 ?r16rC
          case y16rC =>
            intro w' hSw
            obtain ⟨e0, e1, e2, e3⟩ := HE.out _ hSw; obtain ⟨d0, d1, d2⟩ := HD.out _ hSw
            go_simp
            try simp only [j1, j2, j3]
            try rfl
          try simp only [Act.put, List.setIfInBounds_toArray, List.set_cons_zero, List.set_cons_succ]
          refine' wpAnyH_take (i := 17) (oi := ⟨some 22, _, _, _, _, _⟩) (v := _) rfl (by kernel_rfl) (by kernel_rfl) (by kernel_rfl) (fun _ _ _ h => h) (Or.inl ⟨by rfl, ?y17rC⟩) hS0 ?r17rC
          case y17rC =>
            intro w' hSw
            obtain ⟨e0, e1, e2, e3⟩ := HE.out _ hSw; obtain ⟨d0, d1, d2⟩ := HD.out _ hSw
            go_simp
            try simp only [j1, j2, j3]
            try rfl
          try simp only [Act.put, List.setIfInBounds_toArray, List.set_cons_zero, List.set_cons_succ]
          refine' wpAnyH_take (i := 18) (oi := ⟨some 23, _, _, _, _, _⟩) (v := (.bool false)) rfl (by kernel_rfl) (by kernel_rfl) (by kernel_rfl) (fun _ _ _ h => h) (Or.inl ⟨by rfl, ?y18rC⟩) hS0 ?r18rC
          case y18rC =>
            intro w' hSw
            obtain ⟨e0, e1, e2, e3⟩ := HE.out _ hSw; obtain ⟨d0, d1, d2⟩ := HD.out _ hSw
            go_simp
            try simp only [j1, j2, j3]
            try rfl
          try simp only [Act.put, List.setIfInBounds_toArray, List.set_cons_zero, List.set_cons_succ]
          refine' wpAnyH_take (i := 19) (oi := ⟨some 24, _, _, _, _, _⟩) (v := (.bool false)) rfl (by kernel_rfl) (by kernel_rfl) (by kernel_rfl) (fun _ _ _ h => h) (Or.inl ⟨by rfl, ?y19rC⟩) hS0 ?r19rC
          case y19rC =>
            intro w' hSw
            obtain ⟨e0, e1, e2, e3⟩ := HE.out _ hSw; obtain ⟨d0, d1, d2⟩ := HD.out _ hSw
            go_simp
            try simp only [j1, j2, j3]
            try rfl
          try simp only [Act.put, List.setIfInBounds_toArray, List.set_cons_zero, List.set_cons_succ]
          refine' wpAnyH_take (i := 20) (oi := ⟨some 25, _, _, _, _, _⟩) (v := _) rfl (by kernel_rfl) (by kernel_rfl) (by kernel_rfl) (fun _ _ _ h => h) (Or.inl ⟨by rfl, ?y20rC⟩) hS0 ?r20rC
          case y20rC =>
            intro w' hSw
            obtain ⟨e0, e1, e2, e3⟩ := HE.out _ hSw; obtain ⟨d0, d1, d2⟩ := HD.out _ hSw
            go_simp
            try simp only [j1, j2, j3]
            try rfl
          try simp only [Act.put, List.setIfInBounds_toArray, List.set_cons_zero, List.set_cons_succ]
          refine' wpAnyH_take (i := 21) (oi := ⟨some 26, _, _, _, _, _⟩) (v := _) rfl (by kernel_rfl) (by kernel_rfl) (by kernel_rfl) (fun _ _ _ h => h) (Or.inl ⟨by rfl, ?y21rC⟩) hS0 ?r21rC
          case y21rC =>
            intro w' hSw
            obtain ⟨e0, e1, e2, e3⟩ := HE.out _ hSw; obtain ⟨d0, d1, d2⟩ := HD.out _ hSw
            go_simp
            try simp only [j1, j2, j3]
            try rfl
          try simp only [Act.put, List.setIfInBounds_toArray, List.set_cons_zero, List.set_cons_succ]
          refine' wpAnyH_take (i := 22) (oi := ⟨some 27, _, _, _, _, _⟩) (v := _) rfl (by kernel_rfl) (by kernel_rfl) (by kernel_rfl) (fun _ _ _ h => h) (Or.inl ⟨by rfl, ?y22rC⟩) hS0 ?r22rC
          case y22rC =>
            intro w' hSw
            obtain ⟨e0, e1, e2, e3⟩ := HE.out _ hSw; obtain ⟨d0, d1, d2⟩ := HD.out _ hSw
            go_simp
            try simp only [j1, j2, j3]
            try rfl
          try simp only [Act.put, List.setIfInBounds_toArray, List.set_cons_zero, List.set_cons_succ]
          refine' wpAnyH_take (i := 23) (oi := ⟨some 28, _, _, _, _, _⟩) (v := _) rfl (by kernel_rfl) (by kernel_rfl) (by kernel_rfl) (fun _ _ _ h => h) (Or.inl ⟨by rfl, ?y23rC⟩) hS0 ?r23rC
          case y23rC =>
            intro w' hSw
            obtain ⟨e0, e1, e2, e3⟩ := HE.out _ hSw; obtain ⟨d0, d1, d2⟩ := HD.out _ hSw
            go_simp
            try simp only [j1, j2, j3]
            try rfl
          try simp only [Act.put, List.setIfInBounds_toArray, List.set_cons_zero, List.set_cons_succ]
          refine' wpAnyH_take (i := 24) (oi := ⟨some 29, _, _, _, _, _⟩) (v := _) rfl (by kernel_rfl) (by kernel_rfl) (by kernel_rfl) (fun _ _ _ h => h) (Or.inl ⟨by rfl, ?y24rC⟩) hS0 ?r24rC
          case y24rC =>
            intro w' hSw
            obtain ⟨e0, e1, e2, e3⟩ := HE.out _ hSw; obtain ⟨d0, d1, d2⟩ := HD.out _ hSw
            go_simp
            try simp only [j1, j2, j3]
            try rfl
          try simp only [Act.put, List.setIfInBounds_toArray, List.set_cons_zero, List.set_cons_succ]
          refine' wpAnyH_take (i := 25) (oi := ⟨some 30, _, _, _, _, _⟩) (v := _) rfl (by kernel_rfl) (by kernel_rfl) (by kernel_rfl) (fun _ _ _ h => h) (Or.inl ⟨by rfl, ?y25rC⟩) hS0 ?r25rC
          case y25rC =>
            intro w' hSw
            obtain ⟨e0, e1, e2, e3⟩ := HE.out _ hSw; obtain ⟨d0, d1, d2⟩ := HD.out _ hSw
            go_simp
            try simp only [j1, j2, j3]
            try rfl
          try simp only [Act.put, List.setIfInBounds_toArray, List.set_cons_zero, List.set_cons_succ]
          refine' wpAnyH_take (i := 26) (oi := ⟨some 31, _, _, _, _, _⟩) (v := _) rfl (by kernel_rfl) (by kernel_rfl) (by kernel_rfl) (fun _ _ _ h => h) (Or.inl ⟨by rfl, ?y26rC⟩) hS0 ?r26rC
          case y26rC =>
            intro w' hSw
            obtain ⟨e0, e1, e2, e3⟩ := HE.out _ hSw; obtain ⟨d0, d1, d2⟩ := HD.out _ hSw
            go_simp
            try simp only [j1, j2, j3]
            try rfl
          try simp only [Act.put, List.setIfInBounds_toArray, List.set_cons_zero, List.set_cons_succ]
          refine' wpAnyH_take (i := 27) (oi := ⟨some 32, _, _, _, _, _⟩) (v := _) rfl (by kernel_rfl) (by kernel_rfl) (by kernel_rfl) (fun _ _ _ h => h) (Or.inl ⟨by rfl, ?y27rC⟩) hS0 ?r27rC
          case y27rC =>
            intro w' hSw
            obtain ⟨e0, e1, e2, e3⟩ := HE.out _ hSw; obtain ⟨d0, d1, d2⟩ := HD.out _ hSw
            go_simp
            try simp only [j1, j2, j3]
            try rfl
          try simp only [Act.put, List.setIfInBounds_toArray, List.set_cons_zero, List.set_cons_succ]
          refine' wpAnyH_take (i := 28) (oi := ⟨some 33, _, _, _, _, _⟩) (v := _) rfl (by kernel_rfl) (by kernel_rfl) (by kernel_rfl) (fun _ _ _ h => h) (Or.inl ⟨by rfl, ?y28rC⟩) hS0 ?r28rC
          case y28rC =>
            intro w' hSw
            obtain ⟨e0, e1, e2, e3⟩ := HE.out _ hSw; obtain ⟨d0, d1, d2⟩ := HD.out _ hSw
            go_simp
            try simp only [j1, j2, j3]
            try rfl
          try simp only [Act.put, List.setIfInBounds_toArray, List.set_cons_zero, List.set_cons_succ]
          refine' wpAnyH_take (i := 29) (oi := ⟨some 34, _, _, _, _, _⟩) (v := _) rfl (by kernel_rfl) (by kernel_rfl) (by kernel_rfl) (fun _ _ _ h => h) (Or.inl ⟨by rfl, ?y29rC⟩) hS0 ?r29rC
          case y29rC =>
            intro w' hSw
            obtain ⟨e0, e1, e2, e3⟩ := HE.out _ hSw; obtain ⟨d0, d1, d2⟩ := HD.out _ hSw
            go_simp
            try simp only [j1, j2, j3]
            try rfl
          try simp only [Act.put, List.setIfInBounds_toArray, List.set_cons_zero, List.set_cons_succ]
          refine' wpAnyH_take (i := 30) (oi := ⟨some 35, _, _, _, _, _⟩) (v := (.bool true)) rfl (by kernel_rfl) (by kernel_rfl) (by kernel_rfl) (fun _ _ _ h => h) (Or.inl ⟨by rfl, ?y30rC⟩) hS0 ?r30rC
          case y30rC =>
            intro w' hSw
            obtain ⟨e0, e1, e2, e3⟩ := HE.out _ hSw; obtain ⟨d0, d1, d2⟩ := HD.out _ hSw
            go_simp
            try simp only [j1, j2, j3]
            try rfl
          try simp only [Act.put, List.setIfInBounds_toArray, List.set_cons_zero, List.set_cons_succ]
          refine' wpAnyH_take (i := 31) (oi := ⟨some 36, _, _, _, _, _⟩) (v := (.bool true)) rfl (by kernel_rfl) (by kernel_rfl) (by kernel_rfl) (fun _ _ _ h => h) (Or.inl ⟨by rfl, ?y31rC⟩) hS0 ?r31rC
          case y31rC =>
            intro w' hSw
            obtain ⟨e0, e1, e2, e3⟩ := HE.out _ hSw; obtain ⟨d0, d1, d2⟩ := HD.out _ hSw
            go_simp
            try simp only [j1, j2, j3]
            try rfl
          try simp only [Act.put, List.setIfInBounds_toArray, List.set_cons_zero, List.set_cons_succ]
          refine' wpAnyH_take (i := 32) (oi := ⟨some 37, _, _, _, _, _⟩) (v := _) rfl (by kernel_rfl) (by kernel_rfl) (by kernel_rfl) (fun _ _ _ h => h) (Or.inl ⟨by rfl, ?y32rC⟩) hS0 ?r32rC
          case y32rC =>
            intro w' hSw
            obtain ⟨e0, e1, e2, e3⟩ := HE.out _ hSw; obtain ⟨d0, d1, d2⟩ := HD.out _ hSw
            go_simp
            try simp only [j1, j2, j3]
            try rfl
          try simp only [Act.put, List.setIfInBounds_toArray, List.set_cons_zero, List.set_cons_succ]
          refine' wpAnyH_take (i := 33) (oi := ⟨some 38, _, _, _, _, _⟩) (v := _) rfl (by kernel_rfl) (by kernel_rfl) (by kernel_rfl) (fun _ _ _ h => h) (Or.inl ⟨by rfl, ?y33rC⟩) hS0 ?r33rC
          case y33rC =>
            intro w' hSw
            obtain ⟨e0, e1, e2, e3⟩ := HE.out _ hSw; obtain ⟨d0, d1, d2⟩ := HD.out _ hSw
            go_simp
            try simp only [j1, j2, j3]
            try rfl
          try simp only [Act.put, List.setIfInBounds_toArray, List.set_cons_zero, List.set_cons_succ]
          refine' wpAnyH_take (i := 34) (oi := ⟨some 39, _, _, _, _, _⟩) (v := _) rfl (by kernel_rfl) (by kernel_rfl) (by kernel_rfl) (fun _ _ _ h => h) (Or.inl ⟨by rfl, ?y34rC⟩) hS0 ?r34rC
          case y34rC =>
            intro w' hSw
            obtain ⟨e0, e1, e2, e3⟩ := HE.out _ hSw; obtain ⟨d0, d1, d2⟩ := HD.out _ hSw
            go_simp
            try simp only [j1, j2, j3]
            try rfl
          try simp only [Act.put, List.setIfInBounds_toArray, List.set_cons_zero, List.set_cons_succ]
          refine' wpAnyH_take (i := 35) (oi := ⟨some 40, _, _, _, _, _⟩) (v := _) rfl (by kernel_rfl) (by kernel_rfl) (by kernel_rfl) (fun _ _ _ h => h) (Or.inl ⟨by rfl, ?y35rC⟩) hS0 ?r35rC
          case y35rC =>
            intro w' hSw
            obtain ⟨e0, e1, e2, e3⟩ := HE.out _ hSw; obtain ⟨d0, d1, d2⟩ := HD.out _ hSw
            go_simp
            try simp only [j1, j2, j3]
            try rfl
          try simp only [Act.put, List.setIfInBounds_toArray, List.set_cons_zero, List.set_cons_succ]
          refine' wpAnyH_take (i := 36) (oi := ⟨some 41, _, _, _, _, _⟩) (v := _) rfl (by kernel_rfl) (by kernel_rfl) (by kernel_rfl) (fun _ _ _ h => h) (Or.inl ⟨by rfl, ?y36rC⟩) hS0 ?r36rC
          case y36rC =>
            intro w' hSw
            obtain ⟨e0, e1, e2, e3⟩ := HE.out _ hSw; obtain ⟨d0, d1, d2⟩ := HD.out _ hSw
            go_simp
            try simp only [j1, j2, j3]
            try rfl
          try simp only [Act.put, List.setIfInBounds_toArray, List.set_cons_zero, List.set_cons_succ]
          refine' wpAnyH_take (i := 37) (oi := ⟨some 42, _, _, _, _, _⟩) (v := _) rfl (by kernel_rfl) (by kernel_rfl) (by kernel_rfl) (fun _ _ _ h => h) (Or.inl ⟨by rfl, ?y37rC⟩) hS0 ?r37rC
          case y37rC =>
            intro w' hSw
            obtain ⟨e0, e1, e2, e3⟩ := HE.out _ hSw; obtain ⟨d0, d1, d2⟩ := HD.out _ hSw
            go_simp
            try simp only [j1, j2, j3]
            try rfl
          try simp only [Act.put, List.setIfInBounds_toArray, List.set_cons_zero, List.set_cons_succ]
          refine' wpAnyH_take (i := 38) (oi := ⟨some 43, _, _, _, _, _⟩) (v := _) rfl (by kernel_rfl) (by kernel_rfl) (by kernel_rfl) (fun _ _ _ h => h) (Or.inl ⟨by rfl, ?y38rC⟩) hS0 ?r38rC
          case y38rC =>
            intro w' hSw
            obtain ⟨e0, e1, e2, e3⟩ := HE.out _ hSw; obtain ⟨d0, d1, d2⟩ := HD.out _ hSw
            go_simp
            try simp only [j1, j2, j3]
            try rfl
          try simp only [Act.put, List.setIfInBounds_toArray, List.set_cons_zero, List.set_cons_succ]
          refine' wpAnyH_take (i := 39) (oi := ⟨some 44, _, _, _, _, _⟩) (v := _) rfl (by kernel_rfl) (by kernel_rfl) (by kernel_rfl) (fun _ _ _ h => h) (Or.inl ⟨by rfl, ?y39rC⟩) hS0 ?r39rC
          case y39rC =>
            intro w' hSw
            obtain ⟨e0, e1, e2, e3⟩ := HE.out _ hSw; obtain ⟨d0, d1, d2⟩ := HD.out _ hSw
            go_simp
            try simp only [j1, j2, j3]
            try rfl
          try simp only [Act.put, List.setIfInBounds_toArray, List.set_cons_zero, List.set_cons_succ]
          refine' wpAnyH_take (i := 40) (oi := ⟨some 45, _, _, _, _, _⟩) (v := _) rfl (by kernel_rfl) (by kernel_rfl) (by kernel_rfl) (fun _ _ _ h => h) (Or.inl ⟨by rfl, ?y40rC⟩) hS0 ?r40rC
          case y40rC =>
            intro w' hSw
            obtain ⟨e0, e1, e2, e3⟩ := HE.out _ hSw; obtain ⟨d0, d1, d2⟩ := HD.out _ hSw
            go_simp
            try simp only [j1, j2, j3]
            try rfl
          try simp only [Act.put, List.setIfInBounds_toArray, List.set_cons_zero, List.set_cons_succ]
          refine' wpAnyH_take (i := 41) (oi := ⟨some 46, _, _, _, _, _⟩) (v := _) rfl (by kernel_rfl) (by kernel_rfl) (by kernel_rfl) (fun _ _ _ h => h) (Or.inl ⟨by rfl, ?y41rC⟩) hS0 ?r41rC
          case y41rC =>
            intro w' hSw
            obtain ⟨e0, e1, e2, e3⟩ := HE.out _ hSw; obtain ⟨d0, d1, d2⟩ := HD.out _ hSw
            go_simp
            try simp only [j1, j2, j3]
            try rfl
          try simp only [Act.put, List.setIfInBounds_toArray, List.set_cons_zero, List.set_cons_succ]
          refine' wpAnyH_take (i := 42) (oi := ⟨some 47, _, _, _, _, _⟩) (v := (.bool true)) rfl (by kernel_rfl) (by kernel_rfl) (by kernel_rfl) (fun _ _ _ h => h) (Or.inl ⟨by rfl, ?y42rC⟩) hS0 ?r42rC
          case y42rC =>
            intro w' hSw
            obtain ⟨e0, e1, e2, e3⟩ := HE.out _ hSw; obtain ⟨d0, d1, d2⟩ := HD.out _ hSw
            go_simp
            try simp only [j1, j2, j3]
            try rfl
          try simp only [Act.put, List.setIfInBounds_toArray, List.set_cons_zero, List.set_cons_succ]
          refine' wpAnyH_take (i := 43) (oi := ⟨some 48, _, _, _, _, _⟩) (v := (.bool true)) rfl (by kernel_rfl) (by kernel_rfl) (by kernel_rfl) (fun _ _ _ h => h) (Or.inl ⟨by rfl, ?y43rC⟩) hS0 ?r43rC
          case y43rC =>
            intro w' hSw
            obtain ⟨e0, e1, e2, e3⟩ := HE.out _ hSw; obtain ⟨d0, d1, d2⟩ := HD.out _ hSw
            go_simp
            try simp only [j1, j2, j3]
            try rfl
          try simp only [Act.put, List.setIfInBounds_toArray, List.set_cons_zero, List.set_cons_succ]
          refine' wpAnyH_take (i := 44) (oi := ⟨some 49, _, _, _, _, _⟩) (v := (.bool true)) rfl (by kernel_rfl) (by kernel_rfl) (by kernel_rfl) (fun _ _ _ h => h) (Or.inl ⟨by rfl, ?y44rC⟩) hS0 ?r44rC
          case y44rC =>
            intro w' hSw
            obtain ⟨e0, e1, e2, e3⟩ := HE.out _ hSw; obtain ⟨d0, d1, d2⟩ := HD.out _ hSw
            go_simp
            try simp only [j1, j2, j3]
            try rfl
          try simp only [Act.put, List.setIfInBounds_toArray, List.set_cons_zero, List.set_cons_succ]
          refine' wpAnyH_take (i := 45) (oi := ⟨some 50, _, _, _, _, _⟩) (v := (.bool true)) rfl (by kernel_rfl) (by kernel_rfl) (by kernel_rfl) (fun _ _ _ h => h) (Or.inl ⟨by rfl, ?y45rC⟩) hS0 ?r45rC
          case y45rC =>
            intro w' hSw
            obtain ⟨e0, e1, e2, e3⟩ := HE.out _ hSw; obtain ⟨d0, d1, d2⟩ := HD.out _ hSw
            go_simp
            try simp only [j1, j2, j3]
            try rfl
          try simp only [Act.put, List.setIfInBounds_toArray, List.set_cons_zero, List.set_cons_succ]
          refine wpAnyH_done (by kernel_rfl) ?_ _
          go_wp2_with fail
          go_meet
          case rel => exact ⟨by rw [HB.out], hS0⟩
        · have HB := Lib.hid (show bb = false by rw [HBB.out]; exact decide_eq_false (by rintro ⟨_, hl⟩; rw [HU.out] at hl; unfold Le at hl; omega))
          have j1 : decide (u.1 < q.1) = false := decide_eq_false (by omega)
          have j2 : (u.1 == q.1) = true := by simp [e1]
          have j3 : decide (u.2 ≤ q.2) = false := decide_eq_false e2
          clear e1
          refine wp_region_held_drew (S := fun Z => Below Y.heap.size Y Z) hfo (hbr.trans ((show Below wr.heap.size wr wr.drew from (Below.refl _ _).drew).mono hbr.size)) (fun hS0 => ?_)
          generalize wr.drew = wy at hS0 ⊢
          refine' wpAnyH_take (i := 0) (oi := ⟨some 5, _, _, _, _, _⟩) (v := _) rfl (by kernel_rfl) (by kernel_rfl) (by kernel_rfl) (fun _ _ _ h => h) (Or.inl ⟨by rfl, ?y0rD⟩) hS0 ?r0rD
          case y0rD =>
            intro w' hSw
            obtain ⟨e0, e1, e2, e3⟩ := HE.out _ hSw; obtain ⟨d0, d1, d2⟩ := HD.out _ hSw
            go_simp
            try simp only [j1, j2, j3]
            try rfl
          try simp only [Act.put, List.setIfInBounds_toArray, List.set_cons_zero, List.set_cons_succ]
          refine' wpAnyH_take (i := 1) (oi := ⟨some 6, _, _, _, _, _⟩) (v := _) rfl (by kernel_rfl) (by kernel_rfl) (by kernel_rfl) (fun _ _ _ h => h) (Or.inl ⟨by rfl, ?y1rD⟩) hS0 ?r1rD
          case y1rD =>
            intro w' hSw
            obtain ⟨e0, e1, e2, e3⟩ := HE.out _ hSw; obtain ⟨d0, d1, d2⟩ := HD.out _ hSw
            go_simp
            try simp only [j1, j2, j3]
            try rfl
          try simp only [Act.put, List.setIfInBounds_toArray, List.set_cons_zero, List.set_cons_succ]
          refine' wpAnyH_take (i := 2) (oi := ⟨some 7, _, _, _, _, _⟩) (v := _) rfl (by kernel_rfl) (by kernel_rfl) (by kernel_rfl) (fun _ _ _ h => h) (Or.inl ⟨by rfl, ?y2rD⟩) hS0 ?r2rD
          case y2rD =>
            intro w' hSw
            obtain ⟨e0, e1, e2, e3⟩ := HE.out _ hSw; obtain ⟨d0, d1, d2⟩ := HD.out _ hSw
            go_simp
            try simp only [j1, j2, j3]
            try rfl
          try simp only [Act.put, List.setIfInBounds_toArray, List.set_cons_zero, List.set_cons_succ]
          refine' wpAnyH_take (i := 3) (oi := ⟨some 8, _, _, _, _, _⟩) (v := _) rfl (by kernel_rfl) (by kernel_rfl) (by kernel_rfl) (fun _ _ _ h => h) (Or.inl ⟨by rfl, ?y3rD⟩) hS0 ?r3rD
          case y3rD =>
            intro w' hSw
            obtain ⟨e0, e1, e2, e3⟩ := HE.out _ hSw; obtain ⟨d0, d1, d2⟩ := HD.out _ hSw
            go_simp
            try simp only [j1, j2, j3]
            try rfl
          try simp only [Act.put, List.setIfInBounds_toArray, List.set_cons_zero, List.set_cons_succ]
          refine' wpAnyH_take (i := 4) (oi := ⟨some 9, _, _, _, _, _⟩) (v := _) rfl (by kernel_rfl) (by kernel_rfl) (by kernel_rfl) (fun _ _ _ h => h) (Or.inl ⟨by rfl, ?y4rD⟩) hS0 ?r4rD
          case y4rD =>
            intro w' hSw
            obtain ⟨e0, e1, e2, e3⟩ := HE.out _ hSw; obtain ⟨d0, d1, d2⟩ := HD.out _ hSw
            go_simp
            try simp only [j1, j2, j3]
            try rfl
          try simp only [Act.put, List.setIfInBounds_toArray, List.set_cons_zero, List.set_cons_succ]
          refine' wpAnyH_take (i := 5) (oi := ⟨some 10, _, _, _, _, _⟩) (v := _) rfl (by kernel_rfl) (by kernel_rfl) (by kernel_rfl) (fun _ _ _ h => h) (Or.inl ⟨by rfl, ?y5rD⟩) hS0 ?r5rD
          case y5rD =>
            intro w' hSw
            obtain ⟨e0, e1, e2, e3⟩ := HE.out _ hSw; obtain ⟨d0, d1, d2⟩ := HD.out _ hSw
            go_simp
            try simp only [j1, j2, j3]
            try rfl
          try simp only [Act.put, List.setIfInBounds_toArray, List.set_cons_zero, List.set_cons_succ]
          refine' wpAnyH_take (i := 6) (oi := ⟨some 11, _, _, _, _, _⟩) (v := _) rfl (by kernel_rfl) (by kernel_rfl) (by kernel_rfl) (fun _ _ _ h => h) (Or.inl ⟨by rfl, ?y6rD⟩) hS0 ?r6rD
          case y6rD =>
            intro w' hSw
            obtain ⟨e0, e1, e2, e3⟩ := HE.out _ hSw; obtain ⟨d0, d1, d2⟩ := HD.out _ hSw
            go_simp
            try simp only [j1, j2, j3]
            try rfl
          try simp only [Act.put, List.setIfInBounds_toArray, List.set_cons_zero, List.set_cons_succ]
          refine' wpAnyH_take (i := 7) (oi := ⟨some 12, _, _, _, _, _⟩) (v := _) rfl (by kernel_rfl) (by kernel_rfl) (by kernel_rfl) (fun _ _ _ h => h) (Or.inl ⟨by rfl, ?y7rD⟩) hS0 ?r7rD
          case y7rD =>
            intro w' hSw
            obtain ⟨e0, e1, e2, e3⟩ := HE.out _ hSw; obtain ⟨d0, d1, d2⟩ := HD.out _ hSw
            go_simp
            try simp only [j1, j2, j3]
            try rfl
          try simp only [Act.put, List.setIfInBounds_toArray, List.set_cons_zero, List.set_cons_succ]
          refine' wpAnyH_take (i := 8) (oi := ⟨some 13, _, _, _, _, _⟩) (v := _) rfl (by kernel_rfl) (by kernel_rfl) (by kernel_rfl) (fun _ _ _ h => h) (Or.inl ⟨by rfl, ?y8rD⟩) hS0 ?r8rD
          case y8rD =>
            intro w' hSw
            obtain ⟨e0, e1, e2, e3⟩ := HE.out _ hSw; obtain ⟨d0, d1, d2⟩ := HD.out _ hSw
            go_simp
            try simp only [j1, j2, j3]
            try rfl
          try simp only [Act.put, List.setIfInBounds_toArray, List.set_cons_zero, List.set_cons_succ]
          refine' wpAnyH_take (i := 9) (oi := ⟨some 14, _, _, _, _, _⟩) (v := _) rfl (by kernel_rfl) (by kernel_rfl) (by kernel_rfl) (fun _ _ _ h => h) (Or.inl ⟨by rfl, ?y9rD⟩) hS0 ?r9rD
          case y9rD =>
            intro w' hSw
            obtain ⟨e0, e1, e2, e3⟩ := HE.out _ hSw; obtain ⟨d0, d1, d2⟩ := HD.out _ hSw
            go_simp
            try simp only [j1, j2, j3]
            try rfl
          try simp only [Act.put, List.setIfInBounds_toArray, List.set_cons_zero, List.set_cons_succ]
          refine' wpAnyH_take (i := 10) (oi := ⟨some 15, _, _, _, _, _⟩) (v := _) rfl (by kernel_rfl) (by kernel_rfl) (by kernel_rfl) (fun _ _ _ h => h) (Or.inl ⟨by rfl, ?y10rD⟩) hS0 ?r10rD
          case y10rD =>
            intro w' hSw
            obtain ⟨e0, e1, e2, e3⟩ := HE.out _ hSw; obtain ⟨d0, d1, d2⟩ := HD.out _ hSw
            go_simp
            try simp only [j1, j2, j3]
            try rfl
          try simp only [Act.put, List.setIfInBounds_toArray, List.set_cons_zero, List.set_cons_succ]
          refine' wpAnyH_take (i := 11) (oi := ⟨some 16, _, _, _, _, _⟩) (v := _) rfl (by kernel_rfl) (by kernel_rfl) (by kernel_rfl) (fun _ _ _ h => h) (Or.inl ⟨by rfl, ?y11rD⟩) hS0 ?r11rD
          case y11rD =>
            intro w' hSw
            obtain ⟨e0, e1, e2, e3⟩ := HE.out _ hSw; obtain ⟨d0, d1, d2⟩ := HD.out _ hSw
            go_simp
            try simp only [j1, j2, j3]
            try rfl
          try simp only [Act.put, List.setIfInBounds_toArray, List.set_cons_zero, List.set_cons_succ]
          refine' wpAnyH_take (i := 12) (oi := ⟨some 17, _, _, _, _, _⟩) (v := _) rfl (by kernel_rfl) (by kernel_rfl) (by kernel_rfl) (fun _ _ _ h => h) (Or.inl ⟨by rfl, ?y12rD⟩) hS0 ?r12rD
          case y12rD =>
            intro w' hSw
            obtain ⟨e0, e1, e2, e3⟩ := HE.out _ hSw; obtain ⟨d0, d1, d2⟩ := HD.out _ hSw
            go_simp
            try simp only [j1, j2, j3]
            try rfl
          try simp only [Act.put, List.setIfInBounds_toArray, List.set_cons_zero, List.set_cons_succ]
          refine' wpAnyH_take (i := 13) (oi := ⟨some 18, _, _, _, _, _⟩) (v := _) rfl (by kernel_rfl) (by kernel_rfl) (by kernel_rfl) (fun _ _ _ h => h) (Or.inl ⟨by rfl, ?y13rD⟩) hS0 ?r13rD
          case y13rD =>
            intro w' hSw
            obtain ⟨e0, e1, e2, e3⟩ := HE.out _ hSw; obtain ⟨d0, d1, d2⟩ := HD.out _ hSw
            go_simp
            try simp only [j1, j2, j3]
            try rfl
          try simp only [Act.put, List.setIfInBounds_toArray, List.set_cons_zero, List.set_cons_succ]
          refine' wpAnyH_take (i := 14) (oi := ⟨some 19, _, _, _, _, _⟩) (v := _) rfl (by kernel_rfl) (by kernel_rfl) (by kernel_rfl) (fun _ _ _ h => h) (Or.inl ⟨by rfl, ?y14rD⟩) hS0 ?r14rD
          case y14rD =>
            intro w' hSw
            obtain ⟨e0, e1, e2, e3⟩ := HE.out _ hSw; obtain ⟨d0, d1, d2⟩ := HD.out _ hSw
            go_simp
            try simp only [j1, j2, j3]
            try rfl
          try simp only [Act.put, List.setIfInBounds_toArray, List.set_cons_zero, List.set_cons_succ]
          refine' wpAnyH_take (i := 15) (oi := ⟨some 20, _, _, _, _, _⟩) (v := _) rfl (by kernel_rfl) (by kernel_rfl) (by kernel_rfl) (fun _ _ _ h => h) (Or.inl ⟨by rfl, ?y15rD⟩) hS0 ?r15rD
          case y15rD =>
            intro w' hSw
            obtain ⟨e0, e1, e2, e3⟩ := HE.out _ hSw; obtain ⟨d0, d1, d2⟩ := HD.out _ hSw
            go_simp
            try simp only [j1, j2, j3]
            try rfl
          try simp only [Act.put, List.setIfInBounds_toArray, List.set_cons_zero, List.set_cons_succ]
          refine' wpAnyH_take (i := 16) (oi := ⟨some 21, _, _, _, _, _⟩) (v := _) rfl (by kernel_rfl) (by kernel_rfl) (by kernel_rfl) (fun _ _ _ h => h) (Or.inl ⟨by rfl, ?y16rD⟩) hS0 ?r16rD
          case y16rD =>
            intro w' hSw
            obtain ⟨e0, e1, e2, e3⟩ := HE.out _ hSw; obtain ⟨d0, d1, d2⟩ := HD.out _ hSw
            go_simp
            try simp only [j1, j2, j3]
            try rfl
          try simp only [Act.put, List.setIfInBounds_toArray, List.set_cons_zero, List.set_cons_succ]
          refine' wpAnyH_take (i := 17) (oi := ⟨some 22, _, _, _, _, _⟩) (v := _) rfl (by kernel_rfl) (by kernel_rfl) (by kernel_rfl) (fun _ _ _ h => h) (Or.inl ⟨by rfl, ?y17rD⟩) hS0 ?r17rD
          case y17rD =>
            intro w' hSw
            obtain ⟨e0, e1, e2, e3⟩ := HE.out _ hSw; obtain ⟨d0, d1, d2⟩ := HD.out _ hSw
            go_simp
            try simp only [j1, j2, j3]
            try rfl
          try simp only [Act.put, List.setIfInBounds_toArray, List.set_cons_zero, List.set_cons_succ]
          refine' wpAnyH_take (i := 18) (oi := ⟨some 23, _, _, _, _, _⟩) (v := (.bool false)) rfl (by kernel_rfl) (by kernel_rfl) (by kernel_rfl) (fun _ _ _ h => h) (Or.inl ⟨by rfl, ?y18rD⟩) hS0 ?r18rD
          case y18rD =>
            intro w' hSw
            obtain ⟨e0, e1, e2, e3⟩ := HE.out _ hSw; obtain ⟨d0, d1, d2⟩ := HD.out _ hSw
            go_simp
            try simp only [j1, j2, j3]
            try rfl
          try simp only [Act.put, List.setIfInBounds_toArray, List.set_cons_zero, List.set_cons_succ]
          refine' wpAnyH_take (i := 19) (oi := ⟨some 24, _, _, _, _, _⟩) (v := (.bool false)) rfl (by kernel_rfl) (by kernel_rfl) (by kernel_rfl) (fun _ _ _ h => h) (Or.inl ⟨by rfl, ?y19rD⟩) hS0 ?r19rD
          case y19rD =>
            intro w' hSw
            obtain ⟨e0, e1, e2, e3⟩ := HE.out _ hSw; obtain ⟨d0, d1, d2⟩ := HD.out _ hSw
            go_simp
            try simp only [j1, j2, j3]
            try rfl
          try simp only [Act.put, List.setIfInBounds_toArray, List.set_cons_zero, List.set_cons_succ]
          refine' wpAnyH_take (i := 20) (oi := ⟨some 25, _, _, _, _, _⟩) (v := _) rfl (by kernel_rfl) (by kernel_rfl) (by kernel_rfl) (fun _ _ _ h => h) (Or.inl ⟨by rfl, ?y20rD⟩) hS0 ?r20rD
          case y20rD =>
            intro w' hSw
            obtain ⟨e0, e1, e2, e3⟩ := HE.out _ hSw; obtain ⟨d0, d1, d2⟩ := HD.out _ hSw
            go_simp
            try simp only [j1, j2, j3]
            try rfl
          try simp only [Act.put, List.setIfInBounds_toArray, List.set_cons_zero, List.set_cons_succ]
          refine' wpAnyH_take (i := 21) (oi := ⟨some 26, _, _, _, _, _⟩) (v := _) rfl (by kernel_rfl) (by kernel_rfl) (by kernel_rfl) (fun _ _ _ h => h) (Or.inl ⟨by rfl, ?y21rD⟩) hS0 ?r21rD
          case y21rD =>
            intro w' hSw
            obtain ⟨e0, e1, e2, e3⟩ := HE.out _ hSw; obtain ⟨d0, d1, d2⟩ := HD.out _ hSw
            go_simp
            try simp only [j1, j2, j3]
            try rfl
          try simp only [Act.put, List.setIfInBounds_toArray, List.set_cons_zero, List.set_cons_succ]
          refine' wpAnyH_take (i := 22) (oi := ⟨some 27, _, _, _, _, _⟩) (v := _) rfl (by kernel_rfl) (by kernel_rfl) (by kernel_rfl) (fun _ _ _ h => h) (Or.inl ⟨by rfl, ?y22rD⟩) hS0 ?r22rD
          case y22rD =>
            intro w' hSw
            obtain ⟨e0, e1, e2, e3⟩ := HE.out _ hSw; obtain ⟨d0, d1, d2⟩ := HD.out _ hSw
            go_simp
            try simp only [j1, j2, j3]
            try rfl
          try simp only [Act.put, List.setIfInBounds_toArray, List.set_cons_zero, List.set_cons_succ]
          refine' wpAnyH_take (i := 23) (oi := ⟨some 28, _, _, _, _, _⟩) (v := _) rfl (by kernel_rfl) (by kernel_rfl) (by kernel_rfl) (fun _ _ _ h => h) (Or.inl ⟨by rfl, ?y23rD⟩) hS0 ?r23rD
          case y23rD =>
            intro w' hSw
            obtain ⟨e0, e1, e2, e3⟩ := HE.out _ hSw; obtain ⟨d0, d1, d2⟩ := HD.out _ hSw
            go_simp
            try simp only [j1, j2, j3]
            try rfl
          try simp only [Act.put, List.setIfInBounds_toArray, List.set_cons_zero, List.set_cons_succ]
          refine' wpAnyH_take (i := 24) (oi := ⟨some 29, _, _, _, _, _⟩) (v := _) rfl (by kernel_rfl) (by kernel_rfl) (by kernel_rfl) (fun _ _ _ h => h) (Or.inl ⟨by rfl, ?y24rD⟩) hS0 ?r24rD
          case y24rD =>
            intro w' hSw
            obtain ⟨e0, e1, e2, e3⟩ := HE.out _ hSw; obtain ⟨d0, d1, d2⟩ := HD.out _ hSw
            go_simp
            try simp only [j1, j2, j3]
            try rfl
          try simp only [Act.put, List.setIfInBounds_toArray, List.set_cons_zero, List.set_cons_succ]
          refine' wpAnyH_take (i := 25) (oi := ⟨some 30, _, _, _, _, _⟩) (v := _) rfl (by kernel_rfl) (by kernel_rfl) (by kernel_rfl) (fun _ _ _ h => h) (Or.inl ⟨by rfl, ?y25rD⟩) hS0 ?r25rD
          case y25rD =>
            intro w' hSw
            obtain ⟨e0, e1, e2, e3⟩ := HE.out _ hSw; obtain ⟨d0, d1, d2⟩ := HD.out _ hSw
            go_simp
            try simp only [j1, j2, j3]
            try rfl
          try simp only [Act.put, List.setIfInBounds_toArray, List.set_cons_zero, List.set_cons_succ]
          refine' wpAnyH_take (i := 26) (oi := ⟨some 31, _, _, _, _, _⟩) (v := _) rfl (by kernel_rfl) (by kernel_rfl) (by kernel_rfl) (fun _ _ _ h => h) (Or.inl ⟨by rfl, ?y26rD⟩) hS0 ?r26rD
          case y26rD =>
            intro w' hSw
            obtain ⟨e0, e1, e2, e3⟩ := HE.out _ hSw; obtain ⟨d0, d1, d2⟩ := HD.out _ hSw
            go_simp
            try simp only [j1, j2, j3]
            try rfl
          try simp only [Act.put, List.setIfInBounds_toArray, List.set_cons_zero, List.set_cons_succ]
          refine' wpAnyH_take (i := 27) (oi := ⟨some 32, _, _, _, _, _⟩) (v := _) rfl (by kernel_rfl) (by kernel_rfl) (by kernel_rfl) (fun _ _ _ h => h) (Or.inl ⟨by rfl, ?y27rD⟩) hS0 ?r27rD
          case y27rD =>
            intro w' hSw
            obtain ⟨e0, e1, e2, e3⟩ := HE.out _ hSw; obtain ⟨d0, d1, d2⟩ := HD.out _ hSw
            go_simp
            try simp only [j1, j2, j3]
            try rfl
          try simp only [Act.put, List.setIfInBounds_toArray, List.set_cons_zero, List.set_cons_succ]
          refine' wpAnyH_take (i := 28) (oi := ⟨some 33, _, _, _, _, _⟩) (v := _) rfl (by kernel_rfl) (by kernel_rfl) (by kernel_rfl) (fun _ _ _ h => h) (Or.inl ⟨by rfl, ?y28rD⟩) hS0 ?r28rD
          case y28rD =>
            intro w' hSw
            obtain ⟨e0, e1, e2, e3⟩ := HE.out _ hSw; obtain ⟨d0, d1, d2⟩ := HD.out _ hSw
            go_simp
            try simp only [j1, j2, j3]
            try rfl
          try simp only [Act.put, List.setIfInBounds_toArray, List.set_cons_zero, List.set_cons_succ]
          refine' wpAnyH_take (i := 29) (oi := ⟨some 34, _, _, _, _, _⟩) (v := _) rfl (by kernel_rfl) (by kernel_rfl) (by kernel_rfl) (fun _ _ _ h => h) (Or.inl ⟨by rfl, ?y29rD⟩) hS0 ?r29rD
          case y29rD =>
            intro w' hSw
            obtain ⟨e0, e1, e2, e3⟩ := HE.out _ hSw; obtain ⟨d0, d1, d2⟩ := HD.out _ hSw
            go_simp
            try simp only [j1, j2, j3]
            try rfl
          try simp only [Act.put, List.setIfInBounds_toArray, List.set_cons_zero, List.set_cons_succ]
          refine' wpAnyH_take (i := 30) (oi := ⟨some 35, _, _, _, _, _⟩) (v := (.bool true)) rfl (by kernel_rfl) (by kernel_rfl) (by kernel_rfl) (fun _ _ _ h => h) (Or.inl ⟨by rfl, ?y30rD⟩) hS0 ?r30rD
          case y30rD =>
            intro w' hSw
            obtain ⟨e0, e1, e2, e3⟩ := HE.out _ hSw; obtain ⟨d0, d1, d2⟩ := HD.out _ hSw
            go_simp
            try simp only [j1, j2, j3]
            try rfl
          try simp only [Act.put, List.setIfInBounds_toArray, List.set_cons_zero, List.set_cons_succ]
          refine' wpAnyH_take (i := 31) (oi := ⟨some 36, _, _, _, _, _⟩) (v := (.bool true)) rfl (by kernel_rfl) (by kernel_rfl) (by kernel_rfl) (fun _ _ _ h => h) (Or.inl ⟨by rfl, ?y31rD⟩) hS0 ?r31rD
          case y31rD =>
            intro w' hSw
            obtain ⟨e0, e1, e2, e3⟩ := HE.out _ hSw; obtain ⟨d0, d1, d2⟩ := HD.out _ hSw
            go_simp
            try simp only [j1, j2, j3]
            try rfl
          try simp only [Act.put, List.setIfInBounds_toArray, List.set_cons_zero, List.set_cons_succ]
          refine' wpAnyH_take (i := 32) (oi := ⟨some 37, _, _, _, _, _⟩) (v := _) rfl (by kernel_rfl) (by kernel_rfl) (by kernel_rfl) (fun _ _ _ h => h) (Or.inl ⟨by rfl, ?y32rD⟩) hS0 ?r32rD
          case y32rD =>
            intro w' hSw
            obtain ⟨e0, e1, e2, e3⟩ := HE.out _ hSw; obtain ⟨d0, d1, d2⟩ := HD.out _ hSw
            go_simp
            try simp only [j1, j2, j3]
            try rfl
          try simp only [Act.put, List.setIfInBounds_toArray, List.set_cons_zero, List.set_cons_succ]
          refine' wpAnyH_take (i := 33) (oi := ⟨some 38, _, _, _, _, _⟩) (v := _) rfl (by kernel_rfl) (by kernel_rfl) (by kernel_rfl) (fun _ _ _ h => h) (Or.inl ⟨by rfl, ?y33rD⟩) hS0 ?r33rD
          case y33rD =>
            intro w' hSw
            obtain ⟨e0, e1, e2, e3⟩ := HE.out _ hSw; obtain ⟨d0, d1, d2⟩ := HD.out _ hSw
            go_simp
            try simp only [j1, j2, j3]
            try rfl
          try simp only [Act.put, List.setIfInBounds_toArray, List.set_cons_zero, List.set_cons_succ]
          refine' wpAnyH_take (i := 34) (oi := ⟨some 39, _, _, _, _, _⟩) (v := _) rfl (by kernel_rfl) (by kernel_rfl) (by kernel_rfl) (fun _ _ _ h => h) (Or.inl ⟨by rfl, ?y34rD⟩) hS0 ?r34rD
          case y34rD =>
            intro w' hSw
            obtain ⟨e0, e1, e2, e3⟩ := HE.out _ hSw; obtain ⟨d0, d1, d2⟩ := HD.out _ hSw
            go_simp
            try simp only [j1, j2, j3]
            try rfl
          try simp only [Act.put, List.setIfInBounds_toArray, List.set_cons_zero, List.set_cons_succ]
          refine' wpAnyH_take (i := 35) (oi := ⟨some 40, _, _, _, _, _⟩) (v := _) rfl (by kernel_rfl) (by kernel_rfl) (by kernel_rfl) (fun _ _ _ h => h) (Or.inl ⟨by rfl, ?y35rD⟩) hS0 ?r35rD
          case y35rD =>
            intro w' hSw
            obtain ⟨e0, e1, e2, e3⟩ := HE.out _ hSw; obtain ⟨d0, d1, d2⟩ := HD.out _ hSw
            go_simp
            try simp only [j1, j2, j3]
            try rfl
          try simp only [Act.put, List.setIfInBounds_toArray, List.set_cons_zero, List.set_cons_succ]
          refine' wpAnyH_take (i := 36) (oi := ⟨some 41, _, _, _, _, _⟩) (v := _) rfl (by kernel_rfl) (by kernel_rfl) (by kernel_rfl) (fun _ _ _ h => h) (Or.inl ⟨by rfl, ?y36rD⟩) hS0 ?r36rD
          case y36rD =>
            intro w' hSw
            obtain ⟨e0, e1, e2, e3⟩ := HE.out _ hSw; obtain ⟨d0, d1, d2⟩ := HD.out _ hSw
            go_simp
            try simp only [j1, j2, j3]
            try rfl
          try simp only [Act.put, List.setIfInBounds_toArray, List.set_cons_zero, List.set_cons_succ]
          refine' wpAnyH_take (i := 37) (oi := ⟨some 42, _, _, _, _, _⟩) (v := _) rfl (by kernel_rfl) (by kernel_rfl) (by kernel_rfl) (fun _ _ _ h => h) (Or.inl ⟨by rfl, ?y37rD⟩) hS0 ?r37rD
          case y37rD =>
            intro w' hSw
            obtain ⟨e0, e1, e2, e3⟩ := HE.out _ hSw; obtain ⟨d0, d1, d2⟩ := HD.out _ hSw
            go_simp
            try simp only [j1, j2, j3]
            try rfl
          try simp only [Act.put, List.setIfInBounds_toArray, List.set_cons_zero, List.set_cons_succ]
          refine' wpAnyH_take (i := 38) (oi := ⟨some 43, _, _, _, _, _⟩) (v := _) rfl (by kernel_rfl) (by kernel_rfl) (by kernel_rfl) (fun _ _ _ h => h) (Or.inl ⟨by rfl, ?y38rD⟩) hS0 ?r38rD
          case y38rD =>
            intro w' hSw
            obtain ⟨e0, e1, e2, e3⟩ := HE.out _ hSw; obtain ⟨d0, d1, d2⟩ := HD.out _ hSw
            go_simp
            try simp only [j1, j2, j3]
            try rfl
          try simp only [Act.put, List.setIfInBounds_toArray, List.set_cons_zero, List.set_cons_succ]
          refine' wpAnyH_take (i := 39) (oi := ⟨some 44, _, _, _, _, _⟩) (v := _) rfl (by kernel_rfl) (by kernel_rfl) (by kernel_rfl) (fun _ _ _ h => h) (Or.inl ⟨by rfl, ?y39rD⟩) hS0 ?r39rD
          case y39rD =>
            intro w' hSw
            obtain ⟨e0, e1, e2, e3⟩ := HE.out _ hSw; obtain ⟨d0, d1, d2⟩ := HD.out _ hSw
            go_simp
            try simp only [j1, j2, j3]
            try rfl
          try simp only [Act.put, List.setIfInBounds_toArray, List.set_cons_zero, List.set_cons_succ]
          refine' wpAnyH_take (i := 40) (oi := ⟨some 45, _, _, _, _, _⟩) (v := _) rfl (by kernel_rfl) (by kernel_rfl) (by kernel_rfl) (fun _ _ _ h => h) (Or.inl ⟨by rfl, ?y40rD⟩) hS0 ?r40rD
          case y40rD =>
            intro w' hSw
            obtain ⟨e0, e1, e2, e3⟩ := HE.out _ hSw; obtain ⟨d0, d1, d2⟩ := HD.out _ hSw
            go_simp
            try simp only [j1, j2, j3]
            try rfl
          try simp only [Act.put, List.setIfInBounds_toArray, List.set_cons_zero, List.set_cons_succ]
          refine' wpAnyH_take (i := 41) (oi := ⟨some 46, _, _, _, _, _⟩) (v := _) rfl (by kernel_rfl) (by kernel_rfl) (by kernel_rfl) (fun _ _ _ h => h) (Or.inl ⟨by rfl, ?y41rD⟩) hS0 ?r41rD
          case y41rD =>
            intro w' hSw
            obtain ⟨e0, e1, e2, e3⟩ := HE.out _ hSw; obtain ⟨d0, d1, d2⟩ := HD.out _ hSw
            go_simp
            try simp only [j1, j2, j3]
            try rfl
          try simp only [Act.put, List.setIfInBounds_toArray, List.set_cons_zero, List.set_cons_succ]
          refine' wpAnyH_take (i := 42) (oi := ⟨some 47, _, _, _, _, _⟩) (v := (.bool false)) rfl (by kernel_rfl) (by kernel_rfl) (by kernel_rfl) (fun _ _ _ h => h) (Or.inl ⟨by rfl, ?y42rD⟩) hS0 ?r42rD
          case y42rD =>
            intro w' hSw
            obtain ⟨e0, e1, e2, e3⟩ := HE.out _ hSw; obtain ⟨d0, d1, d2⟩ := HD.out _ hSw
            go_simp
            try simp only [j1, j2, j3]
            try rfl
          try simp only [Act.put, List.setIfInBounds_toArray, List.set_cons_zero, List.set_cons_succ]
          refine' wpAnyH_take (i := 43) (oi := ⟨some 48, _, _, _, _, _⟩) (v := (.bool false)) rfl (by kernel_rfl) (by kernel_rfl) (by kernel_rfl) (fun _ _ _ h => h) (Or.inl ⟨by rfl, ?y43rD⟩) hS0 ?r43rD
          case y43rD =>
            intro w' hSw
            obtain ⟨e0, e1, e2, e3⟩ := HE.out _ hSw; obtain ⟨d0, d1, d2⟩ := HD.out _ hSw
            go_simp
            try simp only [j1, j2, j3]
            try rfl
          try simp only [Act.put, List.setIfInBounds_toArray, List.set_cons_zero, List.set_cons_succ]
          refine' wpAnyH_take (i := 44) (oi := ⟨some 49, _, _, _, _, _⟩) (v := (.bool false)) rfl (by kernel_rfl) (by kernel_rfl) (by kernel_rfl) (fun _ _ _ h => h) (Or.inl ⟨by rfl, ?y44rD⟩) hS0 ?r44rD
          case y44rD =>
            intro w' hSw
            obtain ⟨e0, e1, e2, e3⟩ := HE.out _ hSw; obtain ⟨d0, d1, d2⟩ := HD.out _ hSw
            go_simp
            try simp only [j1, j2, j3]
            try rfl
          try simp only [Act.put, List.setIfInBounds_toArray, List.set_cons_zero, List.set_cons_succ]
          refine' wpAnyH_take (i := 45) (oi := ⟨some 50, _, _, _, _, _⟩) (v := (.bool false)) rfl (by kernel_rfl) (by kernel_rfl) (by kernel_rfl) (fun _ _ _ h => h) (Or.inl ⟨by rfl, ?y45rD⟩) hS0 ?r45rD
          case y45rD =>
            intro w' hSw
            obtain ⟨e0, e1, e2, e3⟩ := HE.out _ hSw; obtain ⟨d0, d1, d2⟩ := HD.out _ hSw
            go_simp
            try simp only [j1, j2, j3]
            try rfl
          try simp only [Act.put, List.setIfInBounds_toArray, List.set_cons_zero, List.set_cons_succ]
          refine wpAnyH_done (by kernel_rfl) ?_ _
          go_wp2_with fail
          go_meet
          case rel => exact ⟨by rw [HB.out], hS0⟩
        · have HB := Lib.hid (show bb = false by rw [HBB.out]; exact decide_eq_false (by rintro ⟨_, hl⟩; rw [HU.out] at hl; unfold Le at hl; omega))
          have j1 : decide (u.1 < q.1) = false := decide_eq_false (by omega)
          have j2 : (u.1 == q.1) = false := by simp [e2]
          have j3 : True := trivial
          refine wp_region_held_drew (S := fun Z => Below Y.heap.size Y Z) hfo (hbr.trans ((show Below wr.heap.size wr wr.drew from (Below.refl _ _).drew).mono hbr.size)) (fun hS0 => ?_)
          generalize wr.drew = wy at hS0 ⊢
          refine' wpAnyH_take (i := 0) (oi := ⟨some 5, _, _, _, _, _⟩) (v := _) rfl (by kernel_rfl) (by kernel_rfl) (by kernel_rfl) (fun _ _ _ h => h) (Or.inl ⟨by rfl, ?y0rE⟩) hS0 ?r0rE
          case y0rE =>
            intro w' hSw
            obtain ⟨e0, e1, e2, e3⟩ := HE.out _ hSw; obtain ⟨d0, d1, d2⟩ := HD.out _ hSw
            go_simp
            try simp only [j1, j2, j3]
            try rfl
          try simp only [Act.put, List.setIfInBounds_toArray, List.set_cons_zero, List.set_cons_succ]
          refine' wpAnyH_take (i := 1) (oi := ⟨some 6, _, _, _, _, _⟩) (v := _) rfl (by kernel_rfl) (by kernel_rfl) (by kernel_rfl) (fun _ _ _ h => h) (Or.inl ⟨by rfl, ?y1rE⟩) hS0 ?r1rE
          case y1rE =>
            intro w' hSw
            obtain ⟨e0, e1, e2, e3⟩ := HE.out _ hSw; obtain ⟨d0, d1, d2⟩ := HD.out _ hSw
            go_simp
            try simp only [j1, j2, j3]
            try rfl
          try simp only [Act.put, List.setIfInBounds_toArray, List.set_cons_zero, List.set_cons_succ]
          refine' wpAnyH_take (i := 2) (oi := ⟨some 7, _, _, _, _, _⟩) (v := _) rfl (by kernel_rfl) (by kernel_rfl) (by kernel_rfl) (fun _ _ _ h => h) (Or.inl ⟨by rfl, ?y2rE⟩) hS0 ?r2rE
          case y2rE =>
            intro w' hSw
            obtain ⟨e0, e1, e2, e3⟩ := HE.out _ hSw; obtain ⟨d0, d1, d2⟩ := HD.out _ hSw
            go_simp
            try simp only [j1, j2, j3]
            try rfl
          try simp only [Act.put, List.setIfInBounds_toArray, List.set_cons_zero, List.set_cons_succ]
          refine' wpAnyH_take (i := 3) (oi := ⟨some 8, _, _, _, _, _⟩) (v := _) rfl (by kernel_rfl) (by kernel_rfl) (by kernel_rfl) (fun _ _ _ h => h) (Or.inl ⟨by rfl, ?y3rE⟩) hS0 ?r3rE
          case y3rE =>
            intro w' hSw
            obtain ⟨e0, e1, e2, e3⟩ := HE.out _ hSw; obtain ⟨d0, d1, d2⟩ := HD.out _ hSw
            go_simp
            try simp only [j1, j2, j3]
            try rfl
          try simp only [Act.put, List.setIfInBounds_toArray, List.set_cons_zero, List.set_cons_succ]
          refine' wpAnyH_take (i := 4) (oi := ⟨some 9, _, _, _, _, _⟩) (v := _) rfl (by kernel_rfl) (by kernel_rfl) (by kernel_rfl) (fun _ _ _ h => h) (Or.inl ⟨by rfl, ?y4rE⟩) hS0 ?r4rE
          case y4rE =>
            intro w' hSw
            obtain ⟨e0, e1, e2, e3⟩ := HE.out _ hSw; obtain ⟨d0, d1, d2⟩ := HD.out _ hSw
            go_simp
            try simp only [j1, j2, j3]
            try rfl
          try simp only [Act.put, List.setIfInBounds_toArray, List.set_cons_zero, List.set_cons_succ]
          refine' wpAnyH_take (i := 5) (oi := ⟨some 10, _, _, _, _, _⟩) (v := _) rfl (by kernel_rfl) (by kernel_rfl) (by kernel_rfl) (fun _ _ _ h => h) (Or.inl ⟨by rfl, ?y5rE⟩) hS0 ?r5rE
          case y5rE =>
            intro w' hSw
            obtain ⟨e0, e1, e2, e3⟩ := HE.out _ hSw; obtain ⟨d0, d1, d2⟩ := HD.out _ hSw
            go_simp
            try simp only [j1, j2, j3]
            try rfl
          try simp only [Act.put, List.setIfInBounds_toArray, List.set_cons_zero, List.set_cons_succ]
          refine' wpAnyH_take (i := 6) (oi := ⟨some 11, _, _, _, _, _⟩) (v := _) rfl (by kernel_rfl) (by kernel_rfl) (by kernel_rfl) (fun _ _ _ h => h) (Or.inl ⟨by rfl, ?y6rE⟩) hS0 ?r6rE
          case y6rE =>
            intro w' hSw
            obtain ⟨e0, e1, e2, e3⟩ := HE.out _ hSw; obtain ⟨d0, d1, d2⟩ := HD.out _ hSw
            go_simp
            try simp only [j1, j2, j3]
            try rfl
          try simp only [Act.put, List.setIfInBounds_toArray, List.set_cons_zero, List.set_cons_succ]
          refine' wpAnyH_take (i := 7) (oi := ⟨some 12, _, _, _, _, _⟩) (v := _) rfl (by kernel_rfl) (by kernel_rfl) (by kernel_rfl) (fun _ _ _ h => h) (Or.inl ⟨by rfl, ?y7rE⟩) hS0 ?r7rE
          case y7rE =>
            intro w' hSw
            obtain ⟨e0, e1, e2, e3⟩ := HE.out _ hSw; obtain ⟨d0, d1, d2⟩ := HD.out _ hSw
            go_simp
            try simp only [j1, j2, j3]
            try rfl
          try simp only [Act.put, List.setIfInBounds_toArray, List.set_cons_zero, List.set_cons_succ]
          refine' wpAnyH_take (i := 8) (oi := ⟨some 13, _, _, _, _, _⟩) (v := _) rfl (by kernel_rfl) (by kernel_rfl) (by kernel_rfl) (fun _ _ _ h => h) (Or.inl ⟨by rfl, ?y8rE⟩) hS0 ?r8rE
          case y8rE =>
            intro w' hSw
            obtain ⟨e0, e1, e2, e3⟩ := HE.out _ hSw; obtain ⟨d0, d1, d2⟩ := HD.out _ hSw
            go_simp
            try simp only [j1, j2, j3]
            try rfl
          try simp only [Act.put, List.setIfInBounds_toArray, List.set_cons_zero, List.set_cons_succ]
          refine' wpAnyH_take (i := 9) (oi := ⟨some 14, _, _, _, _, _⟩) (v := _) rfl (by kernel_rfl) (by kernel_rfl) (by kernel_rfl) (fun _ _ _ h => h) (Or.inl ⟨by rfl, ?y9rE⟩) hS0 ?r9rE
          case y9rE =>
            intro w' hSw
            obtain ⟨e0, e1, e2, e3⟩ := HE.out _ hSw; obtain ⟨d0, d1, d2⟩ := HD.out _ hSw
            go_simp
            try simp only [j1, j2, j3]
            try rfl
          try simp only [Act.put, List.setIfInBounds_toArray, List.set_cons_zero, List.set_cons_succ]
          refine' wpAnyH_take (i := 10) (oi := ⟨some 15, _, _, _, _, _⟩) (v := _) rfl (by kernel_rfl) (by kernel_rfl) (by kernel_rfl) (fun _ _ _ h => h) (Or.inl ⟨by rfl, ?y10rE⟩) hS0 ?r10rE
          case y10rE =>
            intro w' hSw
            obtain ⟨e0, e1, e2, e3⟩ := HE.out _ hSw; obtain ⟨d0, d1, d2⟩ := HD.out _ hSw
            go_simp
            try simp only [j1, j2, j3]
            try rfl
          try simp only [Act.put, List.setIfInBounds_toArray, List.set_cons_zero, List.set_cons_succ]
          refine' wpAnyH_take (i := 11) (oi := ⟨some 16, _, _, _, _, _⟩) (v := _) rfl (by kernel_rfl) (by kernel_rfl) (by kernel_rfl) (fun _ _ _ h => h) (Or.inl ⟨by rfl, ?y11rE⟩) hS0 ?r11rE
          case y11rE =>
            intro w' hSw
            obtain ⟨e0, e1, e2, e3⟩ := HE.out _ hSw; obtain ⟨d0, d1, d2⟩ := HD.out _ hSw
            go_simp
            try simp only [j1, j2, j3]
            try rfl
          try simp only [Act.put, List.setIfInBounds_toArray, List.set_cons_zero, List.set_cons_succ]
          refine' wpAnyH_take (i := 12) (oi := ⟨some 17, _, _, _, _, _⟩) (v := _) rfl (by kernel_rfl) (by kernel_rfl) (by kernel_rfl) (fun _ _ _ h => h) (Or.inl ⟨by rfl, ?y12rE⟩) hS0 ?r12rE
          case y12rE =>
            intro w' hSw
            obtain ⟨e0, e1, e2, e3⟩ := HE.out _ hSw; obtain ⟨d0, d1, d2⟩ := HD.out _ hSw
            go_simp
            try simp only [j1, j2, j3]
            try rfl
          try simp only [Act.put, List.setIfInBounds_toArray, List.set_cons_zero, List.set_cons_succ]
          refine' wpAnyH_take (i := 13) (oi := ⟨some 18, _, _, _, _, _⟩) (v := _) rfl (by kernel_rfl) (by kernel_rfl) (by kernel_rfl) (fun _ _ _ h => h) (Or.inl ⟨by rfl, ?y13rE⟩) hS0 ?r13rE
          case y13rE =>
            intro w' hSw
            obtain ⟨e0, e1, e2, e3⟩ := HE.out _ hSw; obtain ⟨d0, d1, d2⟩ := HD.out _ hSw
            go_simp
            try simp only [j1, j2, j3]
            try rfl
          try simp only [Act.put, List.setIfInBounds_toArray, List.set_cons_zero, List.set_cons_succ]
          refine' wpAnyH_take (i := 14) (oi := ⟨some 19, _, _, _, _, _⟩) (v := _) rfl (by kernel_rfl) (by kernel_rfl) (by kernel_rfl) (fun _ _ _ h => h) (Or.inl ⟨by rfl, ?y14rE⟩) hS0 ?r14rE
          case y14rE =>
            intro w' hSw
            obtain ⟨e0, e1, e2, e3⟩ := HE.out _ hSw; obtain ⟨d0, d1, d2⟩ := HD.out _ hSw
            go_simp
            try simp only [j1, j2, j3]
            try rfl
          try simp only [Act.put, List.setIfInBounds_toArray, List.set_cons_zero, List.set_cons_succ]
          refine' wpAnyH_take (i := 15) (oi := ⟨some 20, _, _, _, _, _⟩) (v := _) rfl (by kernel_rfl) (by kernel_rfl) (by kernel_rfl) (fun _ _ _ h => h) (Or.inl ⟨by rfl, ?y15rE⟩) hS0 ?r15rE
          case y15rE =>
            intro w' hSw
            obtain ⟨e0, e1, e2, e3⟩ := HE.out _ hSw; obtain ⟨d0, d1, d2⟩ := HD.out _ hSw
            go_simp
            try simp only [j1, j2, j3]
            try rfl
          try simp only [Act.put, List.setIfInBounds_toArray, List.set_cons_zero, List.set_cons_succ]
          refine' wpAnyH_take (i := 16) (oi := ⟨some 21, _, _, _, _, _⟩) (v := _) rfl (by kernel_rfl) (by kernel_rfl) (by kernel_rfl) (fun _ _ _ h => h) (Or.inl ⟨by rfl, ?y16rE⟩) hS0 ?r16rE
          case y16rE =>
            intro w' hSw
            obtain ⟨e0, e1, e2, e3⟩ := HE.out _ hSw; obtain ⟨d0, d1, d2⟩ := HD.out _ hSw
            go_simp
            try simp only [j1, j2, j3]
            try rfl
          try simp only [Act.put, List.setIfInBounds_toArray, List.set_cons_zero, List.set_cons_succ]
          refine' wpAnyH_take (i := 17) (oi := ⟨some 22, _, _, _, _, _⟩) (v := _) rfl (by kernel_rfl) (by kernel_rfl) (by kernel_rfl) (fun _ _ _ h => h) (Or.inl ⟨by rfl, ?y17rE⟩) hS0 ?r17rE
          case y17rE =>
            intro w' hSw
            obtain ⟨e0, e1, e2, e3⟩ := HE.out _ hSw; obtain ⟨d0, d1, d2⟩ := HD.out _ hSw
            go_simp
            try simp only [j1, j2, j3]
            try rfl
          try simp only [Act.put, List.setIfInBounds_toArray, List.set_cons_zero, List.set_cons_succ]
          refine' wpAnyH_take (i := 18) (oi := ⟨some 23, _, _, _, _, _⟩) (v := (.bool false)) rfl (by kernel_rfl) (by kernel_rfl) (by kernel_rfl) (fun _ _ _ h => h) (Or.inl ⟨by rfl, ?y18rE⟩) hS0 ?r18rE
          case y18rE =>
            intro w' hSw
            obtain ⟨e0, e1, e2, e3⟩ := HE.out _ hSw; obtain ⟨d0, d1, d2⟩ := HD.out _ hSw
            go_simp
            try simp only [j1, j2, j3]
            try rfl
          try simp only [Act.put, List.setIfInBounds_toArray, List.set_cons_zero, List.set_cons_succ]
          refine' wpAnyH_take (i := 19) (oi := ⟨some 24, _, _, _, _, _⟩) (v := (.bool false)) rfl (by kernel_rfl) (by kernel_rfl) (by kernel_rfl) (fun _ _ _ h => h) (Or.inl ⟨by rfl, ?y19rE⟩) hS0 ?r19rE
          case y19rE =>
            intro w' hSw
            obtain ⟨e0, e1, e2, e3⟩ := HE.out _ hSw; obtain ⟨d0, d1, d2⟩ := HD.out _ hSw
            go_simp
            try simp only [j1, j2, j3]
            try rfl
          try simp only [Act.put, List.setIfInBounds_toArray, List.set_cons_zero, List.set_cons_succ]
          refine' wpAnyH_take (i := 20) (oi := ⟨some 25, _, _, _, _, _⟩) (v := _) rfl (by kernel_rfl) (by kernel_rfl) (by kernel_rfl) (fun _ _ _ h => h) (Or.inl ⟨by rfl, ?y20rE⟩) hS0 ?r20rE
          case y20rE =>
            intro w' hSw
            obtain ⟨e0, e1, e2, e3⟩ := HE.out _ hSw; obtain ⟨d0, d1, d2⟩ := HD.out _ hSw
            go_simp
            try simp only [j1, j2, j3]
            try rfl
          try simp only [Act.put, List.setIfInBounds_toArray, List.set_cons_zero, List.set_cons_succ]
          refine' wpAnyH_take (i := 21) (oi := ⟨some 26, _, _, _, _, _⟩) (v := _) rfl (by kernel_rfl) (by kernel_rfl) (by kernel_rfl) (fun _ _ _ h => h) (Or.inl ⟨by rfl, ?y21rE⟩) hS0 ?r21rE
          case y21rE =>
            intro w' hSw
            obtain ⟨e0, e1, e2, e3⟩ := HE.out _ hSw; obtain ⟨d0, d1, d2⟩ := HD.out _ hSw
            go_simp
            try simp only [j1, j2, j3]
            try rfl
          try simp only [Act.put, List.setIfInBounds_toArray, List.set_cons_zero, List.set_cons_succ]
          refine' wpAnyH_take (i := 22) (oi := ⟨some 27, _, _, _, _, _⟩) (v := _) rfl (by kernel_rfl) (by kernel_rfl) (by kernel_rfl) (fun _ _ _ h => h) (Or.inl ⟨by rfl, ?y22rE⟩) hS0 ?r22rE
          case y22rE =>
            intro w' hSw
            obtain ⟨e0, e1, e2, e3⟩ := HE.out _ hSw; obtain ⟨d0, d1, d2⟩ := HD.out _ hSw
            go_simp
            try simp only [j1, j2, j3]
            try rfl
          try simp only [Act.put, List.setIfInBounds_toArray, List.set_cons_zero, List.set_cons_succ]
          refine' wpAnyH_take (i := 23) (oi := ⟨some 28, _, _, _, _, _⟩) (v := _) rfl (by kernel_rfl) (by kernel_rfl) (by kernel_rfl) (fun _ _ _ h => h) (Or.inl ⟨by rfl, ?y23rE⟩) hS0 ?r23rE
          case y23rE =>
            intro w' hSw
            obtain ⟨e0, e1, e2, e3⟩ := HE.out _ hSw; obtain ⟨d0, d1, d2⟩ := HD.out _ hSw
            go_simp
            try simp only [j1, j2, j3]
            try rfl
          try simp only [Act.put, List.setIfInBounds_toArray, List.set_cons_zero, List.set_cons_succ]
          refine' wpAnyH_take (i := 24) (oi := ⟨some 29, _, _, _, _, _⟩) (v := _) rfl (by kernel_rfl) (by kernel_rfl) (by kernel_rfl) (fun _ _ _ h => h) (Or.inl ⟨by rfl, ?y24rE⟩) hS0 ?r24rE
          case y24rE =>
            intro w' hSw
            obtain ⟨e0, e1, e2, e3⟩ := HE.out _ hSw; obtain ⟨d0, d1, d2⟩ := HD.out _ hSw
            go_simp
            try simp only [j1, j2, j3]
            try rfl
          try simp only [Act.put, List.setIfInBounds_toArray, List.set_cons_zero, List.set_cons_succ]
          refine' wpAnyH_take (i := 25) (oi := ⟨some 30, _, _, _, _, _⟩) (v := _) rfl (by kernel_rfl) (by kernel_rfl) (by kernel_rfl) (fun _ _ _ h => h) (Or.inl ⟨by rfl, ?y25rE⟩) hS0 ?r25rE
          case y25rE =>
            intro w' hSw
            obtain ⟨e0, e1, e2, e3⟩ := HE.out _ hSw; obtain ⟨d0, d1, d2⟩ := HD.out _ hSw
            go_simp
            try simp only [j1, j2, j3]
            try rfl
          try simp only [Act.put, List.setIfInBounds_toArray, List.set_cons_zero, List.set_cons_succ]
          refine' wpAnyH_take (i := 26) (oi := ⟨some 31, _, _, _, _, _⟩) (v := _) rfl (by kernel_rfl) (by kernel_rfl) (by kernel_rfl) (fun _ _ _ h => h) (Or.inl ⟨by rfl, ?y26rE⟩) hS0 ?r26rE
          case y26rE =>
            intro w' hSw
            obtain ⟨e0, e1, e2, e3⟩ := HE.out _ hSw; obtain ⟨d0, d1, d2⟩ := HD.out _ hSw
            go_simp
            try simp only [j1, j2, j3]
            try rfl
          try simp only [Act.put, List.setIfInBounds_toArray, List.set_cons_zero, List.set_cons_succ]
          refine' wpAnyH_take (i := 27) (oi := ⟨some 32, _, _, _, _, _⟩) (v := _) rfl (by kernel_rfl) (by kernel_rfl) (by kernel_rfl) (fun _ _ _ h => h) (Or.inl ⟨by rfl, ?y27rE⟩) hS0 ?r27rE
          case y27rE =>
            intro w' hSw
            obtain ⟨e0, e1, e2, e3⟩ := HE.out _ hSw; obtain ⟨d0, d1, d2⟩ := HD.out _ hSw
            go_simp
            try simp only [j1, j2, j3]
            try rfl
          try simp only [Act.put, List.setIfInBounds_toArray, List.set_cons_zero, List.set_cons_succ]
          refine' wpAnyH_take (i := 28) (oi := ⟨some 33, _, _, _, _, _⟩) (v := _) rfl (by kernel_rfl) (by kernel_rfl) (by kernel_rfl) (fun _ _ _ h => h) (Or.inl ⟨by rfl, ?y28rE⟩) hS0 ?r28rE
          case y28rE =>
            intro w' hSw
            obtain ⟨e0, e1, e2, e3⟩ := HE.out _ hSw; obtain ⟨d0, d1, d2⟩ := HD.out _ hSw
            go_simp
            try simp only [j1, j2, j3]
            try rfl
          try simp only [Act.put, List.setIfInBounds_toArray, List.set_cons_zero, List.set_cons_succ]
          refine' wpAnyH_take (i := 29) (oi := ⟨some 34, _, _, _, _, _⟩) (v := _) rfl (by kernel_rfl) (by kernel_rfl) (by kernel_rfl) (fun _ _ _ h => h) (Or.inl ⟨by rfl, ?y29rE⟩) hS0 ?r29rE
          case y29rE =>
            intro w' hSw
            obtain ⟨e0, e1, e2, e3⟩ := HE.out _ hSw; obtain ⟨d0, d1, d2⟩ := HD.out _ hSw
            go_simp
            try simp only [j1, j2, j3]
            try rfl
          try simp only [Act.put, List.setIfInBounds_toArray, List.set_cons_zero, List.set_cons_succ]
          refine' wpAnyH_take (i := 30) (oi := ⟨some 35, _, _, _, _, _⟩) (v := (.bool false)) rfl (by kernel_rfl) (by kernel_rfl) (by kernel_rfl) (fun _ _ _ h => h) (Or.inl ⟨by rfl, ?y30rE⟩) hS0 ?r30rE
          case y30rE =>
            intro w' hSw
            obtain ⟨e0, e1, e2, e3⟩ := HE.out _ hSw; obtain ⟨d0, d1, d2⟩ := HD.out _ hSw
            go_simp
            try simp only [j1, j2, j3]
            try rfl
          try simp only [Act.put, List.setIfInBounds_toArray, List.set_cons_zero, List.set_cons_succ]
          refine' wpAnyH_take (i := 31) (oi := ⟨some 36, _, _, _, _, _⟩) (v := (.bool false)) rfl (by kernel_rfl) (by kernel_rfl) (by kernel_rfl) (fun _ _ _ h => h) (Or.inl ⟨by rfl, ?y31rE⟩) hS0 ?r31rE
          case y31rE =>
            intro w' hSw
            obtain ⟨e0, e1, e2, e3⟩ := HE.out _ hSw; obtain ⟨d0, d1, d2⟩ := HD.out _ hSw
            go_simp
            try simp only [j1, j2, j3]
            try rfl
          try simp only [Act.put, List.setIfInBounds_toArray, List.set_cons_zero, List.set_cons_succ]
          refine' wpAnyH_take (i := 32) (oi := ⟨some 37, _, _, _, _, _⟩) (v := undef) rfl (by kernel_rfl) (by kernel_rfl) (by kernel_rfl) (fun _ _ _ h => h) (Or.inr ⟨by rfl, rfl⟩) hS0 ?r32rE
          try simp only [Act.put, List.setIfInBounds_toArray, List.set_cons_zero, List.set_cons_succ]
          refine' wpAnyH_take (i := 33) (oi := ⟨some 38, _, _, _, _, _⟩) (v := undef) rfl (by kernel_rfl) (by kernel_rfl) (by kernel_rfl) (fun _ _ _ h => h) (Or.inr ⟨by rfl, rfl⟩) hS0 ?r33rE
          try simp only [Act.put, List.setIfInBounds_toArray, List.set_cons_zero, List.set_cons_succ]
          refine' wpAnyH_take (i := 34) (oi := ⟨some 39, _, _, _, _, _⟩) (v := undef) rfl (by kernel_rfl) (by kernel_rfl) (by kernel_rfl) (fun _ _ _ h => h) (Or.inr ⟨by rfl, rfl⟩) hS0 ?r34rE
          try simp only [Act.put, List.setIfInBounds_toArray, List.set_cons_zero, List.set_cons_succ]
          refine' wpAnyH_take (i := 35) (oi := ⟨some 40, _, _, _, _, _⟩) (v := undef) rfl (by kernel_rfl) (by kernel_rfl) (by kernel_rfl) (fun _ _ _ h => h) (Or.inr ⟨by rfl, rfl⟩) hS0 ?r35rE
          try simp only [Act.put, List.setIfInBounds_toArray, List.set_cons_zero, List.set_cons_succ]
          refine' wpAnyH_take (i := 36) (oi := ⟨some 41, _, _, _, _, _⟩) (v := undef) rfl (by kernel_rfl) (by kernel_rfl) (by kernel_rfl) (fun _ _ _ h => h) (Or.inr ⟨by rfl, rfl⟩) hS0 ?r36rE
          try simp only [Act.put, List.setIfInBounds_toArray, List.set_cons_zero, List.set_cons_succ]
          refine' wpAnyH_take (i := 37) (oi := ⟨some 42, _, _, _, _, _⟩) (v := undef) rfl (by kernel_rfl) (by kernel_rfl) (by kernel_rfl) (fun _ _ _ h => h) (Or.inr ⟨by rfl, rfl⟩) hS0 ?r37rE
          try simp only [Act.put, List.setIfInBounds_toArray, List.set_cons_zero, List.set_cons_succ]
          refine' wpAnyH_take (i := 38) (oi := ⟨some 43, _, _, _, _, _⟩) (v := undef) rfl (by kernel_rfl) (by kernel_rfl) (by kernel_rfl) (fun _ _ _ h => h) (Or.inr ⟨by rfl, rfl⟩) hS0 ?r38rE
          try simp only [Act.put, List.setIfInBounds_toArray, List.set_cons_zero, List.set_cons_succ]
          refine' wpAnyH_take (i := 39) (oi := ⟨some 44, _, _, _, _, _⟩) (v := undef) rfl (by kernel_rfl) (by kernel_rfl) (by kernel_rfl) (fun _ _ _ h => h) (Or.inr ⟨by rfl, rfl⟩) hS0 ?r39rE
          try simp only [Act.put, List.setIfInBounds_toArray, List.set_cons_zero, List.set_cons_succ]
          refine' wpAnyH_take (i := 40) (oi := ⟨some 45, _, _, _, _, _⟩) (v := undef) rfl (by kernel_rfl) (by kernel_rfl) (by kernel_rfl) (fun _ _ _ h => h) (Or.inr ⟨by rfl, rfl⟩) hS0 ?r40rE
          try simp only [Act.put, List.setIfInBounds_toArray, List.set_cons_zero, List.set_cons_succ]
          refine' wpAnyH_take (i := 41) (oi := ⟨some 46, _, _, _, _, _⟩) (v := undef) rfl (by kernel_rfl) (by kernel_rfl) (by kernel_rfl) (fun _ _ _ h => h) (Or.inr ⟨by rfl, rfl⟩) hS0 ?r41rE
          try simp only [Act.put, List.setIfInBounds_toArray, List.set_cons_zero, List.set_cons_succ]
          refine' wpAnyH_take (i := 42) (oi := ⟨some 47, _, _, _, _, _⟩) (v := undef) rfl (by kernel_rfl) (by kernel_rfl) (by kernel_rfl) (fun _ _ _ h => h) (Or.inr ⟨by rfl, rfl⟩) hS0 ?r42rE
          try simp only [Act.put, List.setIfInBounds_toArray, List.set_cons_zero, List.set_cons_succ]
          refine' wpAnyH_take (i := 43) (oi := ⟨some 48, _, _, _, _, _⟩) (v := (.bool false)) rfl (by kernel_rfl) (by kernel_rfl) (by kernel_rfl) (fun _ _ _ h => h) (Or.inl ⟨by rfl, ?y43rE⟩) hS0 ?r43rE
          case y43rE =>
            intro w' hSw
            obtain ⟨e0, e1, e2, e3⟩ := HE.out _ hSw; obtain ⟨d0, d1, d2⟩ := HD.out _ hSw
            go_simp
            try simp only [j1, j2, j3]
            try rfl
          try simp only [Act.put, List.setIfInBounds_toArray, List.set_cons_zero, List.set_cons_succ]
          refine' wpAnyH_take (i := 44) (oi := ⟨some 49, _, _, _, _, _⟩) (v := (.bool false)) rfl (by kernel_rfl) (by kernel_rfl) (by kernel_rfl) (fun _ _ _ h => h) (Or.inl ⟨by rfl, ?y44rE⟩) hS0 ?r44rE
          case y44rE =>
            intro w' hSw
            obtain ⟨e0, e1, e2, e3⟩ := HE.out _ hSw; obtain ⟨d0, d1, d2⟩ := HD.out _ hSw
            go_simp
            try simp only [j1, j2, j3]
            try rfl
          try simp only [Act.put, List.setIfInBounds_toArray, List.set_cons_zero, List.set_cons_succ]
          refine' wpAnyH_take (i := 45) (oi := ⟨some 50, _, _, _, _, _⟩) (v := (.bool false)) rfl (by kernel_rfl) (by kernel_rfl) (by kernel_rfl) (fun _ _ _ h => h) (Or.inl ⟨by rfl, ?y45rE⟩) hS0 ?r45rE
          case y45rE =>
            intro w' hSw
            obtain ⟨e0, e1, e2, e3⟩ := HE.out _ hSw; obtain ⟨d0, d1, d2⟩ := HD.out _ hSw
            go_simp
            try simp only [j1, j2, j3]
            try rfl
          try simp only [Act.put, List.setIfInBounds_toArray, List.set_cons_zero, List.set_cons_succ]
          refine wpAnyH_done (by kernel_rfl) ?_ _
          go_wp2_with fail
          go_meet
          case rel => exact ⟨by rw [HB.out], hS0⟩
      · have HB := Lib.hid (show bb = false by rw [HBB.out]; exact decide_eq_false (by rintro ⟨h, _⟩; exact hlt h))
        have j0 : decide ((k : Int) < (R.length : Int)) = false := decide_eq_false (by omega)
        refine wp_region_held_drew (S := fun Z => Below Y.heap.size Y Z) hfo (hbr.trans ((show Below wr.heap.size wr wr.drew from (Below.refl _ _).drew).mono hbr.size)) (fun hS0 => ?_)
        generalize wr.drew = wy at hS0 ⊢
        refine' wpAnyH_take (i := 0) (oi := ⟨some 5, _, _, _, _, _⟩) (v := _) rfl (by kernel_rfl) (by kernel_rfl) (by kernel_rfl) (fun _ _ _ h => h) (Or.inl ⟨by rfl, ?y0rA⟩) hS0 ?r0rA
        case y0rA =>
          intro w' hSw
          obtain ⟨e0, e1, e2, e3⟩ := HE.out _ hSw
          go_simp
          try simp only [j0]
          try rfl
        try simp only [Act.put, List.setIfInBounds_toArray, List.set_cons_zero, List.set_cons_succ]
        refine' wpAnyH_take (i := 1) (oi := ⟨some 6, _, _, _, _, _⟩) (v := _) rfl (by kernel_rfl) (by kernel_rfl) (by kernel_rfl) (fun _ _ _ h => h) (Or.inl ⟨by rfl, ?y1rA⟩) hS0 ?r1rA
        case y1rA =>
          intro w' hSw
          obtain ⟨e0, e1, e2, e3⟩ := HE.out _ hSw
          go_simp
          try simp only [j0]
          try rfl
        try simp only [Act.put, List.setIfInBounds_toArray, List.set_cons_zero, List.set_cons_succ]
        refine' wpAnyH_take (i := 2) (oi := ⟨some 7, _, _, _, _, _⟩) (v := _) rfl (by kernel_rfl) (by kernel_rfl) (by kernel_rfl) (fun _ _ _ h => h) (Or.inl ⟨by rfl, ?y2rA⟩) hS0 ?r2rA
        case y2rA =>
          intro w' hSw
          obtain ⟨e0, e1, e2, e3⟩ := HE.out _ hSw
          go_simp
          try simp only [j0]
          try rfl
        try simp only [Act.put, List.setIfInBounds_toArray, List.set_cons_zero, List.set_cons_succ]
        refine' wpAnyH_take (i := 3) (oi := ⟨some 8, _, _, _, _, _⟩) (v := _) rfl (by kernel_rfl) (by kernel_rfl) (by kernel_rfl) (fun _ _ _ h => h) (Or.inl ⟨by rfl, ?y3rA⟩) hS0 ?r3rA
        case y3rA =>
          intro w' hSw
          obtain ⟨e0, e1, e2, e3⟩ := HE.out _ hSw
          go_simp
          try simp only [j0]
          try rfl
        try simp only [Act.put, List.setIfInBounds_toArray, List.set_cons_zero, List.set_cons_succ]
        refine' wpAnyH_take (i := 4) (oi := ⟨some 9, _, _, _, _, _⟩) (v := _) rfl (by kernel_rfl) (by kernel_rfl) (by kernel_rfl) (fun _ _ _ h => h) (Or.inl ⟨by rfl, ?y4rA⟩) hS0 ?r4rA
        case y4rA =>
          intro w' hSw
          obtain ⟨e0, e1, e2, e3⟩ := HE.out _ hSw
          go_simp
          try simp only [j0]
          try rfl
        try simp only [Act.put, List.setIfInBounds_toArray, List.set_cons_zero, List.set_cons_succ]
        refine' wpAnyH_take (i := 5) (oi := ⟨some 10, _, _, _, _, _⟩) (v := _) rfl (by kernel_rfl) (by kernel_rfl) (by kernel_rfl) (fun _ _ _ h => h) (Or.inl ⟨by rfl, ?y5rA⟩) hS0 ?r5rA
        case y5rA =>
          intro w' hSw
          obtain ⟨e0, e1, e2, e3⟩ := HE.out _ hSw
          go_simp
          try simp only [j0]
          try rfl
        try simp only [Act.put, List.setIfInBounds_toArray, List.set_cons_zero, List.set_cons_succ]
        refine' wpAnyH_take (i := 6) (oi := ⟨some 11, _, _, _, _, _⟩) (v := (.bool false)) rfl (by kernel_rfl) (by kernel_rfl) (by kernel_rfl) (fun _ _ _ h => h) (Or.inl ⟨by rfl, ?y6rA⟩) hS0 ?r6rA
        case y6rA =>
          intro w' hSw
          obtain ⟨e0, e1, e2, e3⟩ := HE.out _ hSw
          go_simp
          try simp only [j0]
          try rfl
        try simp only [Act.put, List.setIfInBounds_toArray, List.set_cons_zero, List.set_cons_succ]
        refine' wpAnyH_take (i := 7) (oi := ⟨some 12, _, _, _, _, _⟩) (v := (.bool false)) rfl (by kernel_rfl) (by kernel_rfl) (by kernel_rfl) (fun _ _ _ h => h) (Or.inl ⟨by rfl, ?y7rA⟩) hS0 ?r7rA
        case y7rA =>
          intro w' hSw
          obtain ⟨e0, e1, e2, e3⟩ := HE.out _ hSw
          go_simp
          try simp only [j0]
          try rfl
        try simp only [Act.put, List.setIfInBounds_toArray, List.set_cons_zero, List.set_cons_succ]
        refine' wpAnyH_take (i := 8) (oi := ⟨some 13, _, _, _, _, _⟩) (v := undef) rfl (by kernel_rfl) (by kernel_rfl) (by kernel_rfl) (fun _ _ _ h => h) (Or.inr ⟨by rfl, rfl⟩) hS0 ?r8rA
        try simp only [Act.put, List.setIfInBounds_toArray, List.set_cons_zero, List.set_cons_succ]
        refine' wpAnyH_take (i := 9) (oi := ⟨some 14, _, _, _, _, _⟩) (v := undef) rfl (by kernel_rfl) (by kernel_rfl) (by kernel_rfl) (fun _ _ _ h => h) (Or.inr ⟨by rfl, rfl⟩) hS0 ?r9rA
        try simp only [Act.put, List.setIfInBounds_toArray, List.set_cons_zero, List.set_cons_succ]
        refine' wpAnyH_take (i := 10) (oi := ⟨some 15, _, _, _, _, _⟩) (v := undef) rfl (by kernel_rfl) (by kernel_rfl) (by kernel_rfl) (fun _ _ _ h => h) (Or.inr ⟨by rfl, rfl⟩) hS0 ?r10rA
        try simp only [Act.put, List.setIfInBounds_toArray, List.set_cons_zero, List.set_cons_succ]
        refine' wpAnyH_take (i := 11) (oi := ⟨some 16, _, _, _, _, _⟩) (v := undef) rfl (by kernel_rfl) (by kernel_rfl) (by kernel_rfl) (fun _ _ _ h => h) (Or.inr ⟨by rfl, rfl⟩) hS0 ?r11rA
        try simp only [Act.put, List.setIfInBounds_toArray, List.set_cons_zero, List.set_cons_succ]
        refine' wpAnyH_take (i := 12) (oi := ⟨some 17, _, _, _, _, _⟩) (v := undef) rfl (by kernel_rfl) (by kernel_rfl) (by kernel_rfl) (fun _ _ _ h => h) (Or.inr ⟨by rfl, rfl⟩) hS0 ?r12rA
        try simp only [Act.put, List.setIfInBounds_toArray, List.set_cons_zero, List.set_cons_succ]
        refine' wpAnyH_take (i := 13) (oi := ⟨some 18, _, _, _, _, _⟩) (v := undef) rfl (by kernel_rfl) (by kernel_rfl) (by kernel_rfl) (fun _ _ _ h => h) (Or.inr ⟨by rfl, rfl⟩) hS0 ?r13rA
        try simp only [Act.put, List.setIfInBounds_toArray, List.set_cons_zero, List.set_cons_succ]
        refine' wpAnyH_take (i := 14) (oi := ⟨some 19, _, _, _, _, _⟩) (v := undef) rfl (by kernel_rfl) (by kernel_rfl) (by kernel_rfl) (fun _ _ _ h => h) (Or.inr ⟨by rfl, rfl⟩) hS0 ?r14rA
        try simp only [Act.put, List.setIfInBounds_toArray, List.set_cons_zero, List.set_cons_succ]
        refine' wpAnyH_take (i := 15) (oi := ⟨some 20, _, _, _, _, _⟩) (v := undef) rfl (by kernel_rfl) (by kernel_rfl) (by kernel_rfl) (fun _ _ _ h => h) (Or.inr ⟨by rfl, rfl⟩) hS0 ?r15rA
        try simp only [Act.put, List.setIfInBounds_toArray, List.set_cons_zero, List.set_cons_succ]
        refine' wpAnyH_take (i := 16) (oi := ⟨some 21, _, _, _, _, _⟩) (v := undef) rfl (by kernel_rfl) (by kernel_rfl) (by kernel_rfl) (fun _ _ _ h => h) (Or.inr ⟨by rfl, rfl⟩) hS0 ?r16rA
        try simp only [Act.put, List.setIfInBounds_toArray, List.set_cons_zero, List.set_cons_succ]
        refine' wpAnyH_take (i := 17) (oi := ⟨some 22, _, _, _, _, _⟩) (v := undef) rfl (by kernel_rfl) (by kernel_rfl) (by kernel_rfl) (fun _ _ _ h => h) (Or.inr ⟨by rfl, rfl⟩) hS0 ?r17rA
        try simp only [Act.put, List.setIfInBounds_toArray, List.set_cons_zero, List.set_cons_succ]
        refine' wpAnyH_take (i := 18) (oi := ⟨some 23, _, _, _, _, _⟩) (v := undef) rfl (by kernel_rfl) (by kernel_rfl) (by kernel_rfl) (fun _ _ _ h => h) (Or.inr ⟨by rfl, rfl⟩) hS0 ?r18rA
        try simp only [Act.put, List.setIfInBounds_toArray, List.set_cons_zero, List.set_cons_succ]
        refine' wpAnyH_take (i := 19) (oi := ⟨some 24, _, _, _, _, _⟩) (v := undef) rfl (by kernel_rfl) (by kernel_rfl) (by kernel_rfl) (fun _ _ _ h => h) (Or.inr ⟨by rfl, rfl⟩) hS0 ?r19rA
        try simp only [Act.put, List.setIfInBounds_toArray, List.set_cons_zero, List.set_cons_succ]
        refine' wpAnyH_take (i := 20) (oi := ⟨some 25, _, _, _, _, _⟩) (v := undef) rfl (by kernel_rfl) (by kernel_rfl) (by kernel_rfl) (fun _ _ _ h => h) (Or.inr ⟨by rfl, rfl⟩) hS0 ?r20rA
        try simp only [Act.put, List.setIfInBounds_toArray, List.set_cons_zero, List.set_cons_succ]
        refine' wpAnyH_take (i := 21) (oi := ⟨some 26, _, _, _, _, _⟩) (v := undef) rfl (by kernel_rfl) (by kernel_rfl) (by kernel_rfl) (fun _ _ _ h => h) (Or.inr ⟨by rfl, rfl⟩) hS0 ?r21rA
        try simp only [Act.put, List.setIfInBounds_toArray, List.set_cons_zero, List.set_cons_succ]
        refine' wpAnyH_take (i := 22) (oi := ⟨some 27, _, _, _, _, _⟩) (v := undef) rfl (by kernel_rfl) (by kernel_rfl) (by kernel_rfl) (fun _ _ _ h => h) (Or.inr ⟨by rfl, rfl⟩) hS0 ?r22rA
        try simp only [Act.put, List.setIfInBounds_toArray, List.set_cons_zero, List.set_cons_succ]
        refine' wpAnyH_take (i := 23) (oi := ⟨some 28, _, _, _, _, _⟩) (v := undef) rfl (by kernel_rfl) (by kernel_rfl) (by kernel_rfl) (fun _ _ _ h => h) (Or.inr ⟨by rfl, rfl⟩) hS0 ?r23rA
        try simp only [Act.put, List.setIfInBounds_toArray, List.set_cons_zero, List.set_cons_succ]
        refine' wpAnyH_take (i := 24) (oi := ⟨some 29, _, _, _, _, _⟩) (v := undef) rfl (by kernel_rfl) (by kernel_rfl) (by kernel_rfl) (fun _ _ _ h => h) (Or.inr ⟨by rfl, rfl⟩) hS0 ?r24rA
        try simp only [Act.put, List.setIfInBounds_toArray, List.set_cons_zero, List.set_cons_succ]
        refine' wpAnyH_take (i := 25) (oi := ⟨some 30, _, _, _, _, _⟩) (v := undef) rfl (by kernel_rfl) (by kernel_rfl) (by kernel_rfl) (fun _ _ _ h => h) (Or.inr ⟨by rfl, rfl⟩) hS0 ?r25rA
        try simp only [Act.put, List.setIfInBounds_toArray, List.set_cons_zero, List.set_cons_succ]
        refine' wpAnyH_take (i := 26) (oi := ⟨some 31, _, _, _, _, _⟩) (v := undef) rfl (by kernel_rfl) (by kernel_rfl) (by kernel_rfl) (fun _ _ _ h => h) (Or.inr ⟨by rfl, rfl⟩) hS0 ?r26rA
        try simp only [Act.put, List.setIfInBounds_toArray, List.set_cons_zero, List.set_cons_succ]
        refine' wpAnyH_take (i := 27) (oi := ⟨some 32, _, _, _, _, _⟩) (v := undef) rfl (by kernel_rfl) (by kernel_rfl) (by kernel_rfl) (fun _ _ _ h => h) (Or.inr ⟨by rfl, rfl⟩) hS0 ?r27rA
        try simp only [Act.put, List.setIfInBounds_toArray, List.set_cons_zero, List.set_cons_succ]
        refine' wpAnyH_take (i := 28) (oi := ⟨some 33, _, _, _, _, _⟩) (v := undef) rfl (by kernel_rfl) (by kernel_rfl) (by kernel_rfl) (fun _ _ _ h => h) (Or.inr ⟨by rfl, rfl⟩) hS0 ?r28rA
        try simp only [Act.put, List.setIfInBounds_toArray, List.set_cons_zero, List.set_cons_succ]
        refine' wpAnyH_take (i := 29) (oi := ⟨some 34, _, _, _, _, _⟩) (v := undef) rfl (by kernel_rfl) (by kernel_rfl) (by kernel_rfl) (fun _ _ _ h => h) (Or.inr ⟨by rfl, rfl⟩) hS0 ?r29rA
        try simp only [Act.put, List.setIfInBounds_toArray, List.set_cons_zero, List.set_cons_succ]
        refine' wpAnyH_take (i := 30) (oi := ⟨some 35, _, _, _, _, _⟩) (v := undef) rfl (by kernel_rfl) (by kernel_rfl) (by kernel_rfl) (fun _ _ _ h => h) (Or.inr ⟨by rfl, rfl⟩) hS0 ?r30rA
        try simp only [Act.put, List.setIfInBounds_toArray, List.set_cons_zero, List.set_cons_succ]
        refine' wpAnyH_take (i := 31) (oi := ⟨some 36, _, _, _, _, _⟩) (v := undef) rfl (by kernel_rfl) (by kernel_rfl) (by kernel_rfl) (fun _ _ _ h => h) (Or.inr ⟨by rfl, rfl⟩) hS0 ?r31rA
        try simp only [Act.put, List.setIfInBounds_toArray, List.set_cons_zero, List.set_cons_succ]
        refine' wpAnyH_take (i := 32) (oi := ⟨some 37, _, _, _, _, _⟩) (v := undef) rfl (by kernel_rfl) (by kernel_rfl) (by kernel_rfl) (fun _ _ _ h => h) (Or.inr ⟨by rfl, rfl⟩) hS0 ?r32rA
        try simp only [Act.put, List.setIfInBounds_toArray, List.set_cons_zero, List.set_cons_succ]
        refine' wpAnyH_take (i := 33) (oi := ⟨some 38, _, _, _, _, _⟩) (v := undef) rfl (by kernel_rfl) (by kernel_rfl) (by kernel_rfl) (fun _ _ _ h => h) (Or.inr ⟨by rfl, rfl⟩) hS0 ?r33rA
        try simp only [Act.put, List.setIfInBounds_toArray, List.set_cons_zero, List.set_cons_succ]
        refine' wpAnyH_take (i := 34) (oi := ⟨some 39, _, _, _, _, _⟩) (v := undef) rfl (by kernel_rfl) (by kernel_rfl) (by kernel_rfl) (fun _ _ _ h => h) (Or.inr ⟨by rfl, rfl⟩) hS0 ?r34rA
        try simp only [Act.put, List.setIfInBounds_toArray, List.set_cons_zero, List.set_cons_succ]
        refine' wpAnyH_take (i := 35) (oi := ⟨some 40, _, _, _, _, _⟩) (v := undef) rfl (by kernel_rfl) (by kernel_rfl) (by kernel_rfl) (fun _ _ _ h => h) (Or.inr ⟨by rfl, rfl⟩) hS0 ?r35rA
        try simp only [Act.put, List.setIfInBounds_toArray, List.set_cons_zero, List.set_cons_succ]
        refine' wpAnyH_take (i := 36) (oi := ⟨some 41, _, _, _, _, _⟩) (v := undef) rfl (by kernel_rfl) (by kernel_rfl) (by kernel_rfl) (fun _ _ _ h => h) (Or.inr ⟨by rfl, rfl⟩) hS0 ?r36rA
        try simp only [Act.put, List.setIfInBounds_toArray, List.set_cons_zero, List.set_cons_succ]
        refine' wpAnyH_take (i := 37) (oi := ⟨some 42, _, _, _, _, _⟩) (v := undef) rfl (by kernel_rfl) (by kernel_rfl) (by kernel_rfl) (fun _ _ _ h => h) (Or.inr ⟨by rfl, rfl⟩) hS0 ?r37rA
        try simp only [Act.put, List.setIfInBounds_toArray, List.set_cons_zero, List.set_cons_succ]
        refine' wpAnyH_take (i := 38) (oi := ⟨some 43, _, _, _, _, _⟩) (v := undef) rfl (by kernel_rfl) (by kernel_rfl) (by kernel_rfl) (fun _ _ _ h => h) (Or.inr ⟨by rfl, rfl⟩) hS0 ?r38rA
        try simp only [Act.put, List.setIfInBounds_toArray, List.set_cons_zero, List.set_cons_succ]
        refine' wpAnyH_take (i := 39) (oi := ⟨some 44, _, _, _, _, _⟩) (v := undef) rfl (by kernel_rfl) (by kernel_rfl) (by kernel_rfl) (fun _ _ _ h => h) (Or.inr ⟨by rfl, rfl⟩) hS0 ?r39rA
        try simp only [Act.put, List.setIfInBounds_toArray, List.set_cons_zero, List.set_cons_succ]
        refine' wpAnyH_take (i := 40) (oi := ⟨some 45, _, _, _, _, _⟩) (v := undef) rfl (by kernel_rfl) (by kernel_rfl) (by kernel_rfl) (fun _ _ _ h => h) (Or.inr ⟨by rfl, rfl⟩) hS0 ?r40rA
        try simp only [Act.put, List.setIfInBounds_toArray, List.set_cons_zero, List.set_cons_succ]
        refine' wpAnyH_take (i := 41) (oi := ⟨some 46, _, _, _, _, _⟩) (v := undef) rfl (by kernel_rfl) (by kernel_rfl) (by kernel_rfl) (fun _ _ _ h => h) (Or.inr ⟨by rfl, rfl⟩) hS0 ?r41rA
        try simp only [Act.put, List.setIfInBounds_toArray, List.set_cons_zero, List.set_cons_succ]
        refine' wpAnyH_take (i := 42) (oi := ⟨some 47, _, _, _, _, _⟩) (v := undef) rfl (by kernel_rfl) (by kernel_rfl) (by kernel_rfl) (fun _ _ _ h => h) (Or.inr ⟨by rfl, rfl⟩) hS0 ?r42rA
        try simp only [Act.put, List.setIfInBounds_toArray, List.set_cons_zero, List.set_cons_succ]
        refine' wpAnyH_take (i := 43) (oi := ⟨some 48, _, _, _, _, _⟩) (v := undef) rfl (by kernel_rfl) (by kernel_rfl) (by kernel_rfl) (fun _ _ _ h => h) (Or.inr ⟨by rfl, rfl⟩) hS0 ?r43rA
        try simp only [Act.put, List.setIfInBounds_toArray, List.set_cons_zero, List.set_cons_succ]
        refine' wpAnyH_take (i := 44) (oi := ⟨some 49, _, _, _, _, _⟩) (v := undef) rfl (by kernel_rfl) (by kernel_rfl) (by kernel_rfl) (fun _ _ _ h => h) (Or.inr ⟨by rfl, rfl⟩) hS0 ?r44rA
        try simp only [Act.put, List.setIfInBounds_toArray, List.set_cons_zero, List.set_cons_succ]
        refine' wpAnyH_take (i := 45) (oi := ⟨some 50, _, _, _, _, _⟩) (v := (.bool false)) rfl (by kernel_rfl) (by kernel_rfl) (by kernel_rfl) (fun _ _ _ h => h) (Or.inl ⟨by rfl, ?y45rA⟩) hS0 ?r45rA
        case y45rA =>
          intro w' hSw
          obtain ⟨e0, e1, e2, e3⟩ := HE.out _ hSw
          go_simp
          try simp only [j0]
          try rfl
        try simp only [Act.put, List.setIfInBounds_toArray, List.set_cons_zero, List.set_cons_succ]
        refine wpAnyH_done (by kernel_rfl) ?_ _
        go_wp2_with fail
        go_meet
        case rel => exact ⟨by rw [HB.out], hS0⟩
    case rest =>
      obtain ⟨rfl, hbr⟩ := hcut
      cases bb
      · have hk2 : k = spotOf R q := spot_eq R q k hk hj.out (fun h hle => absurd ⟨h, hle⟩ (of_decide_eq_false HBB.out.symm))
        rw [← hk2] at HFIN
        clear hk2 HBB hj
        obtain ⟨TK, hTK⟩ : ∃ T, (R.map shp).take k = T := ⟨_, rfl⟩
        obtain ⟨DK, hDK⟩ : ∃ T, (R.map shp).drop k = T := ⟨_, rfl⟩
        have hTl : TK.length ≤ 100000 := by rw [← hTK, List.length_take, List.length_map]; omega
        have hDl : DK.length ≤ 100000 := by rw [← hDK, List.length_drop, List.length_map]; omega
        rw [hTK, hDK] at HFIN
        rcases HY.out.form with ⟨rfl, rfl, rfl⟩ | ⟨bs, os, rfl, hcap⟩
        · obtain rfl : k = 0 := by simpa using hk
          have HRK := Lib.hid (show ∀ Z, Below Y.heap.size Y Z → SlK kFl Z (.slice none 0 0) TK ∧ SlK kFl Z (.slice none 0 0) DK from fun Z hZ => by
            subst hTK hDK
            exact ⟨SlK.nil none 0, SlK.nil none 0⟩)
          clear hTK hDK
          go_upto_region 4 with fail
          refine tail_begin 20 (S := fun Z => Below Y.heap.size Y Z) hfo (by kernel_rfl) (hbr.trans ((show Below wc.heap.size wc wc.drew from (Below.refl _ _).drew).mono hbr.size)) (fun hS0 => ?_)
          generalize wc.drew = Z0 at hS0 ⊢
          refine' tail_take (i := 0) (oi := ⟨some 53, _, _, _, _, _⟩) (v := _) rfl (by kernel_rfl) (by kernel_rfl) (by decide) (fun _ _ _ h => h) (Or.inl ⟨by rfl, ?y0n⟩) hS0 ?r0n
          case y0n =>
            intro w' hSw
            obtain ⟨e0, e1, e2, e3⟩ := HE.out _ hSw
            go_simp
            try rfl
          try simp only [Act.put, List.setIfInBounds_toArray, List.set_cons_zero, List.set_cons_succ]
          refine' tail_take (i := 1) (oi := ⟨some 54, _, _, _, _, _⟩) (v := _) rfl (by kernel_rfl) (by kernel_rfl) (by decide) (fun _ _ _ h => h) (Or.inl ⟨by rfl, ?y1n⟩) hS0 ?r1n
          case y1n =>
            intro w' hSw
            obtain ⟨e0, e1, e2, e3⟩ := HE.out _ hSw
            go_simp
            try rfl
          try simp only [Act.put, List.setIfInBounds_toArray, List.set_cons_zero, List.set_cons_succ]
          refine' tail_take (i := 2) (oi := ⟨some 55, _, _, _, _, _⟩) (v := _) rfl (by kernel_rfl) (by kernel_rfl) (by decide) (fun _ _ _ h => h) (Or.inl ⟨by rfl, ?y2n⟩) hS0 ?r2n
          case y2n =>
            intro w' hSw
            obtain ⟨e0, e1, e2, e3⟩ := HE.out _ hSw
            go_simp
            try rfl
          try simp only [Act.put, List.setIfInBounds_toArray, List.set_cons_zero, List.set_cons_succ]
          refine' tail_take (i := 3) (oi := ⟨some 56, _, _, _, _, _⟩) (v := _) rfl (by kernel_rfl) (by kernel_rfl) (by decide) (fun _ _ _ h => h) (Or.inl ⟨by rfl, ?y3n⟩) hS0 ?r3n
          case y3n =>
            intro w' hSw
            obtain ⟨e0, e1, e2, e3⟩ := HE.out _ hSw
            go_simp
            try rfl
          try simp only [Act.put, List.setIfInBounds_toArray, List.set_cons_zero, List.set_cons_succ]
          refine' tail_take (i := 4) (oi := ⟨some 57, _, _, _, _, _⟩) (v := _) rfl (by kernel_rfl) (by kernel_rfl) (by decide) (fun _ _ _ h => h) (Or.inl ⟨by rfl, ?y4n⟩) hS0 ?r4n
          case y4n =>
            intro w' hSw
            obtain ⟨e0, e1, e2, e3⟩ := HE.out _ hSw
            go_simp
            try rfl
          try simp only [Act.put, List.setIfInBounds_toArray, List.set_cons_zero, List.set_cons_succ]
          refine' tail_take (i := 5) (oi := ⟨some 58, _, _, _, _, _⟩) (v := _) rfl (by kernel_rfl) (by kernel_rfl) (by decide) (fun _ _ _ h => h) (Or.inl ⟨by rfl, ?y5n⟩) hS0 ?r5n
          case y5n =>
            intro w' hSw
            obtain ⟨e0, e1, e2, e3⟩ := HE.out _ hSw
            go_simp
            try rfl
          try simp only [Act.put, List.setIfInBounds_toArray, List.set_cons_zero, List.set_cons_succ]
          refine' tail_take (i := 6) (oi := ⟨some 59, _, _, _, _, _⟩) (v := (.slice none 0 0)) rfl (by kernel_rfl) (by kernel_rfl) (by decide) (fun _ _ _ h => h) (Or.inl ⟨by rfl, ?y6n⟩) hS0 ?r6n
          case y6n =>
            intro w' hSw
            obtain ⟨e0, e1, e2, e3⟩ := HE.out _ hSw
            go_simp
            try rfl
          try simp only [Act.put, List.setIfInBounds_toArray, List.set_cons_zero, List.set_cons_succ]
          refine' tail_take (i := 8) (oi := ⟨some 61, _, _, _, _, _⟩) (v := (.agg #[.int .i64 q.1, .int .i64 q.2, .slice t0 t1 t2])) rfl (by kernel_rfl) (by kernel_rfl) (by decide) (fun _ _ _ h => h) (Or.inl ⟨by rfl, ?y8n⟩) hS0 ?r8n
          case y8n =>
            intro w' hSw
            obtain ⟨e0, e1, e2, e3⟩ := HE.out _ hSw
            go_simp
            try rfl
          try simp only [Act.put, List.setIfInBounds_toArray, List.set_cons_zero, List.set_cons_succ]
          refine' tail_take (i := 11) (oi := ⟨some 64, _, _, _, _, _⟩) (v := _) rfl (by kernel_rfl) (by kernel_rfl) (by decide) (fun _ _ _ h => h) (Or.inl ⟨by rfl, ?y11n⟩) hS0 ?r11n
          case y11n =>
            intro w' hSw
            obtain ⟨e0, e1, e2, e3⟩ := HE.out _ hSw
            go_simp
            try rfl
          try simp only [Act.put, List.setIfInBounds_toArray, List.set_cons_zero, List.set_cons_succ]
          refine' tail_take (i := 12) (oi := ⟨some 65, _, _, _, _, _⟩) (v := _) rfl (by kernel_rfl) (by kernel_rfl) (by decide) (fun _ _ _ h => h) (Or.inl ⟨by rfl, ?y12n⟩) hS0 ?r12n
          case y12n =>
            intro w' hSw
            obtain ⟨e0, e1, e2, e3⟩ := HE.out _ hSw
            go_simp
            try rfl
          try simp only [Act.put, List.setIfInBounds_toArray, List.set_cons_zero, List.set_cons_succ]
          refine' tail_take (i := 13) (oi := ⟨some 66, _, _, _, _, _⟩) (v := _) rfl (by kernel_rfl) (by kernel_rfl) (by decide) (fun _ _ _ h => h) (Or.inl ⟨by rfl, ?y13n⟩) hS0 ?r13n
          case y13n =>
            intro w' hSw
            obtain ⟨e0, e1, e2, e3⟩ := HE.out _ hSw
            go_simp
            try rfl
          try simp only [Act.put, List.setIfInBounds_toArray, List.set_cons_zero, List.set_cons_succ]
          refine' tail_take (i := 14) (oi := ⟨some 67, _, _, _, _, _⟩) (v := _) rfl (by kernel_rfl) (by kernel_rfl) (by decide) (fun _ _ _ h => h) (Or.inl ⟨by rfl, ?y14n⟩) hS0 ?r14n
          case y14n =>
            intro w' hSw
            obtain ⟨e0, e1, e2, e3⟩ := HE.out _ hSw
            go_simp
            try rfl
          try simp only [Act.put, List.setIfInBounds_toArray, List.set_cons_zero, List.set_cons_succ]
          refine' tail_take (i := 15) (oi := ⟨some 68, _, _, _, _, _⟩) (v := _) rfl (by kernel_rfl) (by kernel_rfl) (by decide) (fun _ _ _ h => h) (Or.inl ⟨by rfl, ?y15n⟩) hS0 ?r15n
          case y15n =>
            intro w' hSw
            obtain ⟨e0, e1, e2, e3⟩ := HE.out _ hSw
            go_simp
            try rfl
          try simp only [Act.put, List.setIfInBounds_toArray, List.set_cons_zero, List.set_cons_succ]
          refine' tail_take (i := 16) (oi := ⟨some 69, _, _, _, _, _⟩) (v := (.slice none 0 0)) rfl (by kernel_rfl) (by kernel_rfl) (by decide) (fun _ _ _ h => h) (Or.inl ⟨by rfl, ?y16n⟩) hS0 ?r16n
          case y16n =>
            intro w' hSw
            obtain ⟨e0, e1, e2, e3⟩ := HE.out _ hSw
            go_simp
            try rfl
          try simp only [Act.put, List.setIfInBounds_toArray, List.set_cons_zero, List.set_cons_succ]
          refine tail_two (i := 7) (j := 9) (by kernel_rfl) rfl rfl (by decide) (by decide) (fun Kc hK => ?_) (fun Kc hK => ?_)
          · refine held_wanted' rfl (by rfl) ?_
            refine heldOp_append_k (k := kFl) (.const (.slice none 0 0)) (.tmp 59) 31 rfl Y.heap.size ifl (by kernel_rfl) hif1 hif2 hif3 hif4 (.slice none 0 0) [] rfl OwnK.nil _ TK rfl (HRK.out Z0 hS0).1 (by simp [maxLen]; omega) (by simp [kFl]; omega) hS0.size ?_
            intro v7 Z1 ho7 hg7 _
            have hS7 : Below Y.heap.size Y Z1 := Keep.below (S := fun _ => False) hS0 (Keep.of_grown hg7 (fun k e => by cases e)) hS0.size (fun _ h => h.elim)
            refine hK.out _ _ hS7 (fun _ => ?_)
            clear hK Kc
            try simp only [Act.put, List.setIfInBounds_toArray, List.set_cons_zero, List.set_cons_succ]
            refine tail_one (i := 9) (by kernel_rfl) rfl (by decide) (fun Kc hK => ?_)
            refine held_wanted' rfl (by rfl) ?_
            go_simp
            have hS9 : Below Y.heap.size Y (Z1.alloc (.cells #[.int .i64 q.1, .int .i64 q.2, .slice t0 t1 t2] 44)) := hS7.alloc hS7.size _
            have hO9 := SlK.one (k := kFl) Z1 ⟨q, (t0, t1, t2)⟩ #[.int .i64 q.1, .int .i64 q.2, .slice t0 t1 t2] rfl
            change SlK kFl (Z1.alloc (.cells #[.int .i64 q.1, .int .i64 q.2, .slice t0 t1 t2] 44)) _ _ at hO9
            refine hK.out _ _ hS9 (fun _ => ?_)
            clear hK Kc
            try simp only [Act.put, List.setIfInBounds_toArray, List.set_cons_zero, List.set_cons_succ]
            have ho7b := ho7.below (show Below Z1.heap.size Z1 (Z1.alloc (.cells #[.int .i64 q.1, .int .i64 q.2, .slice t0 t1 t2] 44)) from (Below.refl _ _).alloc (Nat.le_refl _) _)
            generalize Z1.alloc (.cells #[.int .i64 q.1, .int .i64 q.2, .slice t0 t1 t2] 44) = Z2 at hS9 hO9 ho7b ⊢
            refine tail_one (i := 10) (by kernel_rfl) rfl (by decide) (fun Kc hK => ?_)
            refine held_wanted' rfl (by rfl) ?_
            refine heldOp_append_k (k := kFl) (.tmp 60) (.tmp 62) 31 rfl Y.heap.size ifl (by kernel_rfl) hif1 hif2 hif3 hif4 _ TK rfl ho7b _ [⟨q, (t0, t1, t2)⟩] rfl hO9 (by simp [maxLen]; omega) (by simp [kFl]; omega) hS9.size ?_
            intro v10 Z3 ho10 hg10 _
            have hS10 : Below Y.heap.size Y Z3 := Keep.below (S := fun i => Y.heap.size ≤ i) hS9 (Keep.of_grown hg10 (fun i e => (ho7b.lt i e).1)) hS9.size (fun _ h => h)
            refine hK.out _ _ hS10 (fun _ => ?_)
            clear hK Kc
            try simp only [Act.put, List.setIfInBounds_toArray, List.set_cons_zero, List.set_cons_succ]
            refine tail_one (i := 17) (by kernel_rfl) rfl (by decide) (fun Kc hK => ?_)
            refine held_wanted' rfl (by rfl) ?_
            refine heldOp_append_k (k := kFl) (.tmp 63) (.tmp 69) 31 rfl Y.heap.size ifl (by kernel_rfl) hif1 hif2 hif3 hif4 _ _ rfl ho10 _ DK rfl (HRK.out Z3 hS10).2 (by simp [maxLen]; omega) (by simp [kFl]; omega) hS10.size ?_
            intro v17 Z4 ho17 hg17 _
            have hS17 : Below Y.heap.size Y Z4 := Keep.below (S := fun i => Y.heap.size ≤ i) hS10 (Keep.of_grown hg17 (fun i e => (ho10.lt i e).1)) hS10.size (fun _ h => h)
            obtain ⟨A8, c8, e8⟩ := ho17.shape
            obtain ⟨N8, hN8⟩ : ∃ n, ((TK ++ [(⟨q, (t0, t1, t2)⟩ : Fl Sv)]) ++ DK).length = n := ⟨_, rfl⟩
            rw [hN8] at e8
            clear hN8
            subst e8
            refine hK.out _ _ hS17 (fun _ => ?_)
            clear hK Kc
            try simp only [Act.put, List.setIfInBounds_toArray, List.set_cons_zero, List.set_cons_succ]
            have hxl := HXL.out Z4 hS17
            have hfx := hxl.frozen 0
            have hxc := (HE.out Z4 hS17).1
            have HO := Lib.hid ho17
            clear ho17 hS10 hg17 ho10 hg10 hO9 ho7b ho7 hg7 hS9 hS7
            refine' tail_take (i := 18) (oi := ⟨some 71, _, _, _, _, _⟩) (v := _) rfl (by kernel_rfl) (by kernel_rfl) (by decide) (fun _ _ _ h => h) (Or.inl ⟨by rfl, ?y18n7⟩) hS17 ?r18n7
            case y18n7 =>
              intro w' hSw
              go_simp
              try rfl
            try simp only [Act.put, List.setIfInBounds_toArray, List.set_cons_zero, List.set_cons_succ]
            refine' tail_take (i := 19) (oi := ⟨some 72, _, _, _, _, _⟩) (v := _) rfl (by kernel_rfl) (by kernel_rfl) (by decide) (fun _ _ _ h => h) (Or.inl ⟨by rfl, ?y19n7⟩) hS17 ?r19n7
            case y19n7 =>
              intro w' hSw
              go_simp
              try rfl
            try simp only [Act.put, List.setIfInBounds_toArray, List.set_cons_zero, List.set_cons_succ]
            refine tail_last (by kernel_rfl) rfl (by kernel_rfl) (fun Kc hK => ?_)
            go_simp
            refine hK.out _ _ ?_
            clear hK Kc
            go_wp2_with fail
            all_goals go_end0
            all_goals exact ⟨rfl, HFIN.out Z4 _ _ _ hS17 HO.out⟩
          · refine held_wanted' rfl (by rfl) ?_
            go_simp
            have hS9 : Below Y.heap.size Y (Z0.alloc (.cells #[.int .i64 q.1, .int .i64 q.2, .slice t0 t1 t2] 44)) := hS0.alloc hS0.size _
            have hO9 := SlK.one (k := kFl) Z0 ⟨q, (t0, t1, t2)⟩ #[.int .i64 q.1, .int .i64 q.2, .slice t0 t1 t2] rfl
            change SlK kFl (Z0.alloc (.cells #[.int .i64 q.1, .int .i64 q.2, .slice t0 t1 t2] 44)) _ _ at hO9
            refine hK.out _ _ hS9 (fun _ => ?_)
            clear hK Kc
            try simp only [Act.put, List.setIfInBounds_toArray, List.set_cons_zero, List.set_cons_succ]
            generalize Z0.alloc (.cells #[.int .i64 q.1, .int .i64 q.2, .slice t0 t1 t2] 44) = Z1 at hS9 hO9 ⊢
            refine tail_one (i := 7) (by kernel_rfl) rfl (by decide) (fun Kc hK => ?_)
            refine held_wanted' rfl (by rfl) ?_
            refine heldOp_append_k (k := kFl) (.const (.slice none 0 0)) (.tmp 59) 31 rfl Y.heap.size ifl (by kernel_rfl) hif1 hif2 hif3 hif4 (.slice none 0 0) [] rfl OwnK.nil _ TK rfl (HRK.out Z1 hS9).1 (by simp [maxLen]; omega) (by simp [kFl]; omega) hS9.size ?_
            intro v7 Z2 ho7 hg7 _
            have hS7 : Below Y.heap.size Y Z2 := Keep.below (S := fun _ => False) hS9 (Keep.of_grown hg7 (fun k e => by cases e)) hS9.size (fun _ h => h.elim)
            refine hK.out _ _ hS7 (fun _ => ?_)
            clear hK Kc
            try simp only [Act.put, List.setIfInBounds_toArray, List.set_cons_zero, List.set_cons_succ]
            have ho7b := ho7
            replace hO9 := hO9.below (Keep.below (S := fun _ => False) (Below.refl _ _) (Keep.of_grown hg7 (fun k e => by cases e)) (Nat.le_refl _) (fun _ h => h.elim))
            refine tail_one (i := 10) (by kernel_rfl) rfl (by decide) (fun Kc hK => ?_)
            refine held_wanted' rfl (by rfl) ?_
            refine heldOp_append_k (k := kFl) (.tmp 60) (.tmp 62) 31 rfl Y.heap.size ifl (by kernel_rfl) hif1 hif2 hif3 hif4 _ TK rfl ho7b _ [⟨q, (t0, t1, t2)⟩] rfl hO9 (by simp [maxLen]; omega) (by simp [kFl]; omega) hS7.size ?_
            intro v10 Z3 ho10 hg10 _
            have hS10 : Below Y.heap.size Y Z3 := Keep.below (S := fun i => Y.heap.size ≤ i) hS7 (Keep.of_grown hg10 (fun i e => (ho7b.lt i e).1)) hS7.size (fun _ h => h)
            refine hK.out _ _ hS10 (fun _ => ?_)
            clear hK Kc
            try simp only [Act.put, List.setIfInBounds_toArray, List.set_cons_zero, List.set_cons_succ]
            refine tail_one (i := 17) (by kernel_rfl) rfl (by decide) (fun Kc hK => ?_)
            refine held_wanted' rfl (by rfl) ?_
            refine heldOp_append_k (k := kFl) (.tmp 63) (.tmp 69) 31 rfl Y.heap.size ifl (by kernel_rfl) hif1 hif2 hif3 hif4 _ _ rfl ho10 _ DK rfl (HRK.out Z3 hS10).2 (by simp [maxLen]; omega) (by simp [kFl]; omega) hS10.size ?_
            intro v17 Z4 ho17 hg17 _
            have hS17 : Below Y.heap.size Y Z4 := Keep.below (S := fun i => Y.heap.size ≤ i) hS10 (Keep.of_grown hg17 (fun i e => (ho10.lt i e).1)) hS10.size (fun _ h => h)
            obtain ⟨A8, c8, e8⟩ := ho17.shape
            obtain ⟨N8, hN8⟩ : ∃ n, ((TK ++ [(⟨q, (t0, t1, t2)⟩ : Fl Sv)]) ++ DK).length = n := ⟨_, rfl⟩
            rw [hN8] at e8
            clear hN8
            subst e8
            refine hK.out _ _ hS17 (fun _ => ?_)
            clear hK Kc
            try simp only [Act.put, List.setIfInBounds_toArray, List.set_cons_zero, List.set_cons_succ]
            have hxl := HXL.out Z4 hS17
            have hfx := hxl.frozen 0
            have hxc := (HE.out Z4 hS17).1
            have HO := Lib.hid ho17
            clear ho17 hS10 hg17 ho10 hg10 hO9 ho7b ho7 hg7 hS9 hS7
            refine' tail_take (i := 18) (oi := ⟨some 71, _, _, _, _, _⟩) (v := _) rfl (by kernel_rfl) (by kernel_rfl) (by decide) (fun _ _ _ h => h) (Or.inl ⟨by rfl, ?y18n9⟩) hS17 ?r18n9
            case y18n9 =>
              intro w' hSw
              go_simp
              try rfl
            try simp only [Act.put, List.setIfInBounds_toArray, List.set_cons_zero, List.set_cons_succ]
            refine' tail_take (i := 19) (oi := ⟨some 72, _, _, _, _, _⟩) (v := _) rfl (by kernel_rfl) (by kernel_rfl) (by decide) (fun _ _ _ h => h) (Or.inl ⟨by rfl, ?y19n9⟩) hS17 ?r19n9
            case y19n9 =>
              intro w' hSw
              go_simp
              try rfl
            try simp only [Act.put, List.setIfInBounds_toArray, List.set_cons_zero, List.set_cons_succ]
            refine tail_last (by kernel_rfl) rfl (by kernel_rfl) (fun Kc hK => ?_)
            go_simp
            refine hK.out _ _ ?_
            clear hK Kc
            go_wp2_with fail
            all_goals go_end0
            all_goals exact ⟨rfl, HFIN.out Z4 _ _ _ hS17 HO.out⟩
        · have hkI : (k : Int) ≤ (R.length : Int) := by omega
          have hkc : k ≤ c := by omega
          have hcI : (k : Int) ≤ (c : Int) := by omega
          have HRK := Lib.hid (show ∀ Z, Below Y.heap.size Y Z → SlK kFl Z (.slice (some ⟨bs, os, none⟩) k c) TK ∧ SlK kFl Z (.slice (if c = k then some ⟨bs, os, none⟩ else some ⟨bs, os + k * 3, none⟩) (R.length - k) (c - k)) DK from fun Z hZ => by
            subst hTK hDK
            have hk2 := (HY.out.below hZ).own.slk
            exact ⟨hk2.pre k hk, hk2.suf k hk _ (fun (hh : k < R.length) => if_neg (show ¬ c = k by omega))⟩)
          clear hTK hDK
          go_upto_region 4 with fail
          refine tail_begin 20 (S := fun Z => Below Y.heap.size Y Z) hfo (by kernel_rfl) (hbr.trans ((show Below wc.heap.size wc wc.drew from (Below.refl _ _).drew).mono hbr.size)) (fun hS0 => ?_)
          generalize wc.drew = Z0 at hS0 ⊢
          refine' tail_take (i := 0) (oi := ⟨some 53, _, _, _, _, _⟩) (v := _) rfl (by kernel_rfl) (by kernel_rfl) (by decide) (fun _ _ _ h => h) (Or.inl ⟨by rfl, ?y0s⟩) hS0 ?r0s
          case y0s =>
            intro w' hSw
            obtain ⟨e0, e1, e2, e3⟩ := HE.out _ hSw
            go_simp
            try rfl
          try simp only [Act.put, List.setIfInBounds_toArray, List.set_cons_zero, List.set_cons_succ]
          refine' tail_take (i := 1) (oi := ⟨some 54, _, _, _, _, _⟩) (v := _) rfl (by kernel_rfl) (by kernel_rfl) (by decide) (fun _ _ _ h => h) (Or.inl ⟨by rfl, ?y1s⟩) hS0 ?r1s
          case y1s =>
            intro w' hSw
            obtain ⟨e0, e1, e2, e3⟩ := HE.out _ hSw
            go_simp
            try rfl
          try simp only [Act.put, List.setIfInBounds_toArray, List.set_cons_zero, List.set_cons_succ]
          refine' tail_take (i := 2) (oi := ⟨some 55, _, _, _, _, _⟩) (v := _) rfl (by kernel_rfl) (by kernel_rfl) (by decide) (fun _ _ _ h => h) (Or.inl ⟨by rfl, ?y2s⟩) hS0 ?r2s
          case y2s =>
            intro w' hSw
            obtain ⟨e0, e1, e2, e3⟩ := HE.out _ hSw
            go_simp
            try rfl
          try simp only [Act.put, List.setIfInBounds_toArray, List.set_cons_zero, List.set_cons_succ]
          refine' tail_take (i := 3) (oi := ⟨some 56, _, _, _, _, _⟩) (v := _) rfl (by kernel_rfl) (by kernel_rfl) (by decide) (fun _ _ _ h => h) (Or.inl ⟨by rfl, ?y3s⟩) hS0 ?r3s
          case y3s =>
            intro w' hSw
            obtain ⟨e0, e1, e2, e3⟩ := HE.out _ hSw
            go_simp
            try rfl
          try simp only [Act.put, List.setIfInBounds_toArray, List.set_cons_zero, List.set_cons_succ]
          refine' tail_take (i := 4) (oi := ⟨some 57, _, _, _, _, _⟩) (v := _) rfl (by kernel_rfl) (by kernel_rfl) (by decide) (fun _ _ _ h => h) (Or.inl ⟨by rfl, ?y4s⟩) hS0 ?r4s
          case y4s =>
            intro w' hSw
            obtain ⟨e0, e1, e2, e3⟩ := HE.out _ hSw
            go_simp
            try rfl
          try simp only [Act.put, List.setIfInBounds_toArray, List.set_cons_zero, List.set_cons_succ]
          refine' tail_take (i := 5) (oi := ⟨some 58, _, _, _, _, _⟩) (v := _) rfl (by kernel_rfl) (by kernel_rfl) (by decide) (fun _ _ _ h => h) (Or.inl ⟨by rfl, ?y5s⟩) hS0 ?r5s
          case y5s =>
            intro w' hSw
            obtain ⟨e0, e1, e2, e3⟩ := HE.out _ hSw
            go_simp
            try rfl
          try simp only [Act.put, List.setIfInBounds_toArray, List.set_cons_zero, List.set_cons_succ]
          refine' tail_take (i := 6) (oi := ⟨some 59, _, _, _, _, _⟩) (v := (.slice (some ⟨bs, os, none⟩) k c)) rfl (by kernel_rfl) (by kernel_rfl) (by decide) (fun _ _ _ h => h) (Or.inl ⟨by rfl, ?y6s⟩) hS0 ?r6s
          case y6s =>
            intro w' hSw
            obtain ⟨e0, e1, e2, e3⟩ := HE.out _ hSw
            go_simp
            try simp [hkI, hkc, hcI]
            try rfl
          try simp only [Act.put, List.setIfInBounds_toArray, List.set_cons_zero, List.set_cons_succ]
          refine' tail_take (i := 8) (oi := ⟨some 61, _, _, _, _, _⟩) (v := (.agg #[.int .i64 q.1, .int .i64 q.2, .slice t0 t1 t2])) rfl (by kernel_rfl) (by kernel_rfl) (by decide) (fun _ _ _ h => h) (Or.inl ⟨by rfl, ?y8s⟩) hS0 ?r8s
          case y8s =>
            intro w' hSw
            obtain ⟨e0, e1, e2, e3⟩ := HE.out _ hSw
            go_simp
            try rfl
          try simp only [Act.put, List.setIfInBounds_toArray, List.set_cons_zero, List.set_cons_succ]
          refine' tail_take (i := 11) (oi := ⟨some 64, _, _, _, _, _⟩) (v := _) rfl (by kernel_rfl) (by kernel_rfl) (by decide) (fun _ _ _ h => h) (Or.inl ⟨by rfl, ?y11s⟩) hS0 ?r11s
          case y11s =>
            intro w' hSw
            obtain ⟨e0, e1, e2, e3⟩ := HE.out _ hSw
            go_simp
            try rfl
          try simp only [Act.put, List.setIfInBounds_toArray, List.set_cons_zero, List.set_cons_succ]
          refine' tail_take (i := 12) (oi := ⟨some 65, _, _, _, _, _⟩) (v := _) rfl (by kernel_rfl) (by kernel_rfl) (by decide) (fun _ _ _ h => h) (Or.inl ⟨by rfl, ?y12s⟩) hS0 ?r12s
          case y12s =>
            intro w' hSw
            obtain ⟨e0, e1, e2, e3⟩ := HE.out _ hSw
            go_simp
            try rfl
          try simp only [Act.put, List.setIfInBounds_toArray, List.set_cons_zero, List.set_cons_succ]
          refine' tail_take (i := 13) (oi := ⟨some 66, _, _, _, _, _⟩) (v := _) rfl (by kernel_rfl) (by kernel_rfl) (by decide) (fun _ _ _ h => h) (Or.inl ⟨by rfl, ?y13s⟩) hS0 ?r13s
          case y13s =>
            intro w' hSw
            obtain ⟨e0, e1, e2, e3⟩ := HE.out _ hSw
            go_simp
            try rfl
          try simp only [Act.put, List.setIfInBounds_toArray, List.set_cons_zero, List.set_cons_succ]
          refine' tail_take (i := 14) (oi := ⟨some 67, _, _, _, _, _⟩) (v := _) rfl (by kernel_rfl) (by kernel_rfl) (by decide) (fun _ _ _ h => h) (Or.inl ⟨by rfl, ?y14s⟩) hS0 ?r14s
          case y14s =>
            intro w' hSw
            obtain ⟨e0, e1, e2, e3⟩ := HE.out _ hSw
            go_simp
            try rfl
          try simp only [Act.put, List.setIfInBounds_toArray, List.set_cons_zero, List.set_cons_succ]
          refine' tail_take (i := 15) (oi := ⟨some 68, _, _, _, _, _⟩) (v := _) rfl (by kernel_rfl) (by kernel_rfl) (by decide) (fun _ _ _ h => h) (Or.inl ⟨by rfl, ?y15s⟩) hS0 ?r15s
          case y15s =>
            intro w' hSw
            obtain ⟨e0, e1, e2, e3⟩ := HE.out _ hSw
            go_simp
            try rfl
          try simp only [Act.put, List.setIfInBounds_toArray, List.set_cons_zero, List.set_cons_succ]
          refine' tail_take (i := 16) (oi := ⟨some 69, _, _, _, _, _⟩) (v := (.slice (if c = k then some ⟨bs, os, none⟩ else some ⟨bs, os + k * 3, none⟩) (R.length - k) (c - k))) rfl (by kernel_rfl) (by kernel_rfl) (by decide) (fun _ _ _ h => h) (Or.inl ⟨by rfl, ?y16s⟩) hS0 ?r16s
          case y16s =>
            intro w' hSw
            obtain ⟨e0, e1, e2, e3⟩ := HE.out _ hSw
            go_simp
            try simp [hkI, hkc, hcI]
            try rfl
          try simp only [Act.put, List.setIfInBounds_toArray, List.set_cons_zero, List.set_cons_succ]
          refine tail_two (i := 7) (j := 9) (by kernel_rfl) rfl rfl (by decide) (by decide) (fun Kc hK => ?_) (fun Kc hK => ?_)
          · refine held_wanted' rfl (by rfl) ?_
            refine heldOp_append_k (k := kFl) (.const (.slice none 0 0)) (.tmp 59) 31 rfl Y.heap.size ifl (by kernel_rfl) hif1 hif2 hif3 hif4 (.slice none 0 0) [] rfl OwnK.nil _ TK rfl (HRK.out Z0 hS0).1 (by simp [maxLen]; omega) (by simp [kFl]; omega) hS0.size ?_
            intro v7 Z1 ho7 hg7 _
            have hS7 : Below Y.heap.size Y Z1 := Keep.below (S := fun _ => False) hS0 (Keep.of_grown hg7 (fun k e => by cases e)) hS0.size (fun _ h => h.elim)
            refine hK.out _ _ hS7 (fun _ => ?_)
            clear hK Kc
            try simp only [Act.put, List.setIfInBounds_toArray, List.set_cons_zero, List.set_cons_succ]
            refine tail_one (i := 9) (by kernel_rfl) rfl (by decide) (fun Kc hK => ?_)
            refine held_wanted' rfl (by rfl) ?_
            go_simp
            have hS9 : Below Y.heap.size Y (Z1.alloc (.cells #[.int .i64 q.1, .int .i64 q.2, .slice t0 t1 t2] 44)) := hS7.alloc hS7.size _
            have hO9 := SlK.one (k := kFl) Z1 ⟨q, (t0, t1, t2)⟩ #[.int .i64 q.1, .int .i64 q.2, .slice t0 t1 t2] rfl
            change SlK kFl (Z1.alloc (.cells #[.int .i64 q.1, .int .i64 q.2, .slice t0 t1 t2] 44)) _ _ at hO9
            refine hK.out _ _ hS9 (fun _ => ?_)
            clear hK Kc
            try simp only [Act.put, List.setIfInBounds_toArray, List.set_cons_zero, List.set_cons_succ]
            have ho7b := ho7.below (show Below Z1.heap.size Z1 (Z1.alloc (.cells #[.int .i64 q.1, .int .i64 q.2, .slice t0 t1 t2] 44)) from (Below.refl _ _).alloc (Nat.le_refl _) _)
            generalize Z1.alloc (.cells #[.int .i64 q.1, .int .i64 q.2, .slice t0 t1 t2] 44) = Z2 at hS9 hO9 ho7b ⊢
            refine tail_one (i := 10) (by kernel_rfl) rfl (by decide) (fun Kc hK => ?_)
            refine held_wanted' rfl (by rfl) ?_
            refine heldOp_append_k (k := kFl) (.tmp 60) (.tmp 62) 31 rfl Y.heap.size ifl (by kernel_rfl) hif1 hif2 hif3 hif4 _ TK rfl ho7b _ [⟨q, (t0, t1, t2)⟩] rfl hO9 (by simp [maxLen]; omega) (by simp [kFl]; omega) hS9.size ?_
            intro v10 Z3 ho10 hg10 _
            have hS10 : Below Y.heap.size Y Z3 := Keep.below (S := fun i => Y.heap.size ≤ i) hS9 (Keep.of_grown hg10 (fun i e => (ho7b.lt i e).1)) hS9.size (fun _ h => h)
            refine hK.out _ _ hS10 (fun _ => ?_)
            clear hK Kc
            try simp only [Act.put, List.setIfInBounds_toArray, List.set_cons_zero, List.set_cons_succ]
            refine tail_one (i := 17) (by kernel_rfl) rfl (by decide) (fun Kc hK => ?_)
            refine held_wanted' rfl (by rfl) ?_
            refine heldOp_append_k (k := kFl) (.tmp 63) (.tmp 69) 31 rfl Y.heap.size ifl (by kernel_rfl) hif1 hif2 hif3 hif4 _ _ rfl ho10 _ DK rfl (HRK.out Z3 hS10).2 (by simp [maxLen]; omega) (by simp [kFl]; omega) hS10.size ?_
            intro v17 Z4 ho17 hg17 _
            have hS17 : Below Y.heap.size Y Z4 := Keep.below (S := fun i => Y.heap.size ≤ i) hS10 (Keep.of_grown hg17 (fun i e => (ho10.lt i e).1)) hS10.size (fun _ h => h)
            obtain ⟨A8, c8, e8⟩ := ho17.shape
            obtain ⟨N8, hN8⟩ : ∃ n, ((TK ++ [(⟨q, (t0, t1, t2)⟩ : Fl Sv)]) ++ DK).length = n := ⟨_, rfl⟩
            rw [hN8] at e8
            clear hN8
            subst e8
            refine hK.out _ _ hS17 (fun _ => ?_)
            clear hK Kc
            try simp only [Act.put, List.setIfInBounds_toArray, List.set_cons_zero, List.set_cons_succ]
            have hxl := HXL.out Z4 hS17
            have hfx := hxl.frozen 0
            have hxc := (HE.out Z4 hS17).1
            have HO := Lib.hid ho17
            clear ho17 hS10 hg17 ho10 hg10 hO9 ho7b ho7 hg7 hS9 hS7
            refine' tail_take (i := 18) (oi := ⟨some 71, _, _, _, _, _⟩) (v := _) rfl (by kernel_rfl) (by kernel_rfl) (by decide) (fun _ _ _ h => h) (Or.inl ⟨by rfl, ?y18s7⟩) hS17 ?r18s7
            case y18s7 =>
              intro w' hSw
              go_simp
              try rfl
            try simp only [Act.put, List.setIfInBounds_toArray, List.set_cons_zero, List.set_cons_succ]
            refine' tail_take (i := 19) (oi := ⟨some 72, _, _, _, _, _⟩) (v := _) rfl (by kernel_rfl) (by kernel_rfl) (by decide) (fun _ _ _ h => h) (Or.inl ⟨by rfl, ?y19s7⟩) hS17 ?r19s7
            case y19s7 =>
              intro w' hSw
              go_simp
              try rfl
            try simp only [Act.put, List.setIfInBounds_toArray, List.set_cons_zero, List.set_cons_succ]
            refine tail_last (by kernel_rfl) rfl (by kernel_rfl) (fun Kc hK => ?_)
            go_simp
            refine hK.out _ _ ?_
            clear hK Kc
            go_wp2_with fail
            all_goals go_end0
            all_goals exact ⟨rfl, HFIN.out Z4 _ _ _ hS17 HO.out⟩
          · refine held_wanted' rfl (by rfl) ?_
            go_simp
            have hS9 : Below Y.heap.size Y (Z0.alloc (.cells #[.int .i64 q.1, .int .i64 q.2, .slice t0 t1 t2] 44)) := hS0.alloc hS0.size _
            have hO9 := SlK.one (k := kFl) Z0 ⟨q, (t0, t1, t2)⟩ #[.int .i64 q.1, .int .i64 q.2, .slice t0 t1 t2] rfl
            change SlK kFl (Z0.alloc (.cells #[.int .i64 q.1, .int .i64 q.2, .slice t0 t1 t2] 44)) _ _ at hO9
            refine hK.out _ _ hS9 (fun _ => ?_)
            clear hK Kc
            try simp only [Act.put, List.setIfInBounds_toArray, List.set_cons_zero, List.set_cons_succ]
            generalize Z0.alloc (.cells #[.int .i64 q.1, .int .i64 q.2, .slice t0 t1 t2] 44) = Z1 at hS9 hO9 ⊢
            refine tail_one (i := 7) (by kernel_rfl) rfl (by decide) (fun Kc hK => ?_)
            refine held_wanted' rfl (by rfl) ?_
            refine heldOp_append_k (k := kFl) (.const (.slice none 0 0)) (.tmp 59) 31 rfl Y.heap.size ifl (by kernel_rfl) hif1 hif2 hif3 hif4 (.slice none 0 0) [] rfl OwnK.nil _ TK rfl (HRK.out Z1 hS9).1 (by simp [maxLen]; omega) (by simp [kFl]; omega) hS9.size ?_
            intro v7 Z2 ho7 hg7 _
            have hS7 : Below Y.heap.size Y Z2 := Keep.below (S := fun _ => False) hS9 (Keep.of_grown hg7 (fun k e => by cases e)) hS9.size (fun _ h => h.elim)
            refine hK.out _ _ hS7 (fun _ => ?_)
            clear hK Kc
            try simp only [Act.put, List.setIfInBounds_toArray, List.set_cons_zero, List.set_cons_succ]
            have ho7b := ho7
            replace hO9 := hO9.below (Keep.below (S := fun _ => False) (Below.refl _ _) (Keep.of_grown hg7 (fun k e => by cases e)) (Nat.le_refl _) (fun _ h => h.elim))
            refine tail_one (i := 10) (by kernel_rfl) rfl (by decide) (fun Kc hK => ?_)
            refine held_wanted' rfl (by rfl) ?_
            refine heldOp_append_k (k := kFl) (.tmp 60) (.tmp 62) 31 rfl Y.heap.size ifl (by kernel_rfl) hif1 hif2 hif3 hif4 _ TK rfl ho7b _ [⟨q, (t0, t1, t2)⟩] rfl hO9 (by simp [maxLen]; omega) (by simp [kFl]; omega) hS7.size ?_
            intro v10 Z3 ho10 hg10 _
            have hS10 : Below Y.heap.size Y Z3 := Keep.below (S := fun i => Y.heap.size ≤ i) hS7 (Keep.of_grown hg10 (fun i e => (ho7b.lt i e).1)) hS7.size (fun _ h => h)
            refine hK.out _ _ hS10 (fun _ => ?_)
            clear hK Kc
            try simp only [Act.put, List.setIfInBounds_toArray, List.set_cons_zero, List.set_cons_succ]
            refine tail_one (i := 17) (by kernel_rfl) rfl (by decide) (fun Kc hK => ?_)
            refine held_wanted' rfl (by rfl) ?_
            refine heldOp_append_k (k := kFl) (.tmp 63) (.tmp 69) 31 rfl Y.heap.size ifl (by kernel_rfl) hif1 hif2 hif3 hif4 _ _ rfl ho10 _ DK rfl (HRK.out Z3 hS10).2 (by simp [maxLen]; omega) (by simp [kFl]; omega) hS10.size ?_
            intro v17 Z4 ho17 hg17 _
            have hS17 : Below Y.heap.size Y Z4 := Keep.below (S := fun i => Y.heap.size ≤ i) hS10 (Keep.of_grown hg17 (fun i e => (ho10.lt i e).1)) hS10.size (fun _ h => h)
            obtain ⟨A8, c8, e8⟩ := ho17.shape
            obtain ⟨N8, hN8⟩ : ∃ n, ((TK ++ [(⟨q, (t0, t1, t2)⟩ : Fl Sv)]) ++ DK).length = n := ⟨_, rfl⟩
            rw [hN8] at e8
            clear hN8
            subst e8
            refine hK.out _ _ hS17 (fun _ => ?_)
            clear hK Kc
            try simp only [Act.put, List.setIfInBounds_toArray, List.set_cons_zero, List.set_cons_succ]
            have hxl := HXL.out Z4 hS17
            have hfx := hxl.frozen 0
            have hxc := (HE.out Z4 hS17).1
            have HO := Lib.hid ho17
            clear ho17 hS10 hg17 ho10 hg10 hO9 ho7b ho7 hg7 hS9 hS7
            refine' tail_take (i := 18) (oi := ⟨some 71, _, _, _, _, _⟩) (v := _) rfl (by kernel_rfl) (by kernel_rfl) (by decide) (fun _ _ _ h => h) (Or.inl ⟨by rfl, ?y18s9⟩) hS17 ?r18s9
            case y18s9 =>
              intro w' hSw
              go_simp
              try rfl
            try simp only [Act.put, List.setIfInBounds_toArray, List.set_cons_zero, List.set_cons_succ]
            refine' tail_take (i := 19) (oi := ⟨some 72, _, _, _, _, _⟩) (v := _) rfl (by kernel_rfl) (by kernel_rfl) (by decide) (fun _ _ _ h => h) (Or.inl ⟨by rfl, ?y19s9⟩) hS17 ?r19s9
            case y19s9 =>
              intro w' hSw
              go_simp
              try rfl
            try simp only [Act.put, List.setIfInBounds_toArray, List.set_cons_zero, List.set_cons_succ]
            refine tail_last (by kernel_rfl) rfl (by kernel_rfl) (fun Kc hK => ?_)
            go_simp
            refine hK.out _ _ ?_
            clear hK Kc
            go_wp2_with fail
            all_goals go_end0
            all_goals exact ⟨rfl, HFIN.out Z4 _ _ _ hS17 HO.out⟩
      · have hlt : k < R.length := (of_decide_eq_true HBB.out.symm).1
        have hle := Lib.hid (of_decide_eq_true HBB.out.symm).2
        go_wp2
        go_roundw
        case rel => exact ⟨k + 1, by omega, by go_num, hbr, Lib.hid fun j h hji => by rcases Nat.lt_or_ge j k with h1 | h1; exact hj.out j h h1; obtain rfl : j = k := (by omega); exact hle.out⟩
        case measure => simp [intOf]; omega
end
end Go.Proofs.Ytellbmghahgjfaa

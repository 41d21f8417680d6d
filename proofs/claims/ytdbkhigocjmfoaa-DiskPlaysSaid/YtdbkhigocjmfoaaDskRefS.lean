/-
  The document's Sync, Cut, Remove.
-/
import Derived.Test.YtdbkhigocjmfoaaDskRefBC
namespace Go.Proofs.Ytdbkhigocjmfoaa
open Go.RowKit
open DskM
set_option linter.unusedVariables false
set_option linter.unusedSimpArgs false
set_option maxRecDepth 20000
attribute [local go_sem] Oper.semAt_some

section
variable {w w' : World} {q : Nat} {v : Value} {S : Ds} {R : List Fr}
/-- What has become of the document's disk. -/
def RRes (w : World) (q : Nat) (v : Value) (R : List Fr) (r : Int × Ds × List Fp) (e : Ending) (w' : World) : Prop :=
  ∃ v' R', e = .returned (.int .i64 r.1) ∧ Rd w' q v' r.2.1 R' ∧ pl R' = r.2.2 ∧ Keep (fun i => i = q ∨ v.ownBlock = some i) w w' ∧ ∀ i, RFoot q v' R' i → RFoot q v R i ∨ w.heap.size ≤ i
theorem RRes.same (h : Rd w q v S R) (hb : Below w.heap.size w w') (x : Int) : RRes w q v R (x, S, pl R) (.returned (.int .i64 x)) w' :=
  ⟨v, R, rfl, h.below hb, rfl, .of_below hb, fun i hi => .inl hi⟩
theorem RRes.num {w1 : World} {S' : Ds} (h : Rd w1 q v S' R) (k : Keep (fun i => i = q) w w1) (x : Int) : RRes w q v R (x, S', pl R) (.returned (.int .i64 x)) w1 :=
  ⟨v, R, rfl, h, rfl, k.mono (fun i hi => .inl hi), fun i hi => .inl hi⟩
/-- What Find tells. -/
theorem find_cases (hr : RiseP (pl R)) (n : Nm) :
    (mayB n = false ∧ refI (pl R) n = 0 ∧ refE (pl R) n = 2) ∨ (mayB n = true ∧ findP (pl R) n = none ∧ isP (pl R) n = false ∧ refI (pl R) n = 0 ∧ refE (pl R) n = 6) ∨
    (mayB n = true ∧ ∃ k, ∃ hk : k < R.length, posP (pl R) n = k ∧ R[k].nm = n ∧ findP (pl R) n = some R[k].p ∧ isP (pl R) n = true ∧ refI (pl R) n = k ∧ refE (pl R) n = 0) := by
  unfold refI refE
  cases hm : mayB n with
  | false => exact .inl ⟨rfl, rfl, rfl⟩
  | true =>
    cases hi : isP (pl R) n with
    | false => exact .inr (.inl ⟨rfl, find_none_pos hr hi, rfl, rfl, rfl⟩)
    | true =>
      obtain ⟨hk, e1, e2⟩ := find_some_pos hr hi
      have hk' : posP (pl R) n < R.length := by rw [pl_len] at hk; exact hk
      rw [pl_get] at e1 e2
      exact .inr (.inr ⟨rfl, posP (pl R) n, hk', rfl, e1, e2, rfl, rfl, rfl⟩)
/-- The cells of a file's row. -/
theorem Rd.fileAt {g n c : Nat} (h : Rd w q (.slice (some ⟨g, 0, none⟩) n c) S R) {k : Nat} (hk : k < R.length) : ∃ A1 c1, R[k].v = .slice A1 R[k].bs.length c1 ∧ R[k].bs.length ≤ c1 ∧ w.cell? ⟨q, 0, none⟩ = some (.slice (some ⟨g, 0, none⟩) R.length c) ∧
    w.cell? ⟨g, k * 3, none⟩ = some (.string ⟨R[k].nm.toArray⟩) ∧ w.cell? ⟨g, k * 3 + 1, none⟩ = some (.slice A1 R[k].bs.length c1) ∧ w.cell? ⟨g, k * 3 + 2, none⟩ = some (.int .i64 (R[k].la : Int)) ∧ ∀ i, w.frozen? ⟨g, i, none⟩ = false := by
  obtain ⟨g', c', e2, _, _, hx, hz⟩ := h.row.form (by omega)
  injection e2 with a1 a2 a3
  injection a1 with a1
  injection a1 with a1
  subst a1; subst a2; subst a3
  have ho := (h.byt _ (List.getElem_mem hk)).sl
  obtain ⟨A1, c1, e1, hc1, _⟩ := ho
  obtain ⟨x1, x2, x3⟩ := hx k hk
  exact ⟨A1, c1, e1, hc1, h.c0, x1, by rw [x2, e1], x3, hz⟩
/-- One file has turned, in its row. -/
theorem Rd.set1 {g n c : Nat} (h : Rd w q (.slice (some ⟨g, 0, none⟩) n c) S R) {k : Nat} (hk : k < R.length) (f : Fr) (h1 : f.nm = R[k].nm) (h2 : f.la = R[k].la) (ho : Own w 0 5 f.v f.bs) :
    Rd (w.setCell ⟨g, k * 3 + 1, none⟩ f.v) q (.slice (some ⟨g, 0, none⟩) n c) S (R.set k f) := by
  have hk0 : Keep (fun i => i = g) w (w.setCell ⟨g, k * 3 + 1, none⟩ f.v) := Keep.setCell _ _ _ rfl
  refine ⟨h.blk.kept hk0 (fun e => h.rowq g rfl e.symm), h.row.set1 k hk f h1 h2, fun x hx => ?_⟩
  rcases List.mem_or_eq_of_mem_set hx with hx | rfl
  · exact (h.byt x hx).kept hk0 (fun i hi e => (h.bytq hx i hi).2 (by subst e; rfl))
  · refine ho.kept hk0 (fun i hi e => ?_)
    subst e
    obtain ⟨cs, hc⟩ := ho.isRow hi
    obtain ⟨cs2, hc2⟩ := h.row.isRow (i := i) rfl
    exact absurd rfl (hc.ne_ hc2 (by decide))
theorem Rd.set2 {g n c : Nat} (h : Rd w q (.slice (some ⟨g, 0, none⟩) n c) S R) {k : Nat} (hk : k < R.length) (f : Fr) (h1 : f.nm = R[k].nm) (h2 : f.v = R[k].v) (h3 : f.bs = R[k].bs) :
    Rd (w.setCell ⟨g, k * 3 + 2, none⟩ (.int .i64 (f.la : Int))) q (.slice (some ⟨g, 0, none⟩) n c) S (R.set k f) := by
  have hk0 : Keep (fun i => i = g) w (w.setCell ⟨g, k * 3 + 2, none⟩ (.int .i64 (f.la : Int))) := Keep.setCell _ _ _ rfl
  have key : ∀ x ∈ R, Own (w.setCell ⟨g, k * 3 + 2, none⟩ (.int .i64 (f.la : Int))) 0 5 x.v x.bs := fun x hx => (h.byt x hx).kept hk0 (fun i hi e => (h.bytq hx i hi).2 (by subst e; rfl))
  refine ⟨h.blk.kept hk0 (fun e => h.rowq g rfl e.symm), h.row.set2 k hk f h1 h2, fun x hx => ?_⟩
  rcases List.mem_or_eq_of_mem_set hx with hx | rfl
  · exact key x hx
  · rw [h2, h3]; exact key _ (List.getElem_mem hk)
/-- The footprint of a disk of which one file has turned. -/
theorem RFoot.set {k : Nat} (hk : k < R.length) {f : Fr} {B : Nat} (hv : ∀ i, f.v.ownBlock = some i → R[k].v.ownBlock = some i ∨ B ≤ i) : ∀ i, RFoot q v (R.set k f) i → RFoot q v R i ∨ B ≤ i := by
  rintro i (h | h | ⟨x, hx, hi⟩)
  · exact .inl (.inl h)
  · exact .inl (.inr (.inl h))
  · rcases List.mem_or_eq_of_mem_set hx with hx | rfl
    · exact .inl (.inr (.inr ⟨x, hx, hi⟩))
    · rcases hv i hi with h | h
      · exact .inl (.inr (.inr ⟨_, List.getElem_mem hk, h⟩))
      · exact .inr h
theorem RFoot.sub {v' : Value} {R' : List Fr} {B : Nat} (hv : ∀ i, v'.ownBlock = some i → B ≤ i) (hR : ∀ f ∈ R', f ∈ R) : ∀ i, RFoot q v' R' i → RFoot q v R i ∨ B ≤ i := by
  rintro i (h | h | ⟨x, hx, hi⟩)
  · exact .inl (.inl h)
  · exact .inr (hv i h)
  · exact .inl (.inr (.inr ⟨x, hR x hx, hi⟩))
set_option maxHeartbeats 4000000 in
theorem sync_ref (h : Rd w q v S R) (hf : Fit S (pl R)) (s : ByteArray) {r : Int × Ds × List Fp} (hr : syncS S (pl R) s.data.toList = r) :
    Calls Try.prog 42 #[.pointer (some ⟨q, 0, none⟩), .string s] w (RRes w q v R r) := by
  have hfo : Try.prog.follows .mixedOrders = true := by kernel_rfl
  have hl : R.length ≤ 64 := by have := hf.few; rw [pl_len] at this; exact this
  have hfi := find_ref h hl s
  rcases find_cases hf.rise s.data.toList with ⟨hm, e2, e1⟩ | ⟨hm, hn, hi, e2, e1⟩ | ⟨hm, k, hk, hp, hnm, hn, hi, e2, e1⟩
  · rw [e1, e2] at hfi
    have HFI := Lib.hid hfi
    have HR := Lib.hid (show r = (2, S, pl R) by rw [← hr]; unfold syncS; rw [hm]; rfl)
    have H := Lib.hid h
    clear h hf hfi hm hr e1 e2
    go_enter Try.func42, Try.ntmps42
    go_wp2_with fail
    refine HFI.out.mono ?_
    rintro e w1 ⟨rfl, hb1⟩
    go_wp2
    go_ret
    rw [HR.out]; exact RRes.same H.out hb1 _
  · rw [e1, e2] at hfi
    have HFI := Lib.hid hfi
    have HR := Lib.hid (show r = (6, S, pl R) by rw [← hr]; unfold syncS; rw [hm, hn]; rfl)
    have H := Lib.hid h
    clear h hf hfi hm hr e1 e2 hn hi
    go_enter Try.func42, Try.ntmps42
    go_wp2_with fail
    refine HFI.out.mono ?_
    rintro e w1 ⟨rfl, hb1⟩
    go_wp2
    go_ret
    rw [HR.out]; exact RRes.same H.out hb1 _
  · rw [e1, e2] at hfi
    have HFI := Lib.hid hfi
    have HR := Lib.hid (show r = ((if wOk S = true then 0 else 8), wS S, if wOk S = true then setP (pl R) (R[k].nm, R[k].bs, R[k].bs.length) else if wLast S = true then pl R else pl R) by rw [← hr, ← writeS_w]; unfold syncS; rw [hm, hn]; rfl)
    obtain ⟨g, c, rfl, hc1, hc2, _, _⟩ := h.row.form (by omega)
    have hkI : (k : Int) < (R.length : Int) := by omega
    have hk0 : (0 : Int) ≤ (k : Int) := by omega
    have h64 : (k : Int) < 64 := by omega
    have H := Lib.hid h
    have HF := Lib.hid hf
    have HI := Lib.hid (And.intro hi (And.intro hp (And.intro hnm hn)))
    clear h hf hfi hm hr e1 e2 hi hp hnm hn
    go_enter Try.func42, Try.ntmps42
    go_wp2_with fail
    refine HFI.out.mono ?_
    rintro e w1 ⟨rfl, hb1⟩
    have HB1 := Lib.hid hb1
    clear HFI hb1
    have hwr := write_ref (H.out.below HB1.out) HF.out
    cases hwo : wOk S with
    | true =>
      rw [hwo] at hwr HR
      rw [if_pos rfl, if_pos rfl] at HR
      have HWR := Lib.hid hwr
      clear hwr hwo
      go_wp2_with fail
      refine HWR.out.mono ?_
      rintro e w2 ⟨rfl, h2, k2⟩
      have H2 := Lib.hid h2
      have HK2 := Lib.hid k2
      have HB2 := Lib.hid (show Below w2.heap.size w2 w2.drew from (Below.refl _ _).drew)
      obtain ⟨A1, c1, e1, hb1, x0, x1, x2, x3, xf⟩ := (h2.below HB2.out).fileAt hk
      have HC := Lib.hid (show ∀ X, Below w2.drew.heap.size w2.drew X → X.cell? ⟨q, 0, none⟩ = some (.slice (some ⟨g, 0, none⟩) R.length c) ∧ X.cell? ⟨g, k * 3 + 1, none⟩ = some (.slice A1 R[k].bs.length c1) from fun X hX => ⟨(hX.cell (World.block_lt_of_cell? _ _ x0)).trans x0, (hX.cell (World.block_lt_of_cell? _ _ x2)).trans x2⟩)
      clear h2 k2 HWR x0 x1 x2
      go_wp2_with fail
      refine tail_begin 16 (S := fun X => Below w2.drew.heap.size w2.drew X) hfo (by kernel_rfl) (Below.refl _ _) (fun hS0 => ?_)
      refine' tail_take (i := 0) (oi := ⟨some 24, _, _, _, _, _⟩) (v := _) rfl (by kernel_rfl) (by kernel_rfl) (by decide) (fun _ _ _ h => h) (Or.inl ⟨by rfl, ?y0⟩) hS0 ?r0
      case y0 => (intro w' hSw; obtain ⟨s0, s1⟩ := HC.out w' hSw; go_simp; try rfl)
      try simp only [Act.put, List.setIfInBounds_toArray, List.set_cons_zero, List.set_cons_succ]
      refine' tail_take (i := 1) (oi := ⟨some 25, _, _, _, _, _⟩) (v := _) rfl (by kernel_rfl) (by kernel_rfl) (by decide) (fun _ _ _ h => h) (Or.inl ⟨by rfl, ?y1⟩) hS0 ?r1
      case y1 => (intro w' hSw; obtain ⟨s0, s1⟩ := HC.out w' hSw; go_simp; try rfl)
      try simp only [Act.put, List.setIfInBounds_toArray, List.set_cons_zero, List.set_cons_succ]
      refine' tail_take (i := 2) (oi := ⟨some 26, _, _, _, _, _⟩) (v := _) rfl (by kernel_rfl) (by kernel_rfl) (by decide) (fun _ _ _ h => h) (Or.inl ⟨by rfl, ?y2⟩) hS0 ?r2
      case y2 => (intro w' hSw; obtain ⟨s0, s1⟩ := HC.out w' hSw; go_simp; try rfl)
      try simp only [Act.put, List.setIfInBounds_toArray, List.set_cons_zero, List.set_cons_succ]
      refine' tail_take (i := 3) (oi := ⟨some 27, _, _, _, _, _⟩) (v := _) rfl (by kernel_rfl) (by kernel_rfl) (by decide) (fun _ _ _ h => h) (Or.inl ⟨by rfl, ?y3⟩) hS0 ?r3
      case y3 => (intro w' hSw; obtain ⟨s0, s1⟩ := HC.out w' hSw; go_simp; try rfl)
      try simp only [Act.put, List.setIfInBounds_toArray, List.set_cons_zero, List.set_cons_succ]
      refine' tail_take (i := 4) (oi := ⟨some 28, _, _, _, _, _⟩) (v := _) rfl (by kernel_rfl) (by kernel_rfl) (by decide) (fun _ _ _ h => h) (Or.inl ⟨by rfl, ?y4⟩) hS0 ?r4
      case y4 => (intro w' hSw; obtain ⟨s0, s1⟩ := HC.out w' hSw; go_simp; try rfl)
      try simp only [Act.put, List.setIfInBounds_toArray, List.set_cons_zero, List.set_cons_succ]
      refine' tail_take (i := 5) (oi := ⟨some 29, _, _, _, _, _⟩) (v := _) rfl (by kernel_rfl) (by kernel_rfl) (by decide) (fun _ _ _ h => h) (Or.inl ⟨by rfl, ?y5⟩) hS0 ?r5
      case y5 => (intro w' hSw; obtain ⟨s0, s1⟩ := HC.out w' hSw; go_simp; try rfl)
      try simp only [Act.put, List.setIfInBounds_toArray, List.set_cons_zero, List.set_cons_succ]
      refine' tail_take (i := 6) (oi := ⟨some 30, _, _, _, _, _⟩) (v := _) rfl (by kernel_rfl) (by kernel_rfl) (by decide) (fun _ _ _ h => h) (Or.inl ⟨by rfl, ?y6⟩) hS0 ?r6
      case y6 => (intro w' hSw; obtain ⟨s0, s1⟩ := HC.out w' hSw; go_simp; try rfl)
      try simp only [Act.put, List.setIfInBounds_toArray, List.set_cons_zero, List.set_cons_succ]
      refine' tail_take (i := 7) (oi := ⟨some 31, _, _, _, _, _⟩) (v := _) rfl (by kernel_rfl) (by kernel_rfl) (by decide) (fun _ _ _ h => h) (Or.inl ⟨by rfl, ?y7⟩) hS0 ?r7
      case y7 => (intro w' hSw; obtain ⟨s0, s1⟩ := HC.out w' hSw; go_simp; try rfl)
      try simp only [Act.put, List.setIfInBounds_toArray, List.set_cons_zero, List.set_cons_succ]
      refine' tail_take (i := 8) (oi := ⟨some 32, _, _, _, _, _⟩) (v := _) rfl (by kernel_rfl) (by kernel_rfl) (by decide) (fun _ _ _ h => h) (Or.inl ⟨by rfl, ?y8⟩) hS0 ?r8
      case y8 => (intro w' hSw; obtain ⟨s0, s1⟩ := HC.out w' hSw; go_simp; try rfl)
      try simp only [Act.put, List.setIfInBounds_toArray, List.set_cons_zero, List.set_cons_succ]
      refine' tail_take (i := 9) (oi := ⟨some 33, _, _, _, _, _⟩) (v := _) rfl (by kernel_rfl) (by kernel_rfl) (by decide) (fun _ _ _ h => h) (Or.inl ⟨by rfl, ?y9⟩) hS0 ?r9
      case y9 => (intro w' hSw; obtain ⟨s0, s1⟩ := HC.out w' hSw; go_simp; try rfl)
      try simp only [Act.put, List.setIfInBounds_toArray, List.set_cons_zero, List.set_cons_succ]
      refine' tail_take (i := 10) (oi := ⟨some 34, _, _, _, _, _⟩) (v := _) rfl (by kernel_rfl) (by kernel_rfl) (by decide) (fun _ _ _ h => h) (Or.inl ⟨by rfl, ?y10⟩) hS0 ?r10
      case y10 => (intro w' hSw; obtain ⟨s0, s1⟩ := HC.out w' hSw; go_simp; try rfl)
      try simp only [Act.put, List.setIfInBounds_toArray, List.set_cons_zero, List.set_cons_succ]
      refine' tail_take (i := 11) (oi := ⟨some 35, _, _, _, _, _⟩) (v := _) rfl (by kernel_rfl) (by kernel_rfl) (by decide) (fun _ _ _ h => h) (Or.inl ⟨by rfl, ?y11⟩) hS0 ?r11
      case y11 => (intro w' hSw; obtain ⟨s0, s1⟩ := HC.out w' hSw; go_simp; try rfl)
      try simp only [Act.put, List.setIfInBounds_toArray, List.set_cons_zero, List.set_cons_succ]
      refine' tail_take (i := 12) (oi := ⟨some 36, _, _, _, _, _⟩) (v := _) rfl (by kernel_rfl) (by kernel_rfl) (by decide) (fun _ _ _ h => h) (Or.inl ⟨by rfl, ?y12⟩) hS0 ?r12
      case y12 => (intro w' hSw; obtain ⟨s0, s1⟩ := HC.out w' hSw; go_simp; try rfl)
      try simp only [Act.put, List.setIfInBounds_toArray, List.set_cons_zero, List.set_cons_succ]
      refine' tail_take (i := 13) (oi := ⟨some 37, _, _, _, _, _⟩) (v := _) rfl (by kernel_rfl) (by kernel_rfl) (by decide) (fun _ _ _ h => h) (Or.inl ⟨by rfl, ?y13⟩) hS0 ?r13
      case y13 => (intro w' hSw; obtain ⟨s0, s1⟩ := HC.out w' hSw; go_simp; try rfl)
      try simp only [Act.put, List.setIfInBounds_toArray, List.set_cons_zero, List.set_cons_succ]
      refine' tail_take (i := 14) (oi := ⟨some 38, _, _, _, _, _⟩) (v := _) rfl (by kernel_rfl) (by kernel_rfl) (by decide) (fun _ _ _ h => h) (Or.inl ⟨by rfl, ?y14⟩) hS0 ?r14
      case y14 => (intro w' hSw; obtain ⟨s0, s1⟩ := HC.out w' hSw; go_simp; try rfl)
      try simp only [Act.put, List.setIfInBounds_toArray, List.set_cons_zero, List.set_cons_succ]
      refine' tail_take (i := 15) (oi := ⟨some 39, _, _, _, _, _⟩) (v := _) rfl (by kernel_rfl) (by kernel_rfl) (by decide) (fun _ _ _ h => h) (Or.inl ⟨by rfl, ?y15⟩) hS0 ?r15
      case y15 => (intro w' hSw; obtain ⟨s0, s1⟩ := HC.out w' hSw; go_simp; try rfl)
      try simp only [Act.put, List.setIfInBounds_toArray, List.set_cons_zero, List.set_cons_succ]
      have xf2 := xf (k * 3 + 2)
      have HF2 := Lib.hid (Rd.set2 (H2.out.below HB2.out) hk ⟨R[k].nm, R[k].bs, R[k].bs.length, R[k].v⟩ rfl rfl rfl)
      have HKW := Lib.hid ((((Keep.of_below (S := fun i => i = q ∨ g = i) HB1.out).trans (HK2.out.mono (fun i hi => .inl hi) : Keep (fun i => i = q ∨ g = i) _ _) (fun _ h => h) (fun _ _ h => h)).trans (Keep.of_below (S := fun i => i = q ∨ g = i) HB2.out) (fun _ h => h) (fun _ _ h => h)).trans (Keep.setCell (S := fun i => i = q ∨ g = i) w2.drew ⟨g, k * 3 + 2, none⟩ (.int .i64 (R[k].bs.length : Int)) (.inr rfl)) (fun _ h => h) (fun _ _ h => h))
      refine tail_last (by kernel_rfl) rfl (by kernel_rfl) (fun K hK => ?_)
      go_simp
      refine hK.out _ _ ?_
      clear hK K
      try simp only [Act.put, List.setIfInBounds_toArray, List.set_cons_zero, List.set_cons_succ]
      go_wp2_with fail
      refine (done_ref _ _).mono ?_
      rintro e wd ⟨rfl, rfl⟩
      go_wp2
      go_ret
      rw [HR.out]
      refine ⟨_, _, rfl, HF2.out, ?_, HKW.out.mono (fun i hi => hi.imp id (fun e => by subst e; rfl)), RFoot.set hk (fun i hi => .inl hi)⟩
      rw [pl_set, set_pos HF.out.rise _ (by show isP _ R[k].nm = true; rw [HI.out.2.2.1]; exact HI.out.1)]
      show _ = (pl R).set (posP (pl R) R[k].nm) _
      rw [HI.out.2.2.1, HI.out.2.1]
      rfl
    | false =>
      rw [hwo] at hwr HR
      have HWR := Lib.hid hwr
      clear hwr hwo
      go_wp2_with fail
      refine HWR.out.mono ?_
      rintro e w2 ⟨rfl, h2, k2⟩
      have H2 := Lib.hid h2
      have HK2 := Lib.hid ((Keep.of_below (S := fun i => i = q) HB1.out).trans k2 (fun _ h => h) (fun _ _ h => h))
      clear h2 k2
      go_wp2_with fail
      refine (done_ref _ _).mono ?_
      rintro e wd ⟨rfl, rfl⟩
      go_wp2
      go_ret
      rw [HR.out]
      simp only [Bool.false_eq_true, if_false, ite_self]
      exact RRes.num H2.out HK2.out 8
end
end Go.Proofs.Ytdbkhigocjmfoaa

/-
  CursorJoins' law.
-/
import Derived.Test.YthlopecllhdmhaaDoorCuK
namespace Go.Proofs.YthlopecllhdmhaaDoor
open Go.RowKit
open CtxM
set_option linter.unusedVariables false
set_option linter.unusedSimpArgs false
set_option maxRecDepth 20000

theorem covB_max {A B C : List Nat} (hA : A.length = 16) (hB : B.length = 16) (hC : C.length = 16) : covB C (maxV A B) = (covB C A && covB C B) := by
  rw [Bool.eq_iff_iff, Bool.and_eq_true, covB_iff hC, covB_iff hC, covB_iff hC]
  constructor
  · intro h
    constructor <;> (intro i hi; have := h i hi; rw [maxV_getD _ _ i hi] at this; omega)
  · rintro ⟨h1, h2⟩ i hi
    have := h1 i hi
    have := h2 i hi
    rw [maxV_getD _ _ i hi]; omega
theorem covB_up {A B : List Nat} (hA : A.length = 16) (hB : B.length = 16) : covB (maxV A B) A = true ∧ covB (maxV A B) B = true := by
  rw [covB_iff (maxV_length _ _), covB_iff (maxV_length _ _)]
  constructor <;> (intro i hi; rw [maxV_getD _ _ i hi]; omega)
theorem covB_both {A B : List Nat} (hA : A.length = 16) (hB : B.length = 16) (h1 : covB A B = true) (h2 : covB B A = true) : A = B := by
  rw [covB_iff hA] at h1
  rw [covB_iff hB] at h2
  exact maxV_ext hA hB fun i hi => by have := h1 i hi; have := h2 i hi; omega
theorem covB_trans {A B C : List Nat} (hA : A.length = 16) (hB : B.length = 16) (h1 : covB A B = true) (h2 : covB B C = true) : covB A C = true := by
  rw [covB_iff hA] at h1 ⊢
  rw [covB_iff hB] at h2
  exact fun i hi => by have := h1 i hi; have := h2 i hi; omega
/-- Where the law stands. -/
structure Lj (w W : World) (A B C J : List Nat) (gJ : Nat) : Prop where
  va : Blk W w.heap.size 25 (uqs A)
  vb : Blk W (w.heap.size + 1) 25 (uqs B)
  vc : Blk W (w.heap.size + 2) 25 (uqs C)
  vj : Blk W gJ 25 (uqs J)
  gg : Gl W
  bb : Below w.heap.size w W
theorem Lj.below {w W W' : World} {A B C J : List Nat} {gJ : Nat} (h : Lj w W A B C J gJ) (hb : Below W.heap.size W W') : Lj w W' A B C J gJ :=
  ⟨h.va.below hb h.va.lt, h.vb.below hb h.vb.lt, h.vc.below hb h.vc.lt, h.vj.below hb h.vj.lt, h.gg.below hb, h.bb.trans (hb.mono h.bb.size)⟩
theorem three_boxes (w : World) (t : TypeId) (A B C : Array Value) : Blk (((w.alloc (.cells A t)).alloc (.cells B t)).alloc (.cells C t)) w.heap.size t A ∧ Blk (((w.alloc (.cells A t)).alloc (.cells B t)).alloc (.cells C t)) (w.heap.size + 1) t B ∧ Blk (((w.alloc (.cells A t)).alloc (.cells B t)).alloc (.cells C t)) (w.heap.size + 2) t C ∧ Below w.heap.size w (((w.alloc (.cells A t)).alloc (.cells B t)).alloc (.cells C t)) := by
  obtain ⟨a, b, g⟩ := two_boxes w t t A B
  refine ⟨a.alloc _, b.alloc _, ?_, (g.alloc _).below⟩
  have := Blk.new ((w.alloc (.cells A t)).alloc (.cells B t)) t C
  rwa [show ((w.alloc (.cells A t)).alloc (.cells B t)).heap.size = w.heap.size + 2 by simp] at this

set_option maxHeartbeats 16000000 in
theorem cjoins_any (A B C : List Nat) (w : World) (hA : A.length = 16) (hB : B.length = 16) (hC : C.length = 16) (hg : Gl w) :
    Calls Tryd.prog 4 #[.agg (uqs A), .agg (uqs B), .agg (uqs C)] w fun e w' => e = .returned (.bool true) ∧ Below w.heap.size w w' := by
  have hfo : Tryd.prog.follows .mixedOrders = true := by kernel_rfl
  have hm := maxV_length A B
  have j1 := fun W => cjoin_any A B W hA hB
  have j2 := fun W => cjoin_any B A W hB hA
  rw [← maxV_comm A B] at j2
  have u1 := fun W => ccovers_any (maxV A B) A W hm hA
  have u2 := fun W => ccovers_any (maxV A B) B W hm hB
  rw [(covB_up hA hB).1] at u1
  rw [(covB_up hA hB).2] at u2
  have p1 := fun W => ccovers_any C A W hC hA
  have p2 := fun W => ccovers_any C B W hC hB
  have p3 := fun W => ccovers_any C (maxV A B) W hC hm
  rw [covB_max hA hB hC] at p3
  have ve := fun W => vec_eq (maxV A B) (maxV A B) hm hm W
  rw [decide_eq_true rfl] at ve
  have a1 := fun W => ccovers_any A A W hA hA
  rw [covB_self hA] at a1
  have a2 := fun W => ccovers_any A B W hA hB
  have a3 := fun W => ccovers_any B A W hB hA
  have a4 := fun W => ccovers_any B C W hB hC
  have a5 := fun W => ccovers_any A C W hA hC
  have ab := fun W => vec_eq A B hA hB W
  have h23 := fun (h : covB A B = true) (k : covB B A = true) => covB_both hA hB h k
  have h245 := fun (h : covB A B = true) (k : covB B C = true) => covB_trans hA hB h k
  obtain ⟨x1, hx1⟩ : ∃ x, x = covB C A := ⟨_, rfl⟩
  obtain ⟨x2, hx2⟩ : ∃ x, x = covB C B := ⟨_, rfl⟩
  rw [← hx1] at p1 p3
  rw [← hx2] at p2 p3
  obtain ⟨y1, hy1⟩ : ∃ x, x = covB A B := ⟨_, rfl⟩
  obtain ⟨y2, hy2⟩ : ∃ x, x = covB B A := ⟨_, rfl⟩
  obtain ⟨y3, hy3⟩ : ∃ x, x = covB B C := ⟨_, rfl⟩
  obtain ⟨y4, hy4⟩ : ∃ x, x = covB A C := ⟨_, rfl⟩
  obtain ⟨y5, hy5⟩ : ∃ x, x = decide (A = B) := ⟨_, rfl⟩
  rw [← hy1] at a2
  rw [← hy2] at a3
  rw [← hy3] at a4
  rw [← hy4] at a5
  rw [← hy5] at ab
  rw [← hy1, ← hy2] at h23
  rw [← hy1, ← hy3, ← hy4] at h245
  have H23 := Lib.hid (show y1 = true → y2 = true → y5 = true from fun h k => by rw [hy5]; exact decide_eq_true (h23 h k))
  have H245 := Lib.hid h245
  clear hx1 hx2 hy1 hy2 hy3 hy4 hy5 h23 h245
  generalize maxV A B = J at *
  obtain ⟨b0, b1, b2, hb⟩ := three_boxes w 25 (uqs A) (uqs B) (uqs C)
  have hg1 := hg.below hb
  go_enter Tryd.func4, Tryd.ntmps4
  go_upto_region 1 with fail
  change Code.wp _ _ _ _ (((w.alloc (.cells (uqs A) 25)).alloc (.cells (uqs B) 25)).alloc (.cells (uqs C) 25))
  generalize ((w.alloc (.cells (uqs A) 25)).alloc (.cells (uqs B) 25)).alloc (.cells (uqs C) 25) = w1 at b0 b1 b2 hb hg1 ⊢
  go_upto_region 2 with (first | (refine wpList_load_mid_g (by rfl) 25 _ rfl (w.heap.size) 0 rfl (uqs A) _ (uqs_range b0) Tryd.underlying25 rfl (uqs_info hA) ?_; try simp only [Act.put, List.setIfInBounds_toArray, List.set_cons_zero, List.set_cons_succ]) | (refine wpList_load_mid_g (by rfl) 25 _ rfl (w.heap.size + 1) 0 rfl (uqs B) _ (uqs_range b1) Tryd.underlying25 rfl (uqs_info hB) ?_; try simp only [Act.put, List.setIfInBounds_toArray, List.set_cons_zero, List.set_cons_succ]) | (go_at_call 15; refine (j1 _).mono ?_; rintro e w3 ⟨rfl, hg3⟩) | (refine wpList_store_mid rfl 25 _ _ rfl w3.heap.size 0 (uqs J) rfl rfl (boxThere _ _ hm) (uqs_info hm) (uqs_one _) ?_; try simp only [Act.put, List.setIfInBounds_toArray, List.set_cons_zero, List.set_cons_succ]))
  change Code.wp _ _ _ _ ((w3.alloc (.cells (uqs (z16 0 0)) 25)).setCells w3.heap.size 0 (uqs J).toList)
  obtain ⟨q, bq⟩ := boxNew w3 (V := J) hm
  have hz := hg3.below.trans (bq.mono hg3.below.size)
  have L : Lj w ((w3.alloc (.cells (uqs (z16 0 0)) 25)).setCells w3.heap.size 0 (uqs J).toList) A B C J w3.heap.size := ⟨b0.below hz b0.lt, b1.below hz b1.lt, b2.below hz b2.lt, q, hg1.below hz, hb.trans (hz.mono hb.size)⟩
  generalize (w3.alloc (.cells (uqs (z16 0 0)) 25)).setCells w3.heap.size 0 (uqs J).toList = W4 at L ⊢
  generalize w3.heap.size = gJ at L ⊢
  clear b0 b1 b2 hb hg1 hg3 q bq hz j1
  go_cut [43] (fun x wc => x = .bool false ∧ Below W4.heap.size W4 wc)
  case first =>
    cases x1
    · rw [Bool.false_and] at p3
      refine wp_region_quiet_grown (by assumption) (by kernel_rfl) ?_
      repeat (first | go_big_quiet_skip | (refine q_load (by rfl) 25 _ rfl (w.heap.size) 0 rfl (uqs A) _ L.va.lt (uqs_range L.va) Tryd.underlying25 rfl (uqs_info hA) ?_; try simp only [Act.put, List.setIfInBounds_toArray, List.set_cons_zero, List.set_cons_succ]) | (refine q_load (by rfl) 25 _ rfl (w.heap.size + 1) 0 rfl (uqs B) _ L.vb.lt (uqs_range L.vb) Tryd.underlying25 rfl (uqs_info hB) ?_; try simp only [Act.put, List.setIfInBounds_toArray, List.set_cons_zero, List.set_cons_succ]) | (refine q_load (by rfl) 25 _ rfl (w.heap.size + 2) 0 rfl (uqs C) _ L.vc.lt (uqs_range L.vc) Tryd.underlying25 rfl (uqs_info hC) ?_; try simp only [Act.put, List.setIfInBounds_toArray, List.set_cons_zero, List.set_cons_succ]) | (refine q_load (by rfl) 25 _ rfl (gJ) 0 rfl (uqs J) _ L.vj.lt (uqs_range L.vj) Tryd.underlying25 rfl (uqs_info hm) ?_; try simp only [Act.put, List.setIfInBounds_toArray, List.set_cons_zero, List.set_cons_succ]) | go_big_quiet_step (first | (go_at_call 17; with_reducible (show Calls _ _ #[Value.agg (uqs J), Value.agg (uqs A)] _ _); refine Calls.grown_of (u1 _)) | (go_at_call 17; with_reducible (show Calls _ _ #[Value.agg (uqs J), Value.agg (uqs B)] _ _); refine Calls.grown_of (u2 _)) | (go_at_call 15; with_reducible (show Calls _ _ #[Value.agg (uqs B), Value.agg (uqs A)] _ _); refine Calls.grown_of (j2 _)) | (go_at_call 17; with_reducible (show Calls _ _ #[Value.agg (uqs C), Value.agg (uqs A)] _ _); refine Calls.grown_of (p1 _)) | (go_at_call 17; with_reducible (show Calls _ _ #[Value.agg (uqs C), Value.agg (uqs B)] _ _); refine Calls.grown_of (p2 _)) | (go_at_call 17; with_reducible (show Calls _ _ #[Value.agg (uqs C), Value.agg (uqs J)] _ _); refine Calls.grown_of (p3 _))))
      refine wpQuiet_nil ?_
      rintro _ ⟨⟨nq, osq⟩, rfl⟩
      go_wp2_with fail
      go_meet
      exact ⟨rfl, Grw.below ⟨nq, osq, rfl⟩⟩
    · rw [Bool.true_and] at p3
      cases x2
      · refine wp_region_quiet_grown (by assumption) (by kernel_rfl) ?_
        repeat (first | go_big_quiet_skip | (refine q_load (by rfl) 25 _ rfl (w.heap.size) 0 rfl (uqs A) _ L.va.lt (uqs_range L.va) Tryd.underlying25 rfl (uqs_info hA) ?_; try simp only [Act.put, List.setIfInBounds_toArray, List.set_cons_zero, List.set_cons_succ]) | (refine q_load (by rfl) 25 _ rfl (w.heap.size + 1) 0 rfl (uqs B) _ L.vb.lt (uqs_range L.vb) Tryd.underlying25 rfl (uqs_info hB) ?_; try simp only [Act.put, List.setIfInBounds_toArray, List.set_cons_zero, List.set_cons_succ]) | (refine q_load (by rfl) 25 _ rfl (w.heap.size + 2) 0 rfl (uqs C) _ L.vc.lt (uqs_range L.vc) Tryd.underlying25 rfl (uqs_info hC) ?_; try simp only [Act.put, List.setIfInBounds_toArray, List.set_cons_zero, List.set_cons_succ]) | (refine q_load (by rfl) 25 _ rfl (gJ) 0 rfl (uqs J) _ L.vj.lt (uqs_range L.vj) Tryd.underlying25 rfl (uqs_info hm) ?_; try simp only [Act.put, List.setIfInBounds_toArray, List.set_cons_zero, List.set_cons_succ]) | go_big_quiet_step (first | (go_at_call 17; with_reducible (show Calls _ _ #[Value.agg (uqs J), Value.agg (uqs A)] _ _); refine Calls.grown_of (u1 _)) | (go_at_call 17; with_reducible (show Calls _ _ #[Value.agg (uqs J), Value.agg (uqs B)] _ _); refine Calls.grown_of (u2 _)) | (go_at_call 15; with_reducible (show Calls _ _ #[Value.agg (uqs B), Value.agg (uqs A)] _ _); refine Calls.grown_of (j2 _)) | (go_at_call 17; with_reducible (show Calls _ _ #[Value.agg (uqs C), Value.agg (uqs A)] _ _); refine Calls.grown_of (p1 _)) | (go_at_call 17; with_reducible (show Calls _ _ #[Value.agg (uqs C), Value.agg (uqs B)] _ _); refine Calls.grown_of (p2 _)) | (go_at_call 17; with_reducible (show Calls _ _ #[Value.agg (uqs C), Value.agg (uqs J)] _ _); refine Calls.grown_of (p3 _))))
        refine wpQuiet_nil ?_
        rintro _ ⟨⟨nq, osq⟩, rfl⟩
        go_wp2_with fail
        go_meet
        exact ⟨rfl, Grw.below ⟨nq, osq, rfl⟩⟩
      · refine wp_region_quiet_grown (by assumption) (by kernel_rfl) ?_
        repeat (first | go_big_quiet_skip | (refine q_load (by rfl) 25 _ rfl (w.heap.size) 0 rfl (uqs A) _ L.va.lt (uqs_range L.va) Tryd.underlying25 rfl (uqs_info hA) ?_; try simp only [Act.put, List.setIfInBounds_toArray, List.set_cons_zero, List.set_cons_succ]) | (refine q_load (by rfl) 25 _ rfl (w.heap.size + 1) 0 rfl (uqs B) _ L.vb.lt (uqs_range L.vb) Tryd.underlying25 rfl (uqs_info hB) ?_; try simp only [Act.put, List.setIfInBounds_toArray, List.set_cons_zero, List.set_cons_succ]) | (refine q_load (by rfl) 25 _ rfl (w.heap.size + 2) 0 rfl (uqs C) _ L.vc.lt (uqs_range L.vc) Tryd.underlying25 rfl (uqs_info hC) ?_; try simp only [Act.put, List.setIfInBounds_toArray, List.set_cons_zero, List.set_cons_succ]) | (refine q_load (by rfl) 25 _ rfl (gJ) 0 rfl (uqs J) _ L.vj.lt (uqs_range L.vj) Tryd.underlying25 rfl (uqs_info hm) ?_; try simp only [Act.put, List.setIfInBounds_toArray, List.set_cons_zero, List.set_cons_succ]) | go_big_quiet_step (first | (go_at_call 17; with_reducible (show Calls _ _ #[Value.agg (uqs J), Value.agg (uqs A)] _ _); refine Calls.grown_of (u1 _)) | (go_at_call 17; with_reducible (show Calls _ _ #[Value.agg (uqs J), Value.agg (uqs B)] _ _); refine Calls.grown_of (u2 _)) | (go_at_call 15; with_reducible (show Calls _ _ #[Value.agg (uqs B), Value.agg (uqs A)] _ _); refine Calls.grown_of (j2 _)) | (go_at_call 17; with_reducible (show Calls _ _ #[Value.agg (uqs C), Value.agg (uqs A)] _ _); refine Calls.grown_of (p1 _)) | (go_at_call 17; with_reducible (show Calls _ _ #[Value.agg (uqs C), Value.agg (uqs B)] _ _); refine Calls.grown_of (p2 _)) | (go_at_call 17; with_reducible (show Calls _ _ #[Value.agg (uqs C), Value.agg (uqs J)] _ _); refine Calls.grown_of (p3 _))))
        refine wpQuiet_nil ?_
        rintro _ ⟨⟨nq, osq⟩, rfl⟩
        go_wp2_with fail
        go_meet
        exact ⟨rfl, Grw.below ⟨nq, osq, rfl⟩⟩
  case rest =>
    obtain ⟨rfl, hbq⟩ := hcut
    replace L := L.below hbq
    clear u1 u2 p1 p2 p3 j2 ve hbq
    cases y1
    · go_wp2_with (first | (refine wpList_load_mid_g (by rfl) 25 _ rfl (w.heap.size) 0 rfl (uqs A) _ (uqs_range L.va) Tryd.underlying25 rfl (uqs_info hA) ?_; try simp only [Act.put, List.setIfInBounds_toArray, List.set_cons_zero, List.set_cons_succ]) | (refine wpList_load_mid_g (by rfl) 25 _ rfl (w.heap.size + 1) 0 rfl (uqs B) _ (uqs_range L.vb) Tryd.underlying25 rfl (uqs_info hB) ?_; try simp only [Act.put, List.setIfInBounds_toArray, List.set_cons_zero, List.set_cons_succ]) | (refine wpList_load_mid_g (by rfl) 25 _ rfl (w.heap.size + 2) 0 rfl (uqs C) _ (uqs_range L.vc) Tryd.underlying25 rfl (uqs_info hC) ?_; try simp only [Act.put, List.setIfInBounds_toArray, List.set_cons_zero, List.set_cons_succ]) | (refine wpList_load_mid_g (by rfl) 25 _ rfl (gJ) 0 rfl (uqs J) _ (uqs_range L.vj) Tryd.underlying25 rfl (uqs_info hm) ?_; try simp only [Act.put, List.setIfInBounds_toArray, List.set_cons_zero, List.set_cons_succ]) | (go_at_call 17; with_reducible (show Calls _ _ #[Value.agg (uqs A), Value.agg (uqs A)] _ _); refine (a1 _).mono ?_; rintro e wn ⟨rfl, hgn⟩; replace L := L.below hgn.below; clear hgn) | (go_at_call 17; with_reducible (show Calls _ _ #[Value.agg (uqs A), Value.agg (uqs B)] _ _); refine (a2 _).mono ?_; rintro e wn ⟨rfl, hgn⟩; replace L := L.below hgn.below; clear hgn) | (go_at_call 17; with_reducible (show Calls _ _ #[Value.agg (uqs B), Value.agg (uqs A)] _ _); refine (a3 _).mono ?_; rintro e wn ⟨rfl, hgn⟩; replace L := L.below hgn.below; clear hgn) | (go_at_call 17; with_reducible (show Calls _ _ #[Value.agg (uqs B), Value.agg (uqs C)] _ _); refine (a4 _).mono ?_; rintro e wn ⟨rfl, hgn⟩; replace L := L.below hgn.below; clear hgn) | (go_at_call 17; with_reducible (show Calls _ _ #[Value.agg (uqs A), Value.agg (uqs C)] _ _); refine (a5 _).mono ?_; rintro e wn ⟨rfl, hgn⟩; replace L := L.below hgn.below; clear hgn) | (go_at_call 6; refine (cknown_any _ L.gg).mono ?_; rintro e wk ⟨rfl, hbk⟩; replace L := L.below hbk; clear hbk))
      go_ret
      exact ⟨rfl, L.bb⟩
    · cases y2
      · cases y3
        · go_wp2_with (first | (refine wpList_load_mid_g (by rfl) 25 _ rfl (w.heap.size) 0 rfl (uqs A) _ (uqs_range L.va) Tryd.underlying25 rfl (uqs_info hA) ?_; try simp only [Act.put, List.setIfInBounds_toArray, List.set_cons_zero, List.set_cons_succ]) | (refine wpList_load_mid_g (by rfl) 25 _ rfl (w.heap.size + 1) 0 rfl (uqs B) _ (uqs_range L.vb) Tryd.underlying25 rfl (uqs_info hB) ?_; try simp only [Act.put, List.setIfInBounds_toArray, List.set_cons_zero, List.set_cons_succ]) | (refine wpList_load_mid_g (by rfl) 25 _ rfl (w.heap.size + 2) 0 rfl (uqs C) _ (uqs_range L.vc) Tryd.underlying25 rfl (uqs_info hC) ?_; try simp only [Act.put, List.setIfInBounds_toArray, List.set_cons_zero, List.set_cons_succ]) | (refine wpList_load_mid_g (by rfl) 25 _ rfl (gJ) 0 rfl (uqs J) _ (uqs_range L.vj) Tryd.underlying25 rfl (uqs_info hm) ?_; try simp only [Act.put, List.setIfInBounds_toArray, List.set_cons_zero, List.set_cons_succ]) | (go_at_call 17; with_reducible (show Calls _ _ #[Value.agg (uqs A), Value.agg (uqs A)] _ _); refine (a1 _).mono ?_; rintro e wn ⟨rfl, hgn⟩; replace L := L.below hgn.below; clear hgn) | (go_at_call 17; with_reducible (show Calls _ _ #[Value.agg (uqs A), Value.agg (uqs B)] _ _); refine (a2 _).mono ?_; rintro e wn ⟨rfl, hgn⟩; replace L := L.below hgn.below; clear hgn) | (go_at_call 17; with_reducible (show Calls _ _ #[Value.agg (uqs B), Value.agg (uqs A)] _ _); refine (a3 _).mono ?_; rintro e wn ⟨rfl, hgn⟩; replace L := L.below hgn.below; clear hgn) | (go_at_call 17; with_reducible (show Calls _ _ #[Value.agg (uqs B), Value.agg (uqs C)] _ _); refine (a4 _).mono ?_; rintro e wn ⟨rfl, hgn⟩; replace L := L.below hgn.below; clear hgn) | (go_at_call 17; with_reducible (show Calls _ _ #[Value.agg (uqs A), Value.agg (uqs C)] _ _); refine (a5 _).mono ?_; rintro e wn ⟨rfl, hgn⟩; replace L := L.below hgn.below; clear hgn) | (go_at_call 6; refine (cknown_any _ L.gg).mono ?_; rintro e wk ⟨rfl, hbk⟩; replace L := L.below hbk; clear hbk))
          go_ret
          exact ⟨rfl, L.bb⟩
        · obtain rfl := H245.out rfl rfl
          go_wp2_with (first | (refine wpList_load_mid_g (by rfl) 25 _ rfl (w.heap.size) 0 rfl (uqs A) _ (uqs_range L.va) Tryd.underlying25 rfl (uqs_info hA) ?_; try simp only [Act.put, List.setIfInBounds_toArray, List.set_cons_zero, List.set_cons_succ]) | (refine wpList_load_mid_g (by rfl) 25 _ rfl (w.heap.size + 1) 0 rfl (uqs B) _ (uqs_range L.vb) Tryd.underlying25 rfl (uqs_info hB) ?_; try simp only [Act.put, List.setIfInBounds_toArray, List.set_cons_zero, List.set_cons_succ]) | (refine wpList_load_mid_g (by rfl) 25 _ rfl (w.heap.size + 2) 0 rfl (uqs C) _ (uqs_range L.vc) Tryd.underlying25 rfl (uqs_info hC) ?_; try simp only [Act.put, List.setIfInBounds_toArray, List.set_cons_zero, List.set_cons_succ]) | (refine wpList_load_mid_g (by rfl) 25 _ rfl (gJ) 0 rfl (uqs J) _ (uqs_range L.vj) Tryd.underlying25 rfl (uqs_info hm) ?_; try simp only [Act.put, List.setIfInBounds_toArray, List.set_cons_zero, List.set_cons_succ]) | (go_at_call 17; with_reducible (show Calls _ _ #[Value.agg (uqs A), Value.agg (uqs A)] _ _); refine (a1 _).mono ?_; rintro e wn ⟨rfl, hgn⟩; replace L := L.below hgn.below; clear hgn) | (go_at_call 17; with_reducible (show Calls _ _ #[Value.agg (uqs A), Value.agg (uqs B)] _ _); refine (a2 _).mono ?_; rintro e wn ⟨rfl, hgn⟩; replace L := L.below hgn.below; clear hgn) | (go_at_call 17; with_reducible (show Calls _ _ #[Value.agg (uqs B), Value.agg (uqs A)] _ _); refine (a3 _).mono ?_; rintro e wn ⟨rfl, hgn⟩; replace L := L.below hgn.below; clear hgn) | (go_at_call 17; with_reducible (show Calls _ _ #[Value.agg (uqs B), Value.agg (uqs C)] _ _); refine (a4 _).mono ?_; rintro e wn ⟨rfl, hgn⟩; replace L := L.below hgn.below; clear hgn) | (go_at_call 17; with_reducible (show Calls _ _ #[Value.agg (uqs A), Value.agg (uqs C)] _ _); refine (a5 _).mono ?_; rintro e wn ⟨rfl, hgn⟩; replace L := L.below hgn.below; clear hgn) | (go_at_call 6; refine (cknown_any _ L.gg).mono ?_; rintro e wk ⟨rfl, hbk⟩; replace L := L.below hbk; clear hbk))
          go_ret
          exact ⟨rfl, L.bb⟩
      · obtain rfl := H23.out rfl rfl
        cases y3
        · go_wp2_with (first | (refine wpList_load_mid_g (by rfl) 25 _ rfl (w.heap.size) 0 rfl (uqs A) _ (uqs_range L.va) Tryd.underlying25 rfl (uqs_info hA) ?_; try simp only [Act.put, List.setIfInBounds_toArray, List.set_cons_zero, List.set_cons_succ]) | (refine wpList_load_mid_g (by rfl) 25 _ rfl (w.heap.size + 1) 0 rfl (uqs B) _ (uqs_range L.vb) Tryd.underlying25 rfl (uqs_info hB) ?_; try simp only [Act.put, List.setIfInBounds_toArray, List.set_cons_zero, List.set_cons_succ]) | (refine wpList_load_mid_g (by rfl) 25 _ rfl (w.heap.size + 2) 0 rfl (uqs C) _ (uqs_range L.vc) Tryd.underlying25 rfl (uqs_info hC) ?_; try simp only [Act.put, List.setIfInBounds_toArray, List.set_cons_zero, List.set_cons_succ]) | (refine wpList_load_mid_g (by rfl) 25 _ rfl (gJ) 0 rfl (uqs J) _ (uqs_range L.vj) Tryd.underlying25 rfl (uqs_info hm) ?_; try simp only [Act.put, List.setIfInBounds_toArray, List.set_cons_zero, List.set_cons_succ]) | (go_at_call 17; with_reducible (show Calls _ _ #[Value.agg (uqs A), Value.agg (uqs A)] _ _); refine (a1 _).mono ?_; rintro e wn ⟨rfl, hgn⟩; replace L := L.below hgn.below; clear hgn) | (go_at_call 17; with_reducible (show Calls _ _ #[Value.agg (uqs A), Value.agg (uqs B)] _ _); refine (a2 _).mono ?_; rintro e wn ⟨rfl, hgn⟩; replace L := L.below hgn.below; clear hgn) | (go_at_call 17; with_reducible (show Calls _ _ #[Value.agg (uqs B), Value.agg (uqs A)] _ _); refine (a3 _).mono ?_; rintro e wn ⟨rfl, hgn⟩; replace L := L.below hgn.below; clear hgn) | (go_at_call 17; with_reducible (show Calls _ _ #[Value.agg (uqs B), Value.agg (uqs C)] _ _); refine (a4 _).mono ?_; rintro e wn ⟨rfl, hgn⟩; replace L := L.below hgn.below; clear hgn) | (go_at_call 17; with_reducible (show Calls _ _ #[Value.agg (uqs A), Value.agg (uqs C)] _ _); refine (a5 _).mono ?_; rintro e wn ⟨rfl, hgn⟩; replace L := L.below hgn.below; clear hgn) | (go_at_call 6; refine (cknown_any _ L.gg).mono ?_; rintro e wk ⟨rfl, hbk⟩; replace L := L.below hbk; clear hbk))
          go_ret
          exact ⟨rfl, L.bb⟩
        · obtain rfl := H245.out rfl rfl
          go_wp2_with (first | (refine wpList_load_mid_g (by rfl) 25 _ rfl (w.heap.size) 0 rfl (uqs A) _ (uqs_range L.va) Tryd.underlying25 rfl (uqs_info hA) ?_; try simp only [Act.put, List.setIfInBounds_toArray, List.set_cons_zero, List.set_cons_succ]) | (refine wpList_load_mid_g (by rfl) 25 _ rfl (w.heap.size + 1) 0 rfl (uqs B) _ (uqs_range L.vb) Tryd.underlying25 rfl (uqs_info hB) ?_; try simp only [Act.put, List.setIfInBounds_toArray, List.set_cons_zero, List.set_cons_succ]) | (refine wpList_load_mid_g (by rfl) 25 _ rfl (w.heap.size + 2) 0 rfl (uqs C) _ (uqs_range L.vc) Tryd.underlying25 rfl (uqs_info hC) ?_; try simp only [Act.put, List.setIfInBounds_toArray, List.set_cons_zero, List.set_cons_succ]) | (refine wpList_load_mid_g (by rfl) 25 _ rfl (gJ) 0 rfl (uqs J) _ (uqs_range L.vj) Tryd.underlying25 rfl (uqs_info hm) ?_; try simp only [Act.put, List.setIfInBounds_toArray, List.set_cons_zero, List.set_cons_succ]) | (go_at_call 17; with_reducible (show Calls _ _ #[Value.agg (uqs A), Value.agg (uqs A)] _ _); refine (a1 _).mono ?_; rintro e wn ⟨rfl, hgn⟩; replace L := L.below hgn.below; clear hgn) | (go_at_call 17; with_reducible (show Calls _ _ #[Value.agg (uqs A), Value.agg (uqs B)] _ _); refine (a2 _).mono ?_; rintro e wn ⟨rfl, hgn⟩; replace L := L.below hgn.below; clear hgn) | (go_at_call 17; with_reducible (show Calls _ _ #[Value.agg (uqs B), Value.agg (uqs A)] _ _); refine (a3 _).mono ?_; rintro e wn ⟨rfl, hgn⟩; replace L := L.below hgn.below; clear hgn) | (go_at_call 17; with_reducible (show Calls _ _ #[Value.agg (uqs B), Value.agg (uqs C)] _ _); refine (a4 _).mono ?_; rintro e wn ⟨rfl, hgn⟩; replace L := L.below hgn.below; clear hgn) | (go_at_call 17; with_reducible (show Calls _ _ #[Value.agg (uqs A), Value.agg (uqs C)] _ _); refine (a5 _).mono ?_; rintro e wn ⟨rfl, hgn⟩; replace L := L.below hgn.below; clear hgn) | (go_at_call 6; refine (cknown_any _ L.gg).mono ?_; rintro e wk ⟨rfl, hbk⟩; replace L := L.below hbk; clear hbk))
          go_ret
          exact ⟨rfl, L.bb⟩
end Go.Proofs.YthlopecllhdmhaaDoor

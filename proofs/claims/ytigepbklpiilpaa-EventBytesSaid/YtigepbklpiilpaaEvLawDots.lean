/-
  EventDots' law.
-/
import Derived.Test.YtigepbklpiilpaaEvKn
namespace Go.Proofs.Ytigepbklpiilpaa
open Go.RowKit
open CtxM
set_option linter.unusedVariables false
set_option linter.unusedSimpArgs false
set_option maxRecDepth 20000

theorem maxV_ext {A B : List Nat} (hA : A.length = 16) (hB : B.length = 16) (h : ∀ i, i < 16 → A.getD i 0 = B.getD i 0) : A = B := by
  apply List.ext_getElem (by omega)
  intro i h1 h2
  have := h i (by omega)
  simpa [List.getD_eq_getElem?_getD, List.getElem?_eq_getElem h1, List.getElem?_eq_getElem h2] using this
theorem maxV_comm (A B : List Nat) : maxV A B = maxV B A := maxV_ext (maxV_length _ _) (maxV_length _ _) fun i hi => by rw [maxV_getD _ _ i hi, maxV_getD _ _ i hi]; omega
theorem maxV_left (A B : List Nat) : maxV (maxV A B) A = maxV A B := maxV_ext (maxV_length _ _) (maxV_length _ _) fun i hi => by rw [maxV_getD _ _ i hi, maxV_getD _ _ i hi]; omega
theorem maxV_assoc (A B C : List Nat) : maxV (maxV A B) C = maxV A (maxV B C) := maxV_ext (maxV_length _ _) (maxV_length _ _) fun i hi => by rw [maxV_getD _ _ i hi, maxV_getD _ _ i hi, maxV_getD _ _ i hi, maxV_getD _ _ i hi]; omega
theorem maxV_eq_iff (A B : List Nat) (hA : A.length = 16) : maxV A B = A ↔ ∀ i, i < 16 → B.getD i 0 ≤ A.getD i 0 := by
  constructor
  · intro h i hi
    have := maxV_getD A B i hi
    rw [h] at this; omega
  · exact fun h => maxV_ext (maxV_length _ _) hA fun i hi => by rw [maxV_getD _ _ i hi]; have := h i hi; omega
theorem und_max (A B : List Nat) (d : Dt) : decide (Und (maxV A B) d) = (decide (Und A d) || decide (Und B d)) := by
  rw [Bool.eq_iff_iff, Bool.or_eq_true, decide_eq_true_iff, decide_eq_true_iff, decide_eq_true_iff]
  unfold Und at_
  by_cases hM : May d
  · have hk : (d.1 - 1).toNat < 16 := by have := hM.1; have := hM.2.1; omega
    rw [maxV_getD _ _ _ hk]
    constructor
    · rintro ⟨_, h⟩
      by_cases k : d.2 ≤ A.getD (d.1 - 1).toNat 0
      · exact .inl ⟨hM, k⟩
      · exact .inr ⟨hM, by omega⟩
    · rintro (⟨_, h⟩ | ⟨_, h⟩) <;> exact ⟨hM, by omega⟩
  · simp [hM]

theorem blk6 (w : World) (t0 t1 t2 t3 t4 t5 : TypeId) (c0 c1 c2 c3 c4 c5 : Array Value) :
    Blk ((((((w.alloc (.cells c0 t0)).alloc (.cells c1 t1)).alloc (.cells c2 t2)).alloc (.cells c3 t3)).alloc (.cells c4 t4)).alloc (.cells c5 t5)) (w.heap.size + 0) t0 c0 ∧ Blk ((((((w.alloc (.cells c0 t0)).alloc (.cells c1 t1)).alloc (.cells c2 t2)).alloc (.cells c3 t3)).alloc (.cells c4 t4)).alloc (.cells c5 t5)) (w.heap.size + 1) t1 c1 ∧ Blk ((((((w.alloc (.cells c0 t0)).alloc (.cells c1 t1)).alloc (.cells c2 t2)).alloc (.cells c3 t3)).alloc (.cells c4 t4)).alloc (.cells c5 t5)) (w.heap.size + 2) t2 c2 ∧ Blk ((((((w.alloc (.cells c0 t0)).alloc (.cells c1 t1)).alloc (.cells c2 t2)).alloc (.cells c3 t3)).alloc (.cells c4 t4)).alloc (.cells c5 t5)) (w.heap.size + 3) t3 c3 ∧ Blk ((((((w.alloc (.cells c0 t0)).alloc (.cells c1 t1)).alloc (.cells c2 t2)).alloc (.cells c3 t3)).alloc (.cells c4 t4)).alloc (.cells c5 t5)) (w.heap.size + 4) t4 c4 ∧ Blk ((((((w.alloc (.cells c0 t0)).alloc (.cells c1 t1)).alloc (.cells c2 t2)).alloc (.cells c3 t3)).alloc (.cells c4 t4)).alloc (.cells c5 t5)) (w.heap.size + 5) t5 c5 := by
  have e : ∀ (k : Nat) (W : World) (t : TypeId) (c : Array Value), W.heap.size = w.heap.size + k → Blk (W.alloc (.cells c t)) (w.heap.size + k) t c := fun k W t c h => by have := Blk.new W t c; rwa [h] at this
  refine ⟨(((((e 0 _ _ _ (by simp)).alloc _).alloc _).alloc _).alloc _).alloc _, ((((e 1 _ _ _ (by simp)).alloc _).alloc _).alloc _).alloc _, (((e 2 _ _ _ (by simp)).alloc _).alloc _).alloc _, ((e 3 _ _ _ (by simp)).alloc _).alloc _, (e 4 _ _ _ (by simp)).alloc _, e 5 _ _ _ (by simp)⟩
theorem lt_ne {a b : Dt} (h : Lt a b) : ¬ a = b := fun e => Lt.irrefl b (by rw [e] at h; exact h)
set_option maxHeartbeats 8000000 in
theorem edots_any (a b c : Dt) (V W X : List Nat) (w : World) (hV : V.length = 16) (hW : W.length = 16) (hX : X.length = 16) :
    Calls Try.prog 5 #[.agg #[.int .i64 a.1, .int .u64 (a.2 : Int)], .agg #[.int .i64 b.1, .int .u64 (b.2 : Int)], .agg #[.int .i64 c.1, .int .u64 (c.2 : Int)], .agg (uqs V), .agg (uqs W), .agg (uqs X)] w fun e w' => e = .returned (.bool true) ∧ Grw w w' := by
  have hfo : Try.prog.follows .mixedOrders = true := by kernel_rfl
  have l1 := fun U => eless_any a b U
  have l2 := fun U => eless_any b a U
  have l3 := fun U => eless_any b c U
  have l4 := fun U => eless_any a c U
  have hde := fun U => dot_eq a b U
  have j1 := fun U => ejoin_any W V U hW hV
  have j2 := fun U => ejoin_any (maxV V W) V U (maxV_length _ _) hV
  have j3 := fun U => ejoin_any V W U hV hW
  have j4 := fun U => ejoin_any (maxV V W) X U (maxV_length _ _) hX
  have j5 := fun U => ejoin_any W X U hW hX
  have j6 := fun U => ejoin_any V (maxV W X) U hV (maxV_length _ _)
  have u1 := fun U => eunder_any (maxV V W) a U (maxV_length _ _)
  have u2 := fun U => eunder_any V a U hV
  have u3 := fun U => eunder_any W a U hW
  rw [maxV_comm W V] at j1
  rw [maxV_left] at j2
  rw [← maxV_assoc] at j6
  rw [und_max] at u1
  have hJ := maxV_length V W
  have hJe := fun U => vec_eq (maxV V W) (maxV V W) hJ hJ U
  have hKe := fun U => vec_eq (maxV (maxV V W) X) (maxV (maxV V W) X) (maxV_length _ _) (maxV_length _ _) U
  rw [decide_eq_true rfl] at hJe hKe
  generalize maxV (maxV V W) X = K at j4 j6 hKe
  generalize maxV V W = J at j1 j2 j3 j4 u1 hJ hJe
  generalize maxV W X = M at j5 j6
  obtain ⟨pv, hpv⟩ : ∃ p, p = decide (Und V a) := ⟨_, rfl⟩
  obtain ⟨pw, hpw⟩ : ∃ p, p = decide (Und W a) := ⟨_, rfl⟩
  rw [← hpv] at u1 u2
  rw [← hpw] at u1 u3
  clear hpv hpw
  go_enter Try.func5, Try.ntmps5
  go_upto_region 1 with fail
  have s0 : w.heap.size = w.heap.size := rfl
  have B : Blk ((((((w.alloc (.cells #[.int .i64 a.1, .int .u64 (a.2 : Int)] 24)).alloc (.cells #[.int .i64 b.1, .int .u64 (b.2 : Int)] 24)).alloc (.cells #[.int .i64 c.1, .int .u64 (c.2 : Int)] 24)).alloc (.cells (uqs V) 27)).alloc (.cells (uqs W) 27)).alloc (.cells (uqs X) 27)) (w.heap.size + 0) 24 #[.int .i64 a.1, .int .u64 (a.2 : Int)] ∧ Blk ((((((w.alloc (.cells #[.int .i64 a.1, .int .u64 (a.2 : Int)] 24)).alloc (.cells #[.int .i64 b.1, .int .u64 (b.2 : Int)] 24)).alloc (.cells #[.int .i64 c.1, .int .u64 (c.2 : Int)] 24)).alloc (.cells (uqs V) 27)).alloc (.cells (uqs W) 27)).alloc (.cells (uqs X) 27)) (w.heap.size + 1) 24 #[.int .i64 b.1, .int .u64 (b.2 : Int)] ∧ Blk ((((((w.alloc (.cells #[.int .i64 a.1, .int .u64 (a.2 : Int)] 24)).alloc (.cells #[.int .i64 b.1, .int .u64 (b.2 : Int)] 24)).alloc (.cells #[.int .i64 c.1, .int .u64 (c.2 : Int)] 24)).alloc (.cells (uqs V) 27)).alloc (.cells (uqs W) 27)).alloc (.cells (uqs X) 27)) (w.heap.size + 2) 24 #[.int .i64 c.1, .int .u64 (c.2 : Int)] ∧ Blk ((((((w.alloc (.cells #[.int .i64 a.1, .int .u64 (a.2 : Int)] 24)).alloc (.cells #[.int .i64 b.1, .int .u64 (b.2 : Int)] 24)).alloc (.cells #[.int .i64 c.1, .int .u64 (c.2 : Int)] 24)).alloc (.cells (uqs V) 27)).alloc (.cells (uqs W) 27)).alloc (.cells (uqs X) 27)) (w.heap.size + 3) 27 (uqs V) ∧ Blk ((((((w.alloc (.cells #[.int .i64 a.1, .int .u64 (a.2 : Int)] 24)).alloc (.cells #[.int .i64 b.1, .int .u64 (b.2 : Int)] 24)).alloc (.cells #[.int .i64 c.1, .int .u64 (c.2 : Int)] 24)).alloc (.cells (uqs V) 27)).alloc (.cells (uqs W) 27)).alloc (.cells (uqs X) 27)) (w.heap.size + 4) 27 (uqs W) ∧ Blk ((((((w.alloc (.cells #[.int .i64 a.1, .int .u64 (a.2 : Int)] 24)).alloc (.cells #[.int .i64 b.1, .int .u64 (b.2 : Int)] 24)).alloc (.cells #[.int .i64 c.1, .int .u64 (c.2 : Int)] 24)).alloc (.cells (uqs V) 27)).alloc (.cells (uqs W) 27)).alloc (.cells (uqs X) 27)) (w.heap.size + 5) 27 (uqs X) := blk6 w _ _ _ _ _ _ _ _ _ _ _ _
  have hg1 : Grw w ((((((w.alloc (.cells #[.int .i64 a.1, .int .u64 (a.2 : Int)] 24)).alloc (.cells #[.int .i64 b.1, .int .u64 (b.2 : Int)] 24)).alloc (.cells #[.int .i64 c.1, .int .u64 (c.2 : Int)] 24)).alloc (.cells (uqs V) 27)).alloc (.cells (uqs W) 27)).alloc (.cells (uqs X) 27)) := ((((((Grw.refl w).alloc _).alloc _).alloc _).alloc _).alloc _).alloc _
  clear s0
  generalize ((((((w.alloc (.cells #[.int .i64 a.1, .int .u64 (a.2 : Int)] 24)).alloc (.cells #[.int .i64 b.1, .int .u64 (b.2 : Int)] 24)).alloc (.cells #[.int .i64 c.1, .int .u64 (c.2 : Int)] 24)).alloc (.cells (uqs V) 27)).alloc (.cells (uqs W) 27)).alloc (.cells (uqs X) 27)) = w1 at B hg1 ⊢
  obtain ⟨b0, b1, b2, b3, b4, b5⟩ := B
  rw [Nat.add_zero] at b0
  have qa0 : ∀ n os, (Go.Sort.grow (w1.drewN n) os).cell? ⟨w.heap.size, 0, none⟩ = some (.int .i64 a.1) := cell_grown b0.lt (by rw [b0.cell]; rfl)
  have qa1 : ∀ n os, (Go.Sort.grow (w1.drewN n) os).cell? ⟨w.heap.size, 1, none⟩ = some (.int .u64 (a.2 : Int)) := cell_grown b0.lt (by rw [b0.cell]; rfl)
  have qb0 : ∀ n os, (Go.Sort.grow (w1.drewN n) os).cell? ⟨w.heap.size + 1, 0, none⟩ = some (.int .i64 b.1) := cell_grown b1.lt (by rw [b1.cell]; rfl)
  have qb1 : ∀ n os, (Go.Sort.grow (w1.drewN n) os).cell? ⟨w.heap.size + 1, 1, none⟩ = some (.int .u64 (b.2 : Int)) := cell_grown b1.lt (by rw [b1.cell]; rfl)
  have qc0 : ∀ n os, (Go.Sort.grow (w1.drewN n) os).cell? ⟨w.heap.size + 2, 0, none⟩ = some (.int .i64 c.1) := cell_grown b2.lt (by rw [b2.cell]; rfl)
  have qc1 : ∀ n os, (Go.Sort.grow (w1.drewN n) os).cell? ⟨w.heap.size + 2, 1, none⟩ = some (.int .u64 (c.2 : Int)) := cell_grown b2.lt (by rw [b2.cell]; rfl)
  clear b1 b2
  rcases Lt.tri a b with h | h | h
  · by_cases hbc : Lt b c
    · rw [show decide (Lt a b) = true from decide_eq_true h] at l1
      rw [show decide (Lt b a) = false from decide_eq_false h.asymm] at l2
      rw [show decide (Lt b c) = true from decide_eq_true hbc] at l3
      rw [show decide (Lt a c) = true from decide_eq_true (h.trans hbc)] at l4
      rw [show decide (a = b) = false from decide_eq_false (lt_ne h)] at hde
      clear h hbc
      refine wp_region_quiet_grown (by assumption) (by kernel_rfl) ?_
      repeat (first | go_big_quiet_skip | go_big_quiet_step (first | (go_at_call 19; with_reducible (show Calls _ _ #[Value.agg #[Value.int IntKind.i64 a.1, _], Value.agg #[Value.int IntKind.i64 b.1, _]] _ _); refine Calls.grown_of (l1 _)) | (go_at_call 19; with_reducible (show Calls _ _ #[Value.agg #[Value.int IntKind.i64 b.1, _], Value.agg #[Value.int IntKind.i64 a.1, _]] _ _); refine Calls.grown_of (l2 _)) | (go_at_call 19; with_reducible (show Calls _ _ #[Value.agg #[Value.int IntKind.i64 b.1, _], Value.agg #[Value.int IntKind.i64 c.1, _]] _ _); refine Calls.grown_of (l3 _)) | (go_at_call 19; with_reducible (show Calls _ _ #[Value.agg #[Value.int IntKind.i64 a.1, _], Value.agg #[Value.int IntKind.i64 c.1, _]] _ _); refine Calls.grown_of (l4 _))))
      refine wpQuiet_nil ?_
      rintro _ ⟨⟨nq, osq⟩, rfl⟩
      go_upto_region 3 with fail
      have hg2 : Grw w (Go.Sort.grow (w1.drewN nq) osq) := hg1.trans ⟨nq, osq, rfl⟩
      have hgr2 : Grw w1 (Go.Sort.grow (w1.drewN nq) osq) := ⟨nq, osq, rfl⟩
      clear l1 l2 l3 l4 hde qa0 qa1 qb0 qb1 qc0 qc1
      generalize Go.Sort.grow (w1.drewN nq) osq = w2 at hg2 hgr2 ⊢
      have c3 := b3.below hgr2.below b3.lt
      have c4 := b4.below hgr2.below b4.lt
      have c5 := b5.below hgr2.below b5.lt
      have c0 := b0.below hgr2.below b0.lt
      clear b0 b3 b4 b5
      go_upto_region 4 with (first | (refine wpList_load_mid_g (by rfl) 27 _ rfl (w.heap.size + 3) 0 rfl (uqs V) _ (uqs_range c3) Try.underlying27 rfl (uqs_info hV) ?_; try simp only [Act.put, List.setIfInBounds_toArray, List.set_cons_zero, List.set_cons_succ]) | (refine wpList_load_mid_g (by rfl) 27 _ rfl (w.heap.size + 4) 0 rfl (uqs W) _ (uqs_range c4) Try.underlying27 rfl (uqs_info hW) ?_; try simp only [Act.put, List.setIfInBounds_toArray, List.set_cons_zero, List.set_cons_succ]) | (go_at_call 18; refine (j3 _).mono ?_; rintro e w3 ⟨rfl, hg3⟩) | (refine wpList_store_mid rfl 27 _ _ rfl w3.heap.size 0 (uqs J) rfl rfl (by rw [uqs_size, hJ]; exact (Blk.new w3 27 (uqs (z16 0 0))).there) (uqs_info hJ) (uqs_one _) ?_))
      change Code.wp _ _ _ _ ((w3.alloc (.cells (uqs (z16 0 0)) 27)).setCells w3.heap.size 0 (uqs J).toList)
      have e6 : Blk ((w3.alloc (.cells (uqs (z16 0 0)) 27)).setCells w3.heap.size 0 (uqs J).toList) w3.heap.size 27 (uqs J) := (Blk.new w3 27 (uqs (z16 0 0))).setRow (by rw [uqs_size, uqs_size, hJ]; rfl)
      have hg4 : Grw w3 ((w3.alloc (.cells (uqs (z16 0 0)) 27)).setCells w3.heap.size 0 (uqs J).toList) := grw_of (Below.only ((Below.refl _ _).alloc (Nat.le_refl _) _) (grown_setCells _ _ _ _) (Nat.le_refl _) (by simp)) (by rw [drawn_setCells]; exact Nat.le_refl _)
      generalize (w3.alloc (.cells (uqs (z16 0 0)) 27)).setCells w3.heap.size 0 (uqs J).toList = w4 at e6 hg4 ⊢
      have hg24 := hg3.trans hg4
      have e3 := c3.below hg24.below c3.lt
      have e4 := c4.below hg24.below c4.lt
      have e5 := c5.below hg24.below c5.lt
      have e0 := c0.below hg24.below c0.lt
      have hgw4 := hg2.trans hg24
      clear c0 c3 c4 c5 hg24 hg2 hgr2
      refine wp_region_quiet_grown (by assumption) (by kernel_rfl) ?_
      repeat (first | go_big_quiet_skip | (refine q_load (by rfl) 27 _ rfl (w.heap.size + 3) 0 rfl (uqs V) _ e3.lt (uqs_range e3) Try.underlying27 rfl (uqs_info hV) ?_; try simp only [Act.put, List.setIfInBounds_toArray, List.set_cons_zero, List.set_cons_succ]) | (refine q_load (by rfl) 27 _ rfl (w.heap.size + 4) 0 rfl (uqs W) _ e4.lt (uqs_range e4) Try.underlying27 rfl (uqs_info hW) ?_; try simp only [Act.put, List.setIfInBounds_toArray, List.set_cons_zero, List.set_cons_succ]) | (refine q_load (by rfl) 27 _ rfl (w.heap.size + 5) 0 rfl (uqs X) _ e5.lt (uqs_range e5) Try.underlying27 rfl (uqs_info hX) ?_; try simp only [Act.put, List.setIfInBounds_toArray, List.set_cons_zero, List.set_cons_succ]) | (refine q_load (by rfl) 27 _ rfl (w3.heap.size) 0 rfl (uqs J) _ e6.lt (uqs_range e6) Try.underlying27 rfl (uqs_info hJ) ?_; try simp only [Act.put, List.setIfInBounds_toArray, List.set_cons_zero, List.set_cons_succ]) | go_big_quiet_step (first | (go_at_call 18; with_reducible (show Calls _ _ #[Value.agg (uqs W), Value.agg (uqs V)] _ _); refine Calls.grown_of (j1 _)) | (go_at_call 18; with_reducible (show Calls _ _ #[Value.agg (uqs J), Value.agg (uqs V)] _ _); refine Calls.grown_of (j2 _)) | (go_at_call 18; with_reducible (show Calls _ _ #[Value.agg (uqs V), Value.agg (uqs W)] _ _); refine Calls.grown_of (j3 _)) | (go_at_call 18; with_reducible (show Calls _ _ #[Value.agg (uqs J), Value.agg (uqs X)] _ _); refine Calls.grown_of (j4 _)) | (go_at_call 18; with_reducible (show Calls _ _ #[Value.agg (uqs W), Value.agg (uqs X)] _ _); refine Calls.grown_of (j5 _)) | (go_at_call 18; with_reducible (show Calls _ _ #[Value.agg (uqs V), Value.agg (uqs M)] _ _); refine Calls.grown_of (j6 _))))
      refine wpQuiet_nil ?_
      rintro _ ⟨⟨nq, osq⟩, rfl⟩
      go_upto_region 6 with fail
      have hg5 : Grw w (Go.Sort.grow (w4.drewN nq) osq) := hgw4.trans ⟨nq, osq, rfl⟩
      have hgr5 : Grw w4 (Go.Sort.grow (w4.drewN nq) osq) := ⟨nq, osq, rfl⟩
      clear j1 j2 j3 j4 j5 j6 hJe hKe
      generalize Go.Sort.grow (w4.drewN nq) osq = w5 at hg5 hgr5 ⊢
      have b3 := e3.below hgr5.below e3.lt
      have b4 := e4.below hgr5.below e4.lt
      have b6 := e6.below hgr5.below e6.lt
      have b0 := e0.below hgr5.below e0.lt
      clear e0 e3 e4 e5 e6 hgw4 hgr5
      have qa0 : ∀ n os, (Go.Sort.grow (w5.drewN n) os).cell? ⟨w.heap.size, 0, none⟩ = some (.int .i64 a.1) := cell_grown b0.lt (by rw [b0.cell]; rfl)
      have qa1 : ∀ n os, (Go.Sort.grow (w5.drewN n) os).cell? ⟨w.heap.size, 1, none⟩ = some (.int .u64 (a.2 : Int)) := cell_grown b0.lt (by rw [b0.cell]; rfl)
      cases pv
      · cases pw
        · rw [show (false || false) = false from rfl] at u1
          refine wp_region_quiet_grown (by assumption) (by kernel_rfl) ?_
          repeat (first | go_big_quiet_skip | (refine q_load (by rfl) 27 _ rfl (w.heap.size + 3) 0 rfl (uqs V) _ b3.lt (uqs_range b3) Try.underlying27 rfl (uqs_info hV) ?_; try simp only [Act.put, List.setIfInBounds_toArray, List.set_cons_zero, List.set_cons_succ]) | (refine q_load (by rfl) 27 _ rfl (w.heap.size + 4) 0 rfl (uqs W) _ b4.lt (uqs_range b4) Try.underlying27 rfl (uqs_info hW) ?_; try simp only [Act.put, List.setIfInBounds_toArray, List.set_cons_zero, List.set_cons_succ]) | (refine q_load (by rfl) 27 _ rfl (w3.heap.size) 0 rfl (uqs J) _ b6.lt (uqs_range b6) Try.underlying27 rfl (uqs_info hJ) ?_; try simp only [Act.put, List.setIfInBounds_toArray, List.set_cons_zero, List.set_cons_succ]) | go_big_quiet_step (first | (go_at_call 20; with_reducible (show Calls _ _ #[Value.agg (uqs J), _] _ _); refine Calls.grown_of (u1 _)) | (go_at_call 20; with_reducible (show Calls _ _ #[Value.agg (uqs V), _] _ _); refine Calls.grown_of (u2 _)) | (go_at_call 20; with_reducible (show Calls _ _ #[Value.agg (uqs W), _] _ _); refine Calls.grown_of (u3 _)) | (go_at_call 8; refine Calls.grown_of (known_any _))))
          refine wpQuiet_nil ?_
          rintro _ ⟨⟨nq, osq⟩, rfl⟩
          go_wp2
          go_ret
          exact ⟨rfl, hg5.trans ⟨nq, osq, rfl⟩⟩
        · rw [show (false || true) = true from rfl] at u1
          refine wp_region_quiet_grown (by assumption) (by kernel_rfl) ?_
          repeat (first | go_big_quiet_skip | (refine q_load (by rfl) 27 _ rfl (w.heap.size + 3) 0 rfl (uqs V) _ b3.lt (uqs_range b3) Try.underlying27 rfl (uqs_info hV) ?_; try simp only [Act.put, List.setIfInBounds_toArray, List.set_cons_zero, List.set_cons_succ]) | (refine q_load (by rfl) 27 _ rfl (w.heap.size + 4) 0 rfl (uqs W) _ b4.lt (uqs_range b4) Try.underlying27 rfl (uqs_info hW) ?_; try simp only [Act.put, List.setIfInBounds_toArray, List.set_cons_zero, List.set_cons_succ]) | (refine q_load (by rfl) 27 _ rfl (w3.heap.size) 0 rfl (uqs J) _ b6.lt (uqs_range b6) Try.underlying27 rfl (uqs_info hJ) ?_; try simp only [Act.put, List.setIfInBounds_toArray, List.set_cons_zero, List.set_cons_succ]) | go_big_quiet_step (first | (go_at_call 20; with_reducible (show Calls _ _ #[Value.agg (uqs J), _] _ _); refine Calls.grown_of (u1 _)) | (go_at_call 20; with_reducible (show Calls _ _ #[Value.agg (uqs V), _] _ _); refine Calls.grown_of (u2 _)) | (go_at_call 20; with_reducible (show Calls _ _ #[Value.agg (uqs W), _] _ _); refine Calls.grown_of (u3 _)) | (go_at_call 8; refine Calls.grown_of (known_any _))))
          refine wpQuiet_nil ?_
          rintro _ ⟨⟨nq, osq⟩, rfl⟩
          go_wp2
          go_ret
          exact ⟨rfl, hg5.trans ⟨nq, osq, rfl⟩⟩
      · rw [show (true || pw) = true by simp] at u1
        refine wp_region_quiet_grown (by assumption) (by kernel_rfl) ?_
        repeat (first | go_big_quiet_skip | (refine q_load (by rfl) 27 _ rfl (w.heap.size + 3) 0 rfl (uqs V) _ b3.lt (uqs_range b3) Try.underlying27 rfl (uqs_info hV) ?_; try simp only [Act.put, List.setIfInBounds_toArray, List.set_cons_zero, List.set_cons_succ]) | (refine q_load (by rfl) 27 _ rfl (w.heap.size + 4) 0 rfl (uqs W) _ b4.lt (uqs_range b4) Try.underlying27 rfl (uqs_info hW) ?_; try simp only [Act.put, List.setIfInBounds_toArray, List.set_cons_zero, List.set_cons_succ]) | (refine q_load (by rfl) 27 _ rfl (w3.heap.size) 0 rfl (uqs J) _ b6.lt (uqs_range b6) Try.underlying27 rfl (uqs_info hJ) ?_; try simp only [Act.put, List.setIfInBounds_toArray, List.set_cons_zero, List.set_cons_succ]) | go_big_quiet_step (first | (go_at_call 20; with_reducible (show Calls _ _ #[Value.agg (uqs J), _] _ _); refine Calls.grown_of (u1 _)) | (go_at_call 20; with_reducible (show Calls _ _ #[Value.agg (uqs V), _] _ _); refine Calls.grown_of (u2 _)) | (go_at_call 20; with_reducible (show Calls _ _ #[Value.agg (uqs W), _] _ _); refine Calls.grown_of (u3 _)) | (go_at_call 8; refine Calls.grown_of (known_any _))))
        refine wpQuiet_nil ?_
        rintro _ ⟨⟨nq, osq⟩, rfl⟩
        go_wp2
        go_ret
        exact ⟨rfl, hg5.trans ⟨nq, osq, rfl⟩⟩
      
    · rw [show decide (Lt a b) = true from decide_eq_true h] at l1
      rw [show decide (Lt b a) = false from decide_eq_false h.asymm] at l2
      rw [show decide (Lt b c) = false from decide_eq_false hbc] at l3
      rw [show decide (a = b) = false from decide_eq_false (lt_ne h)] at hde
      clear h hbc
      refine wp_region_quiet_grown (by assumption) (by kernel_rfl) ?_
      repeat (first | go_big_quiet_skip | go_big_quiet_step (first | (go_at_call 19; with_reducible (show Calls _ _ #[Value.agg #[Value.int IntKind.i64 a.1, _], Value.agg #[Value.int IntKind.i64 b.1, _]] _ _); refine Calls.grown_of (l1 _)) | (go_at_call 19; with_reducible (show Calls _ _ #[Value.agg #[Value.int IntKind.i64 b.1, _], Value.agg #[Value.int IntKind.i64 a.1, _]] _ _); refine Calls.grown_of (l2 _)) | (go_at_call 19; with_reducible (show Calls _ _ #[Value.agg #[Value.int IntKind.i64 b.1, _], Value.agg #[Value.int IntKind.i64 c.1, _]] _ _); refine Calls.grown_of (l3 _)) | (go_at_call 19; with_reducible (show Calls _ _ #[Value.agg #[Value.int IntKind.i64 a.1, _], Value.agg #[Value.int IntKind.i64 c.1, _]] _ _); refine Calls.grown_of (l4 _))))
      refine wpQuiet_nil ?_
      rintro _ ⟨⟨nq, osq⟩, rfl⟩
      go_upto_region 3 with fail
      have hg2 : Grw w (Go.Sort.grow (w1.drewN nq) osq) := hg1.trans ⟨nq, osq, rfl⟩
      have hgr2 : Grw w1 (Go.Sort.grow (w1.drewN nq) osq) := ⟨nq, osq, rfl⟩
      clear l1 l2 l3 l4 hde qa0 qa1 qb0 qb1 qc0 qc1
      generalize Go.Sort.grow (w1.drewN nq) osq = w2 at hg2 hgr2 ⊢
      have c3 := b3.below hgr2.below b3.lt
      have c4 := b4.below hgr2.below b4.lt
      have c5 := b5.below hgr2.below b5.lt
      have c0 := b0.below hgr2.below b0.lt
      clear b0 b3 b4 b5
      go_upto_region 4 with (first | (refine wpList_load_mid_g (by rfl) 27 _ rfl (w.heap.size + 3) 0 rfl (uqs V) _ (uqs_range c3) Try.underlying27 rfl (uqs_info hV) ?_; try simp only [Act.put, List.setIfInBounds_toArray, List.set_cons_zero, List.set_cons_succ]) | (refine wpList_load_mid_g (by rfl) 27 _ rfl (w.heap.size + 4) 0 rfl (uqs W) _ (uqs_range c4) Try.underlying27 rfl (uqs_info hW) ?_; try simp only [Act.put, List.setIfInBounds_toArray, List.set_cons_zero, List.set_cons_succ]) | (go_at_call 18; refine (j3 _).mono ?_; rintro e w3 ⟨rfl, hg3⟩) | (refine wpList_store_mid rfl 27 _ _ rfl w3.heap.size 0 (uqs J) rfl rfl (by rw [uqs_size, hJ]; exact (Blk.new w3 27 (uqs (z16 0 0))).there) (uqs_info hJ) (uqs_one _) ?_))
      change Code.wp _ _ _ _ ((w3.alloc (.cells (uqs (z16 0 0)) 27)).setCells w3.heap.size 0 (uqs J).toList)
      have e6 : Blk ((w3.alloc (.cells (uqs (z16 0 0)) 27)).setCells w3.heap.size 0 (uqs J).toList) w3.heap.size 27 (uqs J) := (Blk.new w3 27 (uqs (z16 0 0))).setRow (by rw [uqs_size, uqs_size, hJ]; rfl)
      have hg4 : Grw w3 ((w3.alloc (.cells (uqs (z16 0 0)) 27)).setCells w3.heap.size 0 (uqs J).toList) := grw_of (Below.only ((Below.refl _ _).alloc (Nat.le_refl _) _) (grown_setCells _ _ _ _) (Nat.le_refl _) (by simp)) (by rw [drawn_setCells]; exact Nat.le_refl _)
      generalize (w3.alloc (.cells (uqs (z16 0 0)) 27)).setCells w3.heap.size 0 (uqs J).toList = w4 at e6 hg4 ⊢
      have hg24 := hg3.trans hg4
      have e3 := c3.below hg24.below c3.lt
      have e4 := c4.below hg24.below c4.lt
      have e5 := c5.below hg24.below c5.lt
      have e0 := c0.below hg24.below c0.lt
      have hgw4 := hg2.trans hg24
      clear c0 c3 c4 c5 hg24 hg2 hgr2
      refine wp_region_quiet_grown (by assumption) (by kernel_rfl) ?_
      repeat (first | go_big_quiet_skip | (refine q_load (by rfl) 27 _ rfl (w.heap.size + 3) 0 rfl (uqs V) _ e3.lt (uqs_range e3) Try.underlying27 rfl (uqs_info hV) ?_; try simp only [Act.put, List.setIfInBounds_toArray, List.set_cons_zero, List.set_cons_succ]) | (refine q_load (by rfl) 27 _ rfl (w.heap.size + 4) 0 rfl (uqs W) _ e4.lt (uqs_range e4) Try.underlying27 rfl (uqs_info hW) ?_; try simp only [Act.put, List.setIfInBounds_toArray, List.set_cons_zero, List.set_cons_succ]) | (refine q_load (by rfl) 27 _ rfl (w.heap.size + 5) 0 rfl (uqs X) _ e5.lt (uqs_range e5) Try.underlying27 rfl (uqs_info hX) ?_; try simp only [Act.put, List.setIfInBounds_toArray, List.set_cons_zero, List.set_cons_succ]) | (refine q_load (by rfl) 27 _ rfl (w3.heap.size) 0 rfl (uqs J) _ e6.lt (uqs_range e6) Try.underlying27 rfl (uqs_info hJ) ?_; try simp only [Act.put, List.setIfInBounds_toArray, List.set_cons_zero, List.set_cons_succ]) | go_big_quiet_step (first | (go_at_call 18; with_reducible (show Calls _ _ #[Value.agg (uqs W), Value.agg (uqs V)] _ _); refine Calls.grown_of (j1 _)) | (go_at_call 18; with_reducible (show Calls _ _ #[Value.agg (uqs J), Value.agg (uqs V)] _ _); refine Calls.grown_of (j2 _)) | (go_at_call 18; with_reducible (show Calls _ _ #[Value.agg (uqs V), Value.agg (uqs W)] _ _); refine Calls.grown_of (j3 _)) | (go_at_call 18; with_reducible (show Calls _ _ #[Value.agg (uqs J), Value.agg (uqs X)] _ _); refine Calls.grown_of (j4 _)) | (go_at_call 18; with_reducible (show Calls _ _ #[Value.agg (uqs W), Value.agg (uqs X)] _ _); refine Calls.grown_of (j5 _)) | (go_at_call 18; with_reducible (show Calls _ _ #[Value.agg (uqs V), Value.agg (uqs M)] _ _); refine Calls.grown_of (j6 _))))
      refine wpQuiet_nil ?_
      rintro _ ⟨⟨nq, osq⟩, rfl⟩
      go_upto_region 6 with fail
      have hg5 : Grw w (Go.Sort.grow (w4.drewN nq) osq) := hgw4.trans ⟨nq, osq, rfl⟩
      have hgr5 : Grw w4 (Go.Sort.grow (w4.drewN nq) osq) := ⟨nq, osq, rfl⟩
      clear j1 j2 j3 j4 j5 j6 hJe hKe
      generalize Go.Sort.grow (w4.drewN nq) osq = w5 at hg5 hgr5 ⊢
      have b3 := e3.below hgr5.below e3.lt
      have b4 := e4.below hgr5.below e4.lt
      have b6 := e6.below hgr5.below e6.lt
      have b0 := e0.below hgr5.below e0.lt
      clear e0 e3 e4 e5 e6 hgw4 hgr5
      have qa0 : ∀ n os, (Go.Sort.grow (w5.drewN n) os).cell? ⟨w.heap.size, 0, none⟩ = some (.int .i64 a.1) := cell_grown b0.lt (by rw [b0.cell]; rfl)
      have qa1 : ∀ n os, (Go.Sort.grow (w5.drewN n) os).cell? ⟨w.heap.size, 1, none⟩ = some (.int .u64 (a.2 : Int)) := cell_grown b0.lt (by rw [b0.cell]; rfl)
      cases pv
      · cases pw
        · rw [show (false || false) = false from rfl] at u1
          refine wp_region_quiet_grown (by assumption) (by kernel_rfl) ?_
          repeat (first | go_big_quiet_skip | (refine q_load (by rfl) 27 _ rfl (w.heap.size + 3) 0 rfl (uqs V) _ b3.lt (uqs_range b3) Try.underlying27 rfl (uqs_info hV) ?_; try simp only [Act.put, List.setIfInBounds_toArray, List.set_cons_zero, List.set_cons_succ]) | (refine q_load (by rfl) 27 _ rfl (w.heap.size + 4) 0 rfl (uqs W) _ b4.lt (uqs_range b4) Try.underlying27 rfl (uqs_info hW) ?_; try simp only [Act.put, List.setIfInBounds_toArray, List.set_cons_zero, List.set_cons_succ]) | (refine q_load (by rfl) 27 _ rfl (w3.heap.size) 0 rfl (uqs J) _ b6.lt (uqs_range b6) Try.underlying27 rfl (uqs_info hJ) ?_; try simp only [Act.put, List.setIfInBounds_toArray, List.set_cons_zero, List.set_cons_succ]) | go_big_quiet_step (first | (go_at_call 20; with_reducible (show Calls _ _ #[Value.agg (uqs J), _] _ _); refine Calls.grown_of (u1 _)) | (go_at_call 20; with_reducible (show Calls _ _ #[Value.agg (uqs V), _] _ _); refine Calls.grown_of (u2 _)) | (go_at_call 20; with_reducible (show Calls _ _ #[Value.agg (uqs W), _] _ _); refine Calls.grown_of (u3 _)) | (go_at_call 8; refine Calls.grown_of (known_any _))))
          refine wpQuiet_nil ?_
          rintro _ ⟨⟨nq, osq⟩, rfl⟩
          go_wp2
          go_ret
          exact ⟨rfl, hg5.trans ⟨nq, osq, rfl⟩⟩
        · rw [show (false || true) = true from rfl] at u1
          refine wp_region_quiet_grown (by assumption) (by kernel_rfl) ?_
          repeat (first | go_big_quiet_skip | (refine q_load (by rfl) 27 _ rfl (w.heap.size + 3) 0 rfl (uqs V) _ b3.lt (uqs_range b3) Try.underlying27 rfl (uqs_info hV) ?_; try simp only [Act.put, List.setIfInBounds_toArray, List.set_cons_zero, List.set_cons_succ]) | (refine q_load (by rfl) 27 _ rfl (w.heap.size + 4) 0 rfl (uqs W) _ b4.lt (uqs_range b4) Try.underlying27 rfl (uqs_info hW) ?_; try simp only [Act.put, List.setIfInBounds_toArray, List.set_cons_zero, List.set_cons_succ]) | (refine q_load (by rfl) 27 _ rfl (w3.heap.size) 0 rfl (uqs J) _ b6.lt (uqs_range b6) Try.underlying27 rfl (uqs_info hJ) ?_; try simp only [Act.put, List.setIfInBounds_toArray, List.set_cons_zero, List.set_cons_succ]) | go_big_quiet_step (first | (go_at_call 20; with_reducible (show Calls _ _ #[Value.agg (uqs J), _] _ _); refine Calls.grown_of (u1 _)) | (go_at_call 20; with_reducible (show Calls _ _ #[Value.agg (uqs V), _] _ _); refine Calls.grown_of (u2 _)) | (go_at_call 20; with_reducible (show Calls _ _ #[Value.agg (uqs W), _] _ _); refine Calls.grown_of (u3 _)) | (go_at_call 8; refine Calls.grown_of (known_any _))))
          refine wpQuiet_nil ?_
          rintro _ ⟨⟨nq, osq⟩, rfl⟩
          go_wp2
          go_ret
          exact ⟨rfl, hg5.trans ⟨nq, osq, rfl⟩⟩
      · rw [show (true || pw) = true by simp] at u1
        refine wp_region_quiet_grown (by assumption) (by kernel_rfl) ?_
        repeat (first | go_big_quiet_skip | (refine q_load (by rfl) 27 _ rfl (w.heap.size + 3) 0 rfl (uqs V) _ b3.lt (uqs_range b3) Try.underlying27 rfl (uqs_info hV) ?_; try simp only [Act.put, List.setIfInBounds_toArray, List.set_cons_zero, List.set_cons_succ]) | (refine q_load (by rfl) 27 _ rfl (w.heap.size + 4) 0 rfl (uqs W) _ b4.lt (uqs_range b4) Try.underlying27 rfl (uqs_info hW) ?_; try simp only [Act.put, List.setIfInBounds_toArray, List.set_cons_zero, List.set_cons_succ]) | (refine q_load (by rfl) 27 _ rfl (w3.heap.size) 0 rfl (uqs J) _ b6.lt (uqs_range b6) Try.underlying27 rfl (uqs_info hJ) ?_; try simp only [Act.put, List.setIfInBounds_toArray, List.set_cons_zero, List.set_cons_succ]) | go_big_quiet_step (first | (go_at_call 20; with_reducible (show Calls _ _ #[Value.agg (uqs J), _] _ _); refine Calls.grown_of (u1 _)) | (go_at_call 20; with_reducible (show Calls _ _ #[Value.agg (uqs V), _] _ _); refine Calls.grown_of (u2 _)) | (go_at_call 20; with_reducible (show Calls _ _ #[Value.agg (uqs W), _] _ _); refine Calls.grown_of (u3 _)) | (go_at_call 8; refine Calls.grown_of (known_any _))))
        refine wpQuiet_nil ?_
        rintro _ ⟨⟨nq, osq⟩, rfl⟩
        go_wp2
        go_ret
        exact ⟨rfl, hg5.trans ⟨nq, osq, rfl⟩⟩
      
  · rw [show decide (Lt a b) = false from decide_eq_false (fun k => lt_ne k h)] at l1
    rw [show decide (Lt b a) = false from decide_eq_false (fun k => lt_ne k h.symm)] at l2
    rw [show decide (a = b) = true from decide_eq_true h] at hde
    clear h
    refine wp_region_quiet_grown (by assumption) (by kernel_rfl) ?_
    repeat (first | go_big_quiet_skip | go_big_quiet_step (first | (go_at_call 19; with_reducible (show Calls _ _ #[Value.agg #[Value.int IntKind.i64 a.1, _], Value.agg #[Value.int IntKind.i64 b.1, _]] _ _); refine Calls.grown_of (l1 _)) | (go_at_call 19; with_reducible (show Calls _ _ #[Value.agg #[Value.int IntKind.i64 b.1, _], Value.agg #[Value.int IntKind.i64 a.1, _]] _ _); refine Calls.grown_of (l2 _)) | (go_at_call 19; with_reducible (show Calls _ _ #[Value.agg #[Value.int IntKind.i64 b.1, _], Value.agg #[Value.int IntKind.i64 c.1, _]] _ _); refine Calls.grown_of (l3 _)) | (go_at_call 19; with_reducible (show Calls _ _ #[Value.agg #[Value.int IntKind.i64 a.1, _], Value.agg #[Value.int IntKind.i64 c.1, _]] _ _); refine Calls.grown_of (l4 _))))
    refine wpQuiet_nil ?_
    rintro _ ⟨⟨nq, osq⟩, rfl⟩
    go_upto_region 3 with fail
    have hg2 : Grw w (Go.Sort.grow (w1.drewN nq) osq) := hg1.trans ⟨nq, osq, rfl⟩
    have hgr2 : Grw w1 (Go.Sort.grow (w1.drewN nq) osq) := ⟨nq, osq, rfl⟩
    clear l1 l2 l3 l4 hde qa0 qa1 qb0 qb1 qc0 qc1
    generalize Go.Sort.grow (w1.drewN nq) osq = w2 at hg2 hgr2 ⊢
    have c3 := b3.below hgr2.below b3.lt
    have c4 := b4.below hgr2.below b4.lt
    have c5 := b5.below hgr2.below b5.lt
    have c0 := b0.below hgr2.below b0.lt
    clear b0 b3 b4 b5
    go_upto_region 4 with (first | (refine wpList_load_mid_g (by rfl) 27 _ rfl (w.heap.size + 3) 0 rfl (uqs V) _ (uqs_range c3) Try.underlying27 rfl (uqs_info hV) ?_; try simp only [Act.put, List.setIfInBounds_toArray, List.set_cons_zero, List.set_cons_succ]) | (refine wpList_load_mid_g (by rfl) 27 _ rfl (w.heap.size + 4) 0 rfl (uqs W) _ (uqs_range c4) Try.underlying27 rfl (uqs_info hW) ?_; try simp only [Act.put, List.setIfInBounds_toArray, List.set_cons_zero, List.set_cons_succ]) | (go_at_call 18; refine (j3 _).mono ?_; rintro e w3 ⟨rfl, hg3⟩) | (refine wpList_store_mid rfl 27 _ _ rfl w3.heap.size 0 (uqs J) rfl rfl (by rw [uqs_size, hJ]; exact (Blk.new w3 27 (uqs (z16 0 0))).there) (uqs_info hJ) (uqs_one _) ?_))
    change Code.wp _ _ _ _ ((w3.alloc (.cells (uqs (z16 0 0)) 27)).setCells w3.heap.size 0 (uqs J).toList)
    have e6 : Blk ((w3.alloc (.cells (uqs (z16 0 0)) 27)).setCells w3.heap.size 0 (uqs J).toList) w3.heap.size 27 (uqs J) := (Blk.new w3 27 (uqs (z16 0 0))).setRow (by rw [uqs_size, uqs_size, hJ]; rfl)
    have hg4 : Grw w3 ((w3.alloc (.cells (uqs (z16 0 0)) 27)).setCells w3.heap.size 0 (uqs J).toList) := grw_of (Below.only ((Below.refl _ _).alloc (Nat.le_refl _) _) (grown_setCells _ _ _ _) (Nat.le_refl _) (by simp)) (by rw [drawn_setCells]; exact Nat.le_refl _)
    generalize (w3.alloc (.cells (uqs (z16 0 0)) 27)).setCells w3.heap.size 0 (uqs J).toList = w4 at e6 hg4 ⊢
    have hg24 := hg3.trans hg4
    have e3 := c3.below hg24.below c3.lt
    have e4 := c4.below hg24.below c4.lt
    have e5 := c5.below hg24.below c5.lt
    have e0 := c0.below hg24.below c0.lt
    have hgw4 := hg2.trans hg24
    clear c0 c3 c4 c5 hg24 hg2 hgr2
    refine wp_region_quiet_grown (by assumption) (by kernel_rfl) ?_
    repeat (first | go_big_quiet_skip | (refine q_load (by rfl) 27 _ rfl (w.heap.size + 3) 0 rfl (uqs V) _ e3.lt (uqs_range e3) Try.underlying27 rfl (uqs_info hV) ?_; try simp only [Act.put, List.setIfInBounds_toArray, List.set_cons_zero, List.set_cons_succ]) | (refine q_load (by rfl) 27 _ rfl (w.heap.size + 4) 0 rfl (uqs W) _ e4.lt (uqs_range e4) Try.underlying27 rfl (uqs_info hW) ?_; try simp only [Act.put, List.setIfInBounds_toArray, List.set_cons_zero, List.set_cons_succ]) | (refine q_load (by rfl) 27 _ rfl (w.heap.size + 5) 0 rfl (uqs X) _ e5.lt (uqs_range e5) Try.underlying27 rfl (uqs_info hX) ?_; try simp only [Act.put, List.setIfInBounds_toArray, List.set_cons_zero, List.set_cons_succ]) | (refine q_load (by rfl) 27 _ rfl (w3.heap.size) 0 rfl (uqs J) _ e6.lt (uqs_range e6) Try.underlying27 rfl (uqs_info hJ) ?_; try simp only [Act.put, List.setIfInBounds_toArray, List.set_cons_zero, List.set_cons_succ]) | go_big_quiet_step (first | (go_at_call 18; with_reducible (show Calls _ _ #[Value.agg (uqs W), Value.agg (uqs V)] _ _); refine Calls.grown_of (j1 _)) | (go_at_call 18; with_reducible (show Calls _ _ #[Value.agg (uqs J), Value.agg (uqs V)] _ _); refine Calls.grown_of (j2 _)) | (go_at_call 18; with_reducible (show Calls _ _ #[Value.agg (uqs V), Value.agg (uqs W)] _ _); refine Calls.grown_of (j3 _)) | (go_at_call 18; with_reducible (show Calls _ _ #[Value.agg (uqs J), Value.agg (uqs X)] _ _); refine Calls.grown_of (j4 _)) | (go_at_call 18; with_reducible (show Calls _ _ #[Value.agg (uqs W), Value.agg (uqs X)] _ _); refine Calls.grown_of (j5 _)) | (go_at_call 18; with_reducible (show Calls _ _ #[Value.agg (uqs V), Value.agg (uqs M)] _ _); refine Calls.grown_of (j6 _))))
    refine wpQuiet_nil ?_
    rintro _ ⟨⟨nq, osq⟩, rfl⟩
    go_upto_region 6 with fail
    have hg5 : Grw w (Go.Sort.grow (w4.drewN nq) osq) := hgw4.trans ⟨nq, osq, rfl⟩
    have hgr5 : Grw w4 (Go.Sort.grow (w4.drewN nq) osq) := ⟨nq, osq, rfl⟩
    clear j1 j2 j3 j4 j5 j6 hJe hKe
    generalize Go.Sort.grow (w4.drewN nq) osq = w5 at hg5 hgr5 ⊢
    have b3 := e3.below hgr5.below e3.lt
    have b4 := e4.below hgr5.below e4.lt
    have b6 := e6.below hgr5.below e6.lt
    have b0 := e0.below hgr5.below e0.lt
    clear e0 e3 e4 e5 e6 hgw4 hgr5
    have qa0 : ∀ n os, (Go.Sort.grow (w5.drewN n) os).cell? ⟨w.heap.size, 0, none⟩ = some (.int .i64 a.1) := cell_grown b0.lt (by rw [b0.cell]; rfl)
    have qa1 : ∀ n os, (Go.Sort.grow (w5.drewN n) os).cell? ⟨w.heap.size, 1, none⟩ = some (.int .u64 (a.2 : Int)) := cell_grown b0.lt (by rw [b0.cell]; rfl)
    cases pv
    · cases pw
      · rw [show (false || false) = false from rfl] at u1
        refine wp_region_quiet_grown (by assumption) (by kernel_rfl) ?_
        repeat (first | go_big_quiet_skip | (refine q_load (by rfl) 27 _ rfl (w.heap.size + 3) 0 rfl (uqs V) _ b3.lt (uqs_range b3) Try.underlying27 rfl (uqs_info hV) ?_; try simp only [Act.put, List.setIfInBounds_toArray, List.set_cons_zero, List.set_cons_succ]) | (refine q_load (by rfl) 27 _ rfl (w.heap.size + 4) 0 rfl (uqs W) _ b4.lt (uqs_range b4) Try.underlying27 rfl (uqs_info hW) ?_; try simp only [Act.put, List.setIfInBounds_toArray, List.set_cons_zero, List.set_cons_succ]) | (refine q_load (by rfl) 27 _ rfl (w3.heap.size) 0 rfl (uqs J) _ b6.lt (uqs_range b6) Try.underlying27 rfl (uqs_info hJ) ?_; try simp only [Act.put, List.setIfInBounds_toArray, List.set_cons_zero, List.set_cons_succ]) | go_big_quiet_step (first | (go_at_call 20; with_reducible (show Calls _ _ #[Value.agg (uqs J), _] _ _); refine Calls.grown_of (u1 _)) | (go_at_call 20; with_reducible (show Calls _ _ #[Value.agg (uqs V), _] _ _); refine Calls.grown_of (u2 _)) | (go_at_call 20; with_reducible (show Calls _ _ #[Value.agg (uqs W), _] _ _); refine Calls.grown_of (u3 _)) | (go_at_call 8; refine Calls.grown_of (known_any _))))
        refine wpQuiet_nil ?_
        rintro _ ⟨⟨nq, osq⟩, rfl⟩
        go_wp2
        go_ret
        exact ⟨rfl, hg5.trans ⟨nq, osq, rfl⟩⟩
      · rw [show (false || true) = true from rfl] at u1
        refine wp_region_quiet_grown (by assumption) (by kernel_rfl) ?_
        repeat (first | go_big_quiet_skip | (refine q_load (by rfl) 27 _ rfl (w.heap.size + 3) 0 rfl (uqs V) _ b3.lt (uqs_range b3) Try.underlying27 rfl (uqs_info hV) ?_; try simp only [Act.put, List.setIfInBounds_toArray, List.set_cons_zero, List.set_cons_succ]) | (refine q_load (by rfl) 27 _ rfl (w.heap.size + 4) 0 rfl (uqs W) _ b4.lt (uqs_range b4) Try.underlying27 rfl (uqs_info hW) ?_; try simp only [Act.put, List.setIfInBounds_toArray, List.set_cons_zero, List.set_cons_succ]) | (refine q_load (by rfl) 27 _ rfl (w3.heap.size) 0 rfl (uqs J) _ b6.lt (uqs_range b6) Try.underlying27 rfl (uqs_info hJ) ?_; try simp only [Act.put, List.setIfInBounds_toArray, List.set_cons_zero, List.set_cons_succ]) | go_big_quiet_step (first | (go_at_call 20; with_reducible (show Calls _ _ #[Value.agg (uqs J), _] _ _); refine Calls.grown_of (u1 _)) | (go_at_call 20; with_reducible (show Calls _ _ #[Value.agg (uqs V), _] _ _); refine Calls.grown_of (u2 _)) | (go_at_call 20; with_reducible (show Calls _ _ #[Value.agg (uqs W), _] _ _); refine Calls.grown_of (u3 _)) | (go_at_call 8; refine Calls.grown_of (known_any _))))
        refine wpQuiet_nil ?_
        rintro _ ⟨⟨nq, osq⟩, rfl⟩
        go_wp2
        go_ret
        exact ⟨rfl, hg5.trans ⟨nq, osq, rfl⟩⟩
    · rw [show (true || pw) = true by simp] at u1
      refine wp_region_quiet_grown (by assumption) (by kernel_rfl) ?_
      repeat (first | go_big_quiet_skip | (refine q_load (by rfl) 27 _ rfl (w.heap.size + 3) 0 rfl (uqs V) _ b3.lt (uqs_range b3) Try.underlying27 rfl (uqs_info hV) ?_; try simp only [Act.put, List.setIfInBounds_toArray, List.set_cons_zero, List.set_cons_succ]) | (refine q_load (by rfl) 27 _ rfl (w.heap.size + 4) 0 rfl (uqs W) _ b4.lt (uqs_range b4) Try.underlying27 rfl (uqs_info hW) ?_; try simp only [Act.put, List.setIfInBounds_toArray, List.set_cons_zero, List.set_cons_succ]) | (refine q_load (by rfl) 27 _ rfl (w3.heap.size) 0 rfl (uqs J) _ b6.lt (uqs_range b6) Try.underlying27 rfl (uqs_info hJ) ?_; try simp only [Act.put, List.setIfInBounds_toArray, List.set_cons_zero, List.set_cons_succ]) | go_big_quiet_step (first | (go_at_call 20; with_reducible (show Calls _ _ #[Value.agg (uqs J), _] _ _); refine Calls.grown_of (u1 _)) | (go_at_call 20; with_reducible (show Calls _ _ #[Value.agg (uqs V), _] _ _); refine Calls.grown_of (u2 _)) | (go_at_call 20; with_reducible (show Calls _ _ #[Value.agg (uqs W), _] _ _); refine Calls.grown_of (u3 _)) | (go_at_call 8; refine Calls.grown_of (known_any _))))
      refine wpQuiet_nil ?_
      rintro _ ⟨⟨nq, osq⟩, rfl⟩
      go_wp2
      go_ret
      exact ⟨rfl, hg5.trans ⟨nq, osq, rfl⟩⟩
    
  · rw [show decide (Lt a b) = false from decide_eq_false h.asymm] at l1
    rw [show decide (Lt b a) = true from decide_eq_true h] at l2
    rw [show decide (a = b) = false from decide_eq_false (fun k => lt_ne h k.symm)] at hde
    clear h
    refine wp_region_quiet_grown (by assumption) (by kernel_rfl) ?_
    repeat (first | go_big_quiet_skip | go_big_quiet_step (first | (go_at_call 19; with_reducible (show Calls _ _ #[Value.agg #[Value.int IntKind.i64 a.1, _], Value.agg #[Value.int IntKind.i64 b.1, _]] _ _); refine Calls.grown_of (l1 _)) | (go_at_call 19; with_reducible (show Calls _ _ #[Value.agg #[Value.int IntKind.i64 b.1, _], Value.agg #[Value.int IntKind.i64 a.1, _]] _ _); refine Calls.grown_of (l2 _)) | (go_at_call 19; with_reducible (show Calls _ _ #[Value.agg #[Value.int IntKind.i64 b.1, _], Value.agg #[Value.int IntKind.i64 c.1, _]] _ _); refine Calls.grown_of (l3 _)) | (go_at_call 19; with_reducible (show Calls _ _ #[Value.agg #[Value.int IntKind.i64 a.1, _], Value.agg #[Value.int IntKind.i64 c.1, _]] _ _); refine Calls.grown_of (l4 _))))
    refine wpQuiet_nil ?_
    rintro _ ⟨⟨nq, osq⟩, rfl⟩
    go_upto_region 3 with fail
    have hg2 : Grw w (Go.Sort.grow (w1.drewN nq) osq) := hg1.trans ⟨nq, osq, rfl⟩
    have hgr2 : Grw w1 (Go.Sort.grow (w1.drewN nq) osq) := ⟨nq, osq, rfl⟩
    clear l1 l2 l3 l4 hde qa0 qa1 qb0 qb1 qc0 qc1
    generalize Go.Sort.grow (w1.drewN nq) osq = w2 at hg2 hgr2 ⊢
    have c3 := b3.below hgr2.below b3.lt
    have c4 := b4.below hgr2.below b4.lt
    have c5 := b5.below hgr2.below b5.lt
    have c0 := b0.below hgr2.below b0.lt
    clear b0 b3 b4 b5
    go_upto_region 4 with (first | (refine wpList_load_mid_g (by rfl) 27 _ rfl (w.heap.size + 3) 0 rfl (uqs V) _ (uqs_range c3) Try.underlying27 rfl (uqs_info hV) ?_; try simp only [Act.put, List.setIfInBounds_toArray, List.set_cons_zero, List.set_cons_succ]) | (refine wpList_load_mid_g (by rfl) 27 _ rfl (w.heap.size + 4) 0 rfl (uqs W) _ (uqs_range c4) Try.underlying27 rfl (uqs_info hW) ?_; try simp only [Act.put, List.setIfInBounds_toArray, List.set_cons_zero, List.set_cons_succ]) | (go_at_call 18; refine (j3 _).mono ?_; rintro e w3 ⟨rfl, hg3⟩) | (refine wpList_store_mid rfl 27 _ _ rfl w3.heap.size 0 (uqs J) rfl rfl (by rw [uqs_size, hJ]; exact (Blk.new w3 27 (uqs (z16 0 0))).there) (uqs_info hJ) (uqs_one _) ?_))
    change Code.wp _ _ _ _ ((w3.alloc (.cells (uqs (z16 0 0)) 27)).setCells w3.heap.size 0 (uqs J).toList)
    have e6 : Blk ((w3.alloc (.cells (uqs (z16 0 0)) 27)).setCells w3.heap.size 0 (uqs J).toList) w3.heap.size 27 (uqs J) := (Blk.new w3 27 (uqs (z16 0 0))).setRow (by rw [uqs_size, uqs_size, hJ]; rfl)
    have hg4 : Grw w3 ((w3.alloc (.cells (uqs (z16 0 0)) 27)).setCells w3.heap.size 0 (uqs J).toList) := grw_of (Below.only ((Below.refl _ _).alloc (Nat.le_refl _) _) (grown_setCells _ _ _ _) (Nat.le_refl _) (by simp)) (by rw [drawn_setCells]; exact Nat.le_refl _)
    generalize (w3.alloc (.cells (uqs (z16 0 0)) 27)).setCells w3.heap.size 0 (uqs J).toList = w4 at e6 hg4 ⊢
    have hg24 := hg3.trans hg4
    have e3 := c3.below hg24.below c3.lt
    have e4 := c4.below hg24.below c4.lt
    have e5 := c5.below hg24.below c5.lt
    have e0 := c0.below hg24.below c0.lt
    have hgw4 := hg2.trans hg24
    clear c0 c3 c4 c5 hg24 hg2 hgr2
    refine wp_region_quiet_grown (by assumption) (by kernel_rfl) ?_
    repeat (first | go_big_quiet_skip | (refine q_load (by rfl) 27 _ rfl (w.heap.size + 3) 0 rfl (uqs V) _ e3.lt (uqs_range e3) Try.underlying27 rfl (uqs_info hV) ?_; try simp only [Act.put, List.setIfInBounds_toArray, List.set_cons_zero, List.set_cons_succ]) | (refine q_load (by rfl) 27 _ rfl (w.heap.size + 4) 0 rfl (uqs W) _ e4.lt (uqs_range e4) Try.underlying27 rfl (uqs_info hW) ?_; try simp only [Act.put, List.setIfInBounds_toArray, List.set_cons_zero, List.set_cons_succ]) | (refine q_load (by rfl) 27 _ rfl (w.heap.size + 5) 0 rfl (uqs X) _ e5.lt (uqs_range e5) Try.underlying27 rfl (uqs_info hX) ?_; try simp only [Act.put, List.setIfInBounds_toArray, List.set_cons_zero, List.set_cons_succ]) | (refine q_load (by rfl) 27 _ rfl (w3.heap.size) 0 rfl (uqs J) _ e6.lt (uqs_range e6) Try.underlying27 rfl (uqs_info hJ) ?_; try simp only [Act.put, List.setIfInBounds_toArray, List.set_cons_zero, List.set_cons_succ]) | go_big_quiet_step (first | (go_at_call 18; with_reducible (show Calls _ _ #[Value.agg (uqs W), Value.agg (uqs V)] _ _); refine Calls.grown_of (j1 _)) | (go_at_call 18; with_reducible (show Calls _ _ #[Value.agg (uqs J), Value.agg (uqs V)] _ _); refine Calls.grown_of (j2 _)) | (go_at_call 18; with_reducible (show Calls _ _ #[Value.agg (uqs V), Value.agg (uqs W)] _ _); refine Calls.grown_of (j3 _)) | (go_at_call 18; with_reducible (show Calls _ _ #[Value.agg (uqs J), Value.agg (uqs X)] _ _); refine Calls.grown_of (j4 _)) | (go_at_call 18; with_reducible (show Calls _ _ #[Value.agg (uqs W), Value.agg (uqs X)] _ _); refine Calls.grown_of (j5 _)) | (go_at_call 18; with_reducible (show Calls _ _ #[Value.agg (uqs V), Value.agg (uqs M)] _ _); refine Calls.grown_of (j6 _))))
    refine wpQuiet_nil ?_
    rintro _ ⟨⟨nq, osq⟩, rfl⟩
    go_upto_region 6 with fail
    have hg5 : Grw w (Go.Sort.grow (w4.drewN nq) osq) := hgw4.trans ⟨nq, osq, rfl⟩
    have hgr5 : Grw w4 (Go.Sort.grow (w4.drewN nq) osq) := ⟨nq, osq, rfl⟩
    clear j1 j2 j3 j4 j5 j6 hJe hKe
    generalize Go.Sort.grow (w4.drewN nq) osq = w5 at hg5 hgr5 ⊢
    have b3 := e3.below hgr5.below e3.lt
    have b4 := e4.below hgr5.below e4.lt
    have b6 := e6.below hgr5.below e6.lt
    have b0 := e0.below hgr5.below e0.lt
    clear e0 e3 e4 e5 e6 hgw4 hgr5
    have qa0 : ∀ n os, (Go.Sort.grow (w5.drewN n) os).cell? ⟨w.heap.size, 0, none⟩ = some (.int .i64 a.1) := cell_grown b0.lt (by rw [b0.cell]; rfl)
    have qa1 : ∀ n os, (Go.Sort.grow (w5.drewN n) os).cell? ⟨w.heap.size, 1, none⟩ = some (.int .u64 (a.2 : Int)) := cell_grown b0.lt (by rw [b0.cell]; rfl)
    cases pv
    · cases pw
      · rw [show (false || false) = false from rfl] at u1
        refine wp_region_quiet_grown (by assumption) (by kernel_rfl) ?_
        repeat (first | go_big_quiet_skip | (refine q_load (by rfl) 27 _ rfl (w.heap.size + 3) 0 rfl (uqs V) _ b3.lt (uqs_range b3) Try.underlying27 rfl (uqs_info hV) ?_; try simp only [Act.put, List.setIfInBounds_toArray, List.set_cons_zero, List.set_cons_succ]) | (refine q_load (by rfl) 27 _ rfl (w.heap.size + 4) 0 rfl (uqs W) _ b4.lt (uqs_range b4) Try.underlying27 rfl (uqs_info hW) ?_; try simp only [Act.put, List.setIfInBounds_toArray, List.set_cons_zero, List.set_cons_succ]) | (refine q_load (by rfl) 27 _ rfl (w3.heap.size) 0 rfl (uqs J) _ b6.lt (uqs_range b6) Try.underlying27 rfl (uqs_info hJ) ?_; try simp only [Act.put, List.setIfInBounds_toArray, List.set_cons_zero, List.set_cons_succ]) | go_big_quiet_step (first | (go_at_call 20; with_reducible (show Calls _ _ #[Value.agg (uqs J), _] _ _); refine Calls.grown_of (u1 _)) | (go_at_call 20; with_reducible (show Calls _ _ #[Value.agg (uqs V), _] _ _); refine Calls.grown_of (u2 _)) | (go_at_call 20; with_reducible (show Calls _ _ #[Value.agg (uqs W), _] _ _); refine Calls.grown_of (u3 _)) | (go_at_call 8; refine Calls.grown_of (known_any _))))
        refine wpQuiet_nil ?_
        rintro _ ⟨⟨nq, osq⟩, rfl⟩
        go_wp2
        go_ret
        exact ⟨rfl, hg5.trans ⟨nq, osq, rfl⟩⟩
      · rw [show (false || true) = true from rfl] at u1
        refine wp_region_quiet_grown (by assumption) (by kernel_rfl) ?_
        repeat (first | go_big_quiet_skip | (refine q_load (by rfl) 27 _ rfl (w.heap.size + 3) 0 rfl (uqs V) _ b3.lt (uqs_range b3) Try.underlying27 rfl (uqs_info hV) ?_; try simp only [Act.put, List.setIfInBounds_toArray, List.set_cons_zero, List.set_cons_succ]) | (refine q_load (by rfl) 27 _ rfl (w.heap.size + 4) 0 rfl (uqs W) _ b4.lt (uqs_range b4) Try.underlying27 rfl (uqs_info hW) ?_; try simp only [Act.put, List.setIfInBounds_toArray, List.set_cons_zero, List.set_cons_succ]) | (refine q_load (by rfl) 27 _ rfl (w3.heap.size) 0 rfl (uqs J) _ b6.lt (uqs_range b6) Try.underlying27 rfl (uqs_info hJ) ?_; try simp only [Act.put, List.setIfInBounds_toArray, List.set_cons_zero, List.set_cons_succ]) | go_big_quiet_step (first | (go_at_call 20; with_reducible (show Calls _ _ #[Value.agg (uqs J), _] _ _); refine Calls.grown_of (u1 _)) | (go_at_call 20; with_reducible (show Calls _ _ #[Value.agg (uqs V), _] _ _); refine Calls.grown_of (u2 _)) | (go_at_call 20; with_reducible (show Calls _ _ #[Value.agg (uqs W), _] _ _); refine Calls.grown_of (u3 _)) | (go_at_call 8; refine Calls.grown_of (known_any _))))
        refine wpQuiet_nil ?_
        rintro _ ⟨⟨nq, osq⟩, rfl⟩
        go_wp2
        go_ret
        exact ⟨rfl, hg5.trans ⟨nq, osq, rfl⟩⟩
    · rw [show (true || pw) = true by simp] at u1
      refine wp_region_quiet_grown (by assumption) (by kernel_rfl) ?_
      repeat (first | go_big_quiet_skip | (refine q_load (by rfl) 27 _ rfl (w.heap.size + 3) 0 rfl (uqs V) _ b3.lt (uqs_range b3) Try.underlying27 rfl (uqs_info hV) ?_; try simp only [Act.put, List.setIfInBounds_toArray, List.set_cons_zero, List.set_cons_succ]) | (refine q_load (by rfl) 27 _ rfl (w.heap.size + 4) 0 rfl (uqs W) _ b4.lt (uqs_range b4) Try.underlying27 rfl (uqs_info hW) ?_; try simp only [Act.put, List.setIfInBounds_toArray, List.set_cons_zero, List.set_cons_succ]) | (refine q_load (by rfl) 27 _ rfl (w3.heap.size) 0 rfl (uqs J) _ b6.lt (uqs_range b6) Try.underlying27 rfl (uqs_info hJ) ?_; try simp only [Act.put, List.setIfInBounds_toArray, List.set_cons_zero, List.set_cons_succ]) | go_big_quiet_step (first | (go_at_call 20; with_reducible (show Calls _ _ #[Value.agg (uqs J), _] _ _); refine Calls.grown_of (u1 _)) | (go_at_call 20; with_reducible (show Calls _ _ #[Value.agg (uqs V), _] _ _); refine Calls.grown_of (u2 _)) | (go_at_call 20; with_reducible (show Calls _ _ #[Value.agg (uqs W), _] _ _); refine Calls.grown_of (u3 _)) | (go_at_call 8; refine Calls.grown_of (known_any _))))
      refine wpQuiet_nil ?_
      rintro _ ⟨⟨nq, osq⟩, rfl⟩
      go_wp2
      go_ret
      exact ⟨rfl, hg5.trans ⟨nq, osq, rfl⟩⟩
    
end Go.Proofs.Ytigepbklpiilpaa

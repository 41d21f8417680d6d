/-
  EventOrder's law.
-/
import Derived.Test.YtigepbklpiilpaaEvKn
import Derived.Test.YtigepbklpiilpaaEvRef
import Derived.Test.YtigepbklpiilpaaEvLawDots
namespace Go.Proofs.Ytigepbklpiilpaa
open Go.RowKit
open CtxM
set_option linter.unusedVariables false
set_option linter.unusedSimpArgs false
set_option maxRecDepth 20000

theorem befB_iff {x y : Ev} : befB x y = true ↔ evB x = true ∧ evB y = true ∧ Und y.V x.id := by
  unfold befB
  rw [Bool.and_eq_true, Bool.and_eq_true, decide_eq_true_iff]
theorem at_max {A B : List Nat} (hA : A.length = 16) (h : maxV A B = A) {d : Dt} (hM : May d) : at_ B d.1 ≤ at_ A d.1 := by
  unfold at_
  exact (maxV_eq_iff A B hA).1 h _ (by have := hM.1; have := hM.2.1; omega)
theorem bef_trans {x y z : Ev} (hz : z.V.length = 16) (p : befB x y = true) (q : befB y z = true) (r : maxV z.V y.V = z.V) : befB x z = true := by
  obtain ⟨p1, p2, p3⟩ := befB_iff.1 p
  obtain ⟨q1, q2, q3⟩ := befB_iff.1 q
  exact befB_iff.2 ⟨p1, q2, p3.1, Nat.le_trans p3.2 (at_max hz r p3.1)⟩
theorem bef_no {x y : Ev} (hx : x.V.length = 16) (p : befB x y = true) : ¬ maxV x.V y.V = x.V := by
  intro r
  obtain ⟨p1, p2, p3⟩ := befB_iff.1 p
  have h1 := at_max hx r p3.1
  have h2 := (evB_past p1).2.1
  have h3 := p3.2
  omega
theorem blk3 (w : World) (t0 t1 t2 : TypeId) (c0 c1 c2 : Array Value) :
    Blk (((w.alloc (.cells c0 t0)).alloc (.cells c1 t1)).alloc (.cells c2 t2)) w.heap.size t0 c0 ∧ Blk (((w.alloc (.cells c0 t0)).alloc (.cells c1 t1)).alloc (.cells c2 t2)) (w.heap.size + 1) t1 c1 ∧ Blk (((w.alloc (.cells c0 t0)).alloc (.cells c1 t1)).alloc (.cells c2 t2)) (w.heap.size + 2) t2 c2 := by
  have e : ∀ (k : Nat) (W : World) (t : TypeId) (c : Array Value), W.heap.size = w.heap.size + k → Blk (W.alloc (.cells c t)) (w.heap.size + k) t c := fun k W t c h => by have := Blk.new W t c; rwa [h] at this
  exact ⟨((Blk.new w t0 c0).alloc _).alloc _, (e 1 _ _ _ (by simp)).alloc _, e 2 _ _ _ (by simp)⟩

set_option maxHeartbeats 8000000 in
theorem eorder_any (x y z : Ev) (w : World) (hx : EvOk w x) (hy : EvOk w y) (hz : EvOk w z) :
    Calls Try.prog 4 #[.agg (evc x), .agg (evc y), .agg (evc z)] w fun e w' => e = .returned (.bool true) ∧ Grw w w' := by
  have hfo : Try.prog.follows .mixedOrders = true := by kernel_rfl
  have bxy := fun U (h : EvOk U x) (k : EvOk U y) => ebefore_any x y U h k
  have byz := fun U (h : EvOk U y) (k : EvOk U z) => ebefore_any y z U h k
  have bxz := fun U (h : EvOk U x) (k : EvOk U z) => ebefore_any x z U h k
  have byx := fun U (h : EvOk U y) (k : EvOk U x) => ebefore_any y x U h k
  have lx := hx.len
  have ly := hy.len
  have lz := hz.len
  have jzy := fun U => ejoin_any z.V y.V U lz ly
  have jxy := fun U => ejoin_any x.V y.V U lx ly
  have jyx := fun U => ejoin_any y.V x.V U ly lx
  have hzy := fun U => vec_eq (maxV z.V y.V) z.V (maxV_length _ _) lz U
  have hxy := fun U => vec_eq (maxV x.V y.V) x.V (maxV_length _ _) lx U
  have hyx := fun U => vec_eq (maxV y.V x.V) y.V (maxV_length _ _) ly U
  have t1 := @bef_trans x y z lz
  have t2 := @bef_no x y lx
  obtain ⟨p, hp⟩ : ∃ p, p = befB x y := ⟨_, rfl⟩
  obtain ⟨q, hq⟩ : ∃ p, p = befB y z := ⟨_, rfl⟩
  obtain ⟨s, hs⟩ : ∃ p, p = befB x z := ⟨_, rfl⟩
  obtain ⟨q2, hq2⟩ : ∃ p, p = befB y x := ⟨_, rfl⟩
  obtain ⟨r, hr⟩ : ∃ p, p = decide (maxV z.V y.V = z.V) := ⟨_, rfl⟩
  obtain ⟨r1, hr1⟩ : ∃ p, p = decide (maxV x.V y.V = x.V) := ⟨_, rfl⟩
  obtain ⟨r2, hr2⟩ : ∃ p, p = decide (maxV y.V x.V = y.V) := ⟨_, rfl⟩
  rw [← hp] at bxy t1 t2
  rw [← hq] at byz t1
  rw [← hs] at bxz t1
  rw [← hq2] at byx
  rw [← hr] at hzy
  rw [← hr1] at hxy
  rw [← hr2] at hyx
  have T1 : p = true → q = true → r = true → s = true := fun a b c => t1 a b (by rw [hr] at c; exact of_decide_eq_true c)
  have T2 : p = true → r1 = false := fun a => by rw [hr1]; exact decide_eq_false (t2 a)
  clear t1 t2 hp hq hs hq2 hr hr1 hr2
  generalize maxV z.V y.V = mzy at jzy hzy
  generalize maxV x.V y.V = mxy at jxy hxy
  generalize maxV y.V x.V = myx at jyx hyx
  have TT1 := Lib.hid T1
  have TT2 := Lib.hid T2
  clear T1 T2
  go_enter Try.func4, Try.ntmps4
  go_upto_region 1 with fail
  obtain ⟨b0, b1, b2⟩ := blk3 w 30 30 30 (evc x) (evc y) (evc z)
  have h0 : Grw w (((w.alloc (.cells (evc x) 30)).alloc (.cells (evc y) 30)).alloc (.cells (evc z) 30)) := (((Grw.refl w).alloc _).alloc _).alloc _
  generalize (((w.alloc (.cells (evc x) 30)).alloc (.cells (evc y) 30)).alloc (.cells (evc z) 30)) = w1 at b0 b1 b2 h0 ⊢
  have K2 : ∀ W, Grw w1 W → Blk W w.heap.size 30 (evc x) ∧ Blk W (w.heap.size + 1) 30 (evc y) ∧ Blk W (w.heap.size + 2) 30 (evc z) := fun W h => ⟨b0.below h.below b0.lt, b1.below h.below b1.lt, b2.below h.below b2.lt⟩
  have Ex := hx.below h0.below
  have Ey := hy.below h0.below
  have Ez := hz.below h0.below
  clear b0 b1 b2 hx hy hz
  have j1 := Grw.refl w1
  have Bx1 := (K2 _ j1).1
  have By1 := (K2 _ j1).2.1
  have Bz1 := (K2 _ j1).2.2
  go_wp2_with (first | (refine wpList_load_mid_g (by rfl) 30 _ rfl (w.heap.size) 0 rfl (evc x) _ (ev_all Bx1) Try.underlying30 rfl (evc_info lx) ?_; try simp only [Act.put, List.setIfInBounds_toArray, List.set_cons_zero, List.set_cons_succ]))
  refine (much_any x _ Ex).mono ?_
  rintro e w2 ⟨b, rfl, j2, _⟩
  cases b
  · have Bx2 := (K2 _ j2).1
    have By2 := (K2 _ j2).2.1
    have Bz2 := (K2 _ j2).2.2
    go_wp2_with (first | (refine wpList_load_mid_g (by rfl) 30 _ rfl (w.heap.size + 1) 0 rfl (evc y) _ (ev_all By2) Try.underlying30 rfl (evc_info ly) ?_; try simp only [Act.put, List.setIfInBounds_toArray, List.set_cons_zero, List.set_cons_succ]))
    refine (much_any y _ (Ey.below j2.below)).mono ?_
    rintro e w3 ⟨b, rfl, k3, _⟩
    have j3 := j2.trans k3
    cases b
    · have Bx3 := (K2 _ j3).1
      have By3 := (K2 _ j3).2.1
      have Bz3 := (K2 _ j3).2.2
      go_wp2_with (first | (refine wpList_load_mid_g (by rfl) 30 _ rfl (w.heap.size + 2) 0 rfl (evc z) _ (ev_all Bz3) Try.underlying30 rfl (evc_info lz) ?_; try simp only [Act.put, List.setIfInBounds_toArray, List.set_cons_zero, List.set_cons_succ]))
      refine (much_any z _ (Ez.below j3.below)).mono ?_
      rintro e w4 ⟨b, rfl, k4, _⟩
      have j4 := j3.trans k4
      cases b
      · have Bx4 := (K2 _ j4).1
        have By4 := (K2 _ j4).2.1
        have Bz4 := (K2 _ j4).2.2
        have ex4 := Ex.below j4.below
        have ey4 := Ey.below j4.below
        have ez4 := Ez.below j4.below
        go_upto_region 3 with fail
        cases p
        · have cxy4 := fun n os => bxy (Go.Sort.grow (w4.drewN n) os) (ex4.below (Grw.below ⟨n, os, rfl⟩)) (ey4.below (Grw.below ⟨n, os, rfl⟩))
          have cyz4 := fun n os => byz (Go.Sort.grow (w4.drewN n) os) (ey4.below (Grw.below ⟨n, os, rfl⟩)) (ez4.below (Grw.below ⟨n, os, rfl⟩))
          have cxz4 := fun n os => bxz (Go.Sort.grow (w4.drewN n) os) (ex4.below (Grw.below ⟨n, os, rfl⟩)) (ez4.below (Grw.below ⟨n, os, rfl⟩))
          refine wp_region_quiet_grown (by assumption) (by kernel_rfl) ?_
          repeat (first | go_big_quiet_skip | (refine q_load (by rfl) 30 _ rfl (w.heap.size) 0 rfl (evc x) _ Bx4.lt (ev_all Bx4) Try.underlying30 rfl (evc_info lx) ?_; try simp only [Act.put, List.setIfInBounds_toArray, List.set_cons_zero, List.set_cons_succ]) | (refine q_load (by rfl) 30 _ rfl (w.heap.size + 1) 0 rfl (evc y) _ By4.lt (ev_all By4) Try.underlying30 rfl (evc_info ly) ?_; try simp only [Act.put, List.setIfInBounds_toArray, List.set_cons_zero, List.set_cons_succ]) | (refine q_load (by rfl) 30 _ rfl (w.heap.size + 2) 0 rfl (evc z) _ Bz4.lt (ev_all Bz4) Try.underlying30 rfl (evc_info lz) ?_; try simp only [Act.put, List.setIfInBounds_toArray, List.set_cons_zero, List.set_cons_succ]) | (refine q_load (by rfl) 27 _ rfl (w.heap.size + 1) 4 rfl (uqs y.V) _ By4.lt (ev_range By4 ly) Try.underlying27 rfl (uqs_info ly) ?_; try simp only [Act.put, List.setIfInBounds_toArray, List.set_cons_zero, List.set_cons_succ]) | (refine q_load (by rfl) 27 _ rfl (w.heap.size + 2) 4 rfl (uqs z.V) _ Bz4.lt (ev_range Bz4 lz) Try.underlying27 rfl (uqs_info lz) ?_; try simp only [Act.put, List.setIfInBounds_toArray, List.set_cons_zero, List.set_cons_succ]) | go_big_quiet_step (first | (go_at_call 17; with_reducible (show Calls _ _ #[Value.agg (evc x), Value.agg (evc y)] _ _); refine Calls.grown_of (cxy4 _ _)) | (go_at_call 17; with_reducible (show Calls _ _ #[Value.agg (evc y), Value.agg (evc z)] _ _); refine Calls.grown_of (cyz4 _ _)) | (go_at_call 18; with_reducible (show Calls _ _ #[Value.agg (uqs z.V), Value.agg (uqs y.V)] _ _); refine Calls.grown_of (jzy _)) | (go_at_call 17; with_reducible (show Calls _ _ #[Value.agg (evc x), Value.agg (evc z)] _ _); refine Calls.grown_of (cxz4 _ _))))
          refine wpQuiet_nil ?_
          rintro _ ⟨⟨nq, osq⟩, rfl⟩
          go_upto_region 5 with fail
          have j5 := j4.trans ⟨nq, osq, rfl⟩
          generalize Go.Sort.grow (w4.drewN nq) osq = w5 at j5 ⊢
          have Bx5 := (K2 _ j5).1
          have By5 := (K2 _ j5).2.1
          have Bz5 := (K2 _ j5).2.2
          have ex5 := Ex.below j5.below
          have ey5 := Ey.below j5.below
          have ez5 := Ez.below j5.below
          have cxy5 := fun n os => bxy (Go.Sort.grow (w5.drewN n) os) (ex5.below (Grw.below ⟨n, os, rfl⟩)) (ey5.below (Grw.below ⟨n, os, rfl⟩))
          have cyx5 := fun n os => byx (Go.Sort.grow (w5.drewN n) os) (ey5.below (Grw.below ⟨n, os, rfl⟩)) (ex5.below (Grw.below ⟨n, os, rfl⟩))
          refine wp_region_quiet_grown (by assumption) (by kernel_rfl) ?_
          repeat (first | go_big_quiet_skip | (refine q_load (by rfl) 30 _ rfl (w.heap.size) 0 rfl (evc x) _ Bx5.lt (ev_all Bx5) Try.underlying30 rfl (evc_info lx) ?_; try simp only [Act.put, List.setIfInBounds_toArray, List.set_cons_zero, List.set_cons_succ]) | (refine q_load (by rfl) 30 _ rfl (w.heap.size + 1) 0 rfl (evc y) _ By5.lt (ev_all By5) Try.underlying30 rfl (evc_info ly) ?_; try simp only [Act.put, List.setIfInBounds_toArray, List.set_cons_zero, List.set_cons_succ]) | (refine q_load (by rfl) 27 _ rfl (w.heap.size) 4 rfl (uqs x.V) _ Bx5.lt (ev_range Bx5 lx) Try.underlying27 rfl (uqs_info lx) ?_; try simp only [Act.put, List.setIfInBounds_toArray, List.set_cons_zero, List.set_cons_succ]) | (refine q_load (by rfl) 27 _ rfl (w.heap.size + 1) 4 rfl (uqs y.V) _ By5.lt (ev_range By5 ly) Try.underlying27 rfl (uqs_info ly) ?_; try simp only [Act.put, List.setIfInBounds_toArray, List.set_cons_zero, List.set_cons_succ]) | go_big_quiet_step (first | (go_at_call 17; with_reducible (show Calls _ _ #[Value.agg (evc x), Value.agg (evc y)] _ _); refine Calls.grown_of (cxy5 _ _)) | (go_at_call 17; with_reducible (show Calls _ _ #[Value.agg (evc y), Value.agg (evc x)] _ _); refine Calls.grown_of (cyx5 _ _)) | (go_at_call 18; with_reducible (show Calls _ _ #[Value.agg (uqs x.V), Value.agg (uqs y.V)] _ _); refine Calls.grown_of (jxy _)) | (go_at_call 18; with_reducible (show Calls _ _ #[Value.agg (uqs y.V), Value.agg (uqs x.V)] _ _); refine Calls.grown_of (jyx _))))
          refine wpQuiet_nil ?_
          rintro _ ⟨⟨nq, osq⟩, rfl⟩
          go_wp2_with (go_at_call 8; refine (known_any _).mono ?_; rintro e w6 ⟨rfl, hg6⟩)
          go_ret
          exact ⟨rfl, h0.trans ((j5.trans ⟨nq, osq, rfl⟩).trans hg6)⟩
        · have hr1 := TT2.out rfl
          subst hr1
          cases q
          · have cxy4 := fun n os => bxy (Go.Sort.grow (w4.drewN n) os) (ex4.below (Grw.below ⟨n, os, rfl⟩)) (ey4.below (Grw.below ⟨n, os, rfl⟩))
            have cyz4 := fun n os => byz (Go.Sort.grow (w4.drewN n) os) (ey4.below (Grw.below ⟨n, os, rfl⟩)) (ez4.below (Grw.below ⟨n, os, rfl⟩))
            have cxz4 := fun n os => bxz (Go.Sort.grow (w4.drewN n) os) (ex4.below (Grw.below ⟨n, os, rfl⟩)) (ez4.below (Grw.below ⟨n, os, rfl⟩))
            refine wp_region_quiet_grown (by assumption) (by kernel_rfl) ?_
            repeat (first | go_big_quiet_skip | (refine q_load (by rfl) 30 _ rfl (w.heap.size) 0 rfl (evc x) _ Bx4.lt (ev_all Bx4) Try.underlying30 rfl (evc_info lx) ?_; try simp only [Act.put, List.setIfInBounds_toArray, List.set_cons_zero, List.set_cons_succ]) | (refine q_load (by rfl) 30 _ rfl (w.heap.size + 1) 0 rfl (evc y) _ By4.lt (ev_all By4) Try.underlying30 rfl (evc_info ly) ?_; try simp only [Act.put, List.setIfInBounds_toArray, List.set_cons_zero, List.set_cons_succ]) | (refine q_load (by rfl) 30 _ rfl (w.heap.size + 2) 0 rfl (evc z) _ Bz4.lt (ev_all Bz4) Try.underlying30 rfl (evc_info lz) ?_; try simp only [Act.put, List.setIfInBounds_toArray, List.set_cons_zero, List.set_cons_succ]) | (refine q_load (by rfl) 27 _ rfl (w.heap.size + 1) 4 rfl (uqs y.V) _ By4.lt (ev_range By4 ly) Try.underlying27 rfl (uqs_info ly) ?_; try simp only [Act.put, List.setIfInBounds_toArray, List.set_cons_zero, List.set_cons_succ]) | (refine q_load (by rfl) 27 _ rfl (w.heap.size + 2) 4 rfl (uqs z.V) _ Bz4.lt (ev_range Bz4 lz) Try.underlying27 rfl (uqs_info lz) ?_; try simp only [Act.put, List.setIfInBounds_toArray, List.set_cons_zero, List.set_cons_succ]) | go_big_quiet_step (first | (go_at_call 17; with_reducible (show Calls _ _ #[Value.agg (evc x), Value.agg (evc y)] _ _); refine Calls.grown_of (cxy4 _ _)) | (go_at_call 17; with_reducible (show Calls _ _ #[Value.agg (evc y), Value.agg (evc z)] _ _); refine Calls.grown_of (cyz4 _ _)) | (go_at_call 18; with_reducible (show Calls _ _ #[Value.agg (uqs z.V), Value.agg (uqs y.V)] _ _); refine Calls.grown_of (jzy _)) | (go_at_call 17; with_reducible (show Calls _ _ #[Value.agg (evc x), Value.agg (evc z)] _ _); refine Calls.grown_of (cxz4 _ _))))
            refine wpQuiet_nil ?_
            rintro _ ⟨⟨nq, osq⟩, rfl⟩
            go_upto_region 5 with fail
            have j5 := j4.trans ⟨nq, osq, rfl⟩
            generalize Go.Sort.grow (w4.drewN nq) osq = w5 at j5 ⊢
            have Bx5 := (K2 _ j5).1
            have By5 := (K2 _ j5).2.1
            have Bz5 := (K2 _ j5).2.2
            have ex5 := Ex.below j5.below
            have ey5 := Ey.below j5.below
            have ez5 := Ez.below j5.below
            have cxy5 := fun n os => bxy (Go.Sort.grow (w5.drewN n) os) (ex5.below (Grw.below ⟨n, os, rfl⟩)) (ey5.below (Grw.below ⟨n, os, rfl⟩))
            have cyx5 := fun n os => byx (Go.Sort.grow (w5.drewN n) os) (ey5.below (Grw.below ⟨n, os, rfl⟩)) (ex5.below (Grw.below ⟨n, os, rfl⟩))
            cases q2
            · refine wp_region_quiet_grown (by assumption) (by kernel_rfl) ?_
              repeat (first | go_big_quiet_skip | (refine q_load (by rfl) 30 _ rfl (w.heap.size) 0 rfl (evc x) _ Bx5.lt (ev_all Bx5) Try.underlying30 rfl (evc_info lx) ?_; try simp only [Act.put, List.setIfInBounds_toArray, List.set_cons_zero, List.set_cons_succ]) | (refine q_load (by rfl) 30 _ rfl (w.heap.size + 1) 0 rfl (evc y) _ By5.lt (ev_all By5) Try.underlying30 rfl (evc_info ly) ?_; try simp only [Act.put, List.setIfInBounds_toArray, List.set_cons_zero, List.set_cons_succ]) | (refine q_load (by rfl) 27 _ rfl (w.heap.size) 4 rfl (uqs x.V) _ Bx5.lt (ev_range Bx5 lx) Try.underlying27 rfl (uqs_info lx) ?_; try simp only [Act.put, List.setIfInBounds_toArray, List.set_cons_zero, List.set_cons_succ]) | (refine q_load (by rfl) 27 _ rfl (w.heap.size + 1) 4 rfl (uqs y.V) _ By5.lt (ev_range By5 ly) Try.underlying27 rfl (uqs_info ly) ?_; try simp only [Act.put, List.setIfInBounds_toArray, List.set_cons_zero, List.set_cons_succ]) | go_big_quiet_step (first | (go_at_call 17; with_reducible (show Calls _ _ #[Value.agg (evc x), Value.agg (evc y)] _ _); refine Calls.grown_of (cxy5 _ _)) | (go_at_call 17; with_reducible (show Calls _ _ #[Value.agg (evc y), Value.agg (evc x)] _ _); refine Calls.grown_of (cyx5 _ _)) | (go_at_call 18; with_reducible (show Calls _ _ #[Value.agg (uqs x.V), Value.agg (uqs y.V)] _ _); refine Calls.grown_of (jxy _)) | (go_at_call 18; with_reducible (show Calls _ _ #[Value.agg (uqs y.V), Value.agg (uqs x.V)] _ _); refine Calls.grown_of (jyx _))))
              refine wpQuiet_nil ?_
              rintro _ ⟨⟨nq, osq⟩, rfl⟩
              go_wp2_with (go_at_call 8; refine (known_any _).mono ?_; rintro e w6 ⟨rfl, hg6⟩)
              go_ret
              exact ⟨rfl, h0.trans ((j5.trans ⟨nq, osq, rfl⟩).trans hg6)⟩
            · refine wp_region_quiet_grown (by assumption) (by kernel_rfl) ?_
              repeat (first | go_big_quiet_skip | (refine q_load (by rfl) 30 _ rfl (w.heap.size) 0 rfl (evc x) _ Bx5.lt (ev_all Bx5) Try.underlying30 rfl (evc_info lx) ?_; try simp only [Act.put, List.setIfInBounds_toArray, List.set_cons_zero, List.set_cons_succ]) | (refine q_load (by rfl) 30 _ rfl (w.heap.size + 1) 0 rfl (evc y) _ By5.lt (ev_all By5) Try.underlying30 rfl (evc_info ly) ?_; try simp only [Act.put, List.setIfInBounds_toArray, List.set_cons_zero, List.set_cons_succ]) | (refine q_load (by rfl) 27 _ rfl (w.heap.size) 4 rfl (uqs x.V) _ Bx5.lt (ev_range Bx5 lx) Try.underlying27 rfl (uqs_info lx) ?_; try simp only [Act.put, List.setIfInBounds_toArray, List.set_cons_zero, List.set_cons_succ]) | (refine q_load (by rfl) 27 _ rfl (w.heap.size + 1) 4 rfl (uqs y.V) _ By5.lt (ev_range By5 ly) Try.underlying27 rfl (uqs_info ly) ?_; try simp only [Act.put, List.setIfInBounds_toArray, List.set_cons_zero, List.set_cons_succ]) | go_big_quiet_step (first | (go_at_call 17; with_reducible (show Calls _ _ #[Value.agg (evc x), Value.agg (evc y)] _ _); refine Calls.grown_of (cxy5 _ _)) | (go_at_call 17; with_reducible (show Calls _ _ #[Value.agg (evc y), Value.agg (evc x)] _ _); refine Calls.grown_of (cyx5 _ _)) | (go_at_call 18; with_reducible (show Calls _ _ #[Value.agg (uqs x.V), Value.agg (uqs y.V)] _ _); refine Calls.grown_of (jxy _)) | (go_at_call 18; with_reducible (show Calls _ _ #[Value.agg (uqs y.V), Value.agg (uqs x.V)] _ _); refine Calls.grown_of (jyx _))))
              refine wpQuiet_nil ?_
              rintro _ ⟨⟨nq, osq⟩, rfl⟩
              go_wp2_with (go_at_call 8; refine (known_any _).mono ?_; rintro e w6 ⟨rfl, hg6⟩)
              go_ret
              exact ⟨rfl, h0.trans ((j5.trans ⟨nq, osq, rfl⟩).trans hg6)⟩
          · cases r
            · have cxy4 := fun n os => bxy (Go.Sort.grow (w4.drewN n) os) (ex4.below (Grw.below ⟨n, os, rfl⟩)) (ey4.below (Grw.below ⟨n, os, rfl⟩))
              have cyz4 := fun n os => byz (Go.Sort.grow (w4.drewN n) os) (ey4.below (Grw.below ⟨n, os, rfl⟩)) (ez4.below (Grw.below ⟨n, os, rfl⟩))
              have cxz4 := fun n os => bxz (Go.Sort.grow (w4.drewN n) os) (ex4.below (Grw.below ⟨n, os, rfl⟩)) (ez4.below (Grw.below ⟨n, os, rfl⟩))
              refine wp_region_quiet_grown (by assumption) (by kernel_rfl) ?_
              repeat (first | go_big_quiet_skip | (refine q_load (by rfl) 30 _ rfl (w.heap.size) 0 rfl (evc x) _ Bx4.lt (ev_all Bx4) Try.underlying30 rfl (evc_info lx) ?_; try simp only [Act.put, List.setIfInBounds_toArray, List.set_cons_zero, List.set_cons_succ]) | (refine q_load (by rfl) 30 _ rfl (w.heap.size + 1) 0 rfl (evc y) _ By4.lt (ev_all By4) Try.underlying30 rfl (evc_info ly) ?_; try simp only [Act.put, List.setIfInBounds_toArray, List.set_cons_zero, List.set_cons_succ]) | (refine q_load (by rfl) 30 _ rfl (w.heap.size + 2) 0 rfl (evc z) _ Bz4.lt (ev_all Bz4) Try.underlying30 rfl (evc_info lz) ?_; try simp only [Act.put, List.setIfInBounds_toArray, List.set_cons_zero, List.set_cons_succ]) | (refine q_load (by rfl) 27 _ rfl (w.heap.size + 1) 4 rfl (uqs y.V) _ By4.lt (ev_range By4 ly) Try.underlying27 rfl (uqs_info ly) ?_; try simp only [Act.put, List.setIfInBounds_toArray, List.set_cons_zero, List.set_cons_succ]) | (refine q_load (by rfl) 27 _ rfl (w.heap.size + 2) 4 rfl (uqs z.V) _ Bz4.lt (ev_range Bz4 lz) Try.underlying27 rfl (uqs_info lz) ?_; try simp only [Act.put, List.setIfInBounds_toArray, List.set_cons_zero, List.set_cons_succ]) | go_big_quiet_step (first | (go_at_call 17; with_reducible (show Calls _ _ #[Value.agg (evc x), Value.agg (evc y)] _ _); refine Calls.grown_of (cxy4 _ _)) | (go_at_call 17; with_reducible (show Calls _ _ #[Value.agg (evc y), Value.agg (evc z)] _ _); refine Calls.grown_of (cyz4 _ _)) | (go_at_call 18; with_reducible (show Calls _ _ #[Value.agg (uqs z.V), Value.agg (uqs y.V)] _ _); refine Calls.grown_of (jzy _)) | (go_at_call 17; with_reducible (show Calls _ _ #[Value.agg (evc x), Value.agg (evc z)] _ _); refine Calls.grown_of (cxz4 _ _))))
              refine wpQuiet_nil ?_
              rintro _ ⟨⟨nq, osq⟩, rfl⟩
              go_upto_region 5 with fail
              have j5 := j4.trans ⟨nq, osq, rfl⟩
              generalize Go.Sort.grow (w4.drewN nq) osq = w5 at j5 ⊢
              have Bx5 := (K2 _ j5).1
              have By5 := (K2 _ j5).2.1
              have Bz5 := (K2 _ j5).2.2
              have ex5 := Ex.below j5.below
              have ey5 := Ey.below j5.below
              have ez5 := Ez.below j5.below
              have cxy5 := fun n os => bxy (Go.Sort.grow (w5.drewN n) os) (ex5.below (Grw.below ⟨n, os, rfl⟩)) (ey5.below (Grw.below ⟨n, os, rfl⟩))
              have cyx5 := fun n os => byx (Go.Sort.grow (w5.drewN n) os) (ey5.below (Grw.below ⟨n, os, rfl⟩)) (ex5.below (Grw.below ⟨n, os, rfl⟩))
              cases q2
              · refine wp_region_quiet_grown (by assumption) (by kernel_rfl) ?_
                repeat (first | go_big_quiet_skip | (refine q_load (by rfl) 30 _ rfl (w.heap.size) 0 rfl (evc x) _ Bx5.lt (ev_all Bx5) Try.underlying30 rfl (evc_info lx) ?_; try simp only [Act.put, List.setIfInBounds_toArray, List.set_cons_zero, List.set_cons_succ]) | (refine q_load (by rfl) 30 _ rfl (w.heap.size + 1) 0 rfl (evc y) _ By5.lt (ev_all By5) Try.underlying30 rfl (evc_info ly) ?_; try simp only [Act.put, List.setIfInBounds_toArray, List.set_cons_zero, List.set_cons_succ]) | (refine q_load (by rfl) 27 _ rfl (w.heap.size) 4 rfl (uqs x.V) _ Bx5.lt (ev_range Bx5 lx) Try.underlying27 rfl (uqs_info lx) ?_; try simp only [Act.put, List.setIfInBounds_toArray, List.set_cons_zero, List.set_cons_succ]) | (refine q_load (by rfl) 27 _ rfl (w.heap.size + 1) 4 rfl (uqs y.V) _ By5.lt (ev_range By5 ly) Try.underlying27 rfl (uqs_info ly) ?_; try simp only [Act.put, List.setIfInBounds_toArray, List.set_cons_zero, List.set_cons_succ]) | go_big_quiet_step (first | (go_at_call 17; with_reducible (show Calls _ _ #[Value.agg (evc x), Value.agg (evc y)] _ _); refine Calls.grown_of (cxy5 _ _)) | (go_at_call 17; with_reducible (show Calls _ _ #[Value.agg (evc y), Value.agg (evc x)] _ _); refine Calls.grown_of (cyx5 _ _)) | (go_at_call 18; with_reducible (show Calls _ _ #[Value.agg (uqs x.V), Value.agg (uqs y.V)] _ _); refine Calls.grown_of (jxy _)) | (go_at_call 18; with_reducible (show Calls _ _ #[Value.agg (uqs y.V), Value.agg (uqs x.V)] _ _); refine Calls.grown_of (jyx _))))
                refine wpQuiet_nil ?_
                rintro _ ⟨⟨nq, osq⟩, rfl⟩
                go_wp2_with (go_at_call 8; refine (known_any _).mono ?_; rintro e w6 ⟨rfl, hg6⟩)
                go_ret
                exact ⟨rfl, h0.trans ((j5.trans ⟨nq, osq, rfl⟩).trans hg6)⟩
              · refine wp_region_quiet_grown (by assumption) (by kernel_rfl) ?_
                repeat (first | go_big_quiet_skip | (refine q_load (by rfl) 30 _ rfl (w.heap.size) 0 rfl (evc x) _ Bx5.lt (ev_all Bx5) Try.underlying30 rfl (evc_info lx) ?_; try simp only [Act.put, List.setIfInBounds_toArray, List.set_cons_zero, List.set_cons_succ]) | (refine q_load (by rfl) 30 _ rfl (w.heap.size + 1) 0 rfl (evc y) _ By5.lt (ev_all By5) Try.underlying30 rfl (evc_info ly) ?_; try simp only [Act.put, List.setIfInBounds_toArray, List.set_cons_zero, List.set_cons_succ]) | (refine q_load (by rfl) 27 _ rfl (w.heap.size) 4 rfl (uqs x.V) _ Bx5.lt (ev_range Bx5 lx) Try.underlying27 rfl (uqs_info lx) ?_; try simp only [Act.put, List.setIfInBounds_toArray, List.set_cons_zero, List.set_cons_succ]) | (refine q_load (by rfl) 27 _ rfl (w.heap.size + 1) 4 rfl (uqs y.V) _ By5.lt (ev_range By5 ly) Try.underlying27 rfl (uqs_info ly) ?_; try simp only [Act.put, List.setIfInBounds_toArray, List.set_cons_zero, List.set_cons_succ]) | go_big_quiet_step (first | (go_at_call 17; with_reducible (show Calls _ _ #[Value.agg (evc x), Value.agg (evc y)] _ _); refine Calls.grown_of (cxy5 _ _)) | (go_at_call 17; with_reducible (show Calls _ _ #[Value.agg (evc y), Value.agg (evc x)] _ _); refine Calls.grown_of (cyx5 _ _)) | (go_at_call 18; with_reducible (show Calls _ _ #[Value.agg (uqs x.V), Value.agg (uqs y.V)] _ _); refine Calls.grown_of (jxy _)) | (go_at_call 18; with_reducible (show Calls _ _ #[Value.agg (uqs y.V), Value.agg (uqs x.V)] _ _); refine Calls.grown_of (jyx _))))
                refine wpQuiet_nil ?_
                rintro _ ⟨⟨nq, osq⟩, rfl⟩
                go_wp2_with (go_at_call 8; refine (known_any _).mono ?_; rintro e w6 ⟨rfl, hg6⟩)
                go_ret
                exact ⟨rfl, h0.trans ((j5.trans ⟨nq, osq, rfl⟩).trans hg6)⟩
            · have hs := TT1.out rfl rfl rfl
              subst hs
              have cxy4 := fun n os => bxy (Go.Sort.grow (w4.drewN n) os) (ex4.below (Grw.below ⟨n, os, rfl⟩)) (ey4.below (Grw.below ⟨n, os, rfl⟩))
              have cyz4 := fun n os => byz (Go.Sort.grow (w4.drewN n) os) (ey4.below (Grw.below ⟨n, os, rfl⟩)) (ez4.below (Grw.below ⟨n, os, rfl⟩))
              have cxz4 := fun n os => bxz (Go.Sort.grow (w4.drewN n) os) (ex4.below (Grw.below ⟨n, os, rfl⟩)) (ez4.below (Grw.below ⟨n, os, rfl⟩))
              refine wp_region_quiet_grown (by assumption) (by kernel_rfl) ?_
              repeat (first | go_big_quiet_skip | (refine q_load (by rfl) 30 _ rfl (w.heap.size) 0 rfl (evc x) _ Bx4.lt (ev_all Bx4) Try.underlying30 rfl (evc_info lx) ?_; try simp only [Act.put, List.setIfInBounds_toArray, List.set_cons_zero, List.set_cons_succ]) | (refine q_load (by rfl) 30 _ rfl (w.heap.size + 1) 0 rfl (evc y) _ By4.lt (ev_all By4) Try.underlying30 rfl (evc_info ly) ?_; try simp only [Act.put, List.setIfInBounds_toArray, List.set_cons_zero, List.set_cons_succ]) | (refine q_load (by rfl) 30 _ rfl (w.heap.size + 2) 0 rfl (evc z) _ Bz4.lt (ev_all Bz4) Try.underlying30 rfl (evc_info lz) ?_; try simp only [Act.put, List.setIfInBounds_toArray, List.set_cons_zero, List.set_cons_succ]) | (refine q_load (by rfl) 27 _ rfl (w.heap.size + 1) 4 rfl (uqs y.V) _ By4.lt (ev_range By4 ly) Try.underlying27 rfl (uqs_info ly) ?_; try simp only [Act.put, List.setIfInBounds_toArray, List.set_cons_zero, List.set_cons_succ]) | (refine q_load (by rfl) 27 _ rfl (w.heap.size + 2) 4 rfl (uqs z.V) _ Bz4.lt (ev_range Bz4 lz) Try.underlying27 rfl (uqs_info lz) ?_; try simp only [Act.put, List.setIfInBounds_toArray, List.set_cons_zero, List.set_cons_succ]) | go_big_quiet_step (first | (go_at_call 17; with_reducible (show Calls _ _ #[Value.agg (evc x), Value.agg (evc y)] _ _); refine Calls.grown_of (cxy4 _ _)) | (go_at_call 17; with_reducible (show Calls _ _ #[Value.agg (evc y), Value.agg (evc z)] _ _); refine Calls.grown_of (cyz4 _ _)) | (go_at_call 18; with_reducible (show Calls _ _ #[Value.agg (uqs z.V), Value.agg (uqs y.V)] _ _); refine Calls.grown_of (jzy _)) | (go_at_call 17; with_reducible (show Calls _ _ #[Value.agg (evc x), Value.agg (evc z)] _ _); refine Calls.grown_of (cxz4 _ _))))
              refine wpQuiet_nil ?_
              rintro _ ⟨⟨nq, osq⟩, rfl⟩
              go_upto_region 5 with fail
              have j5 := j4.trans ⟨nq, osq, rfl⟩
              generalize Go.Sort.grow (w4.drewN nq) osq = w5 at j5 ⊢
              have Bx5 := (K2 _ j5).1
              have By5 := (K2 _ j5).2.1
              have Bz5 := (K2 _ j5).2.2
              have ex5 := Ex.below j5.below
              have ey5 := Ey.below j5.below
              have ez5 := Ez.below j5.below
              have cxy5 := fun n os => bxy (Go.Sort.grow (w5.drewN n) os) (ex5.below (Grw.below ⟨n, os, rfl⟩)) (ey5.below (Grw.below ⟨n, os, rfl⟩))
              have cyx5 := fun n os => byx (Go.Sort.grow (w5.drewN n) os) (ey5.below (Grw.below ⟨n, os, rfl⟩)) (ex5.below (Grw.below ⟨n, os, rfl⟩))
              cases q2
              · refine wp_region_quiet_grown (by assumption) (by kernel_rfl) ?_
                repeat (first | go_big_quiet_skip | (refine q_load (by rfl) 30 _ rfl (w.heap.size) 0 rfl (evc x) _ Bx5.lt (ev_all Bx5) Try.underlying30 rfl (evc_info lx) ?_; try simp only [Act.put, List.setIfInBounds_toArray, List.set_cons_zero, List.set_cons_succ]) | (refine q_load (by rfl) 30 _ rfl (w.heap.size + 1) 0 rfl (evc y) _ By5.lt (ev_all By5) Try.underlying30 rfl (evc_info ly) ?_; try simp only [Act.put, List.setIfInBounds_toArray, List.set_cons_zero, List.set_cons_succ]) | (refine q_load (by rfl) 27 _ rfl (w.heap.size) 4 rfl (uqs x.V) _ Bx5.lt (ev_range Bx5 lx) Try.underlying27 rfl (uqs_info lx) ?_; try simp only [Act.put, List.setIfInBounds_toArray, List.set_cons_zero, List.set_cons_succ]) | (refine q_load (by rfl) 27 _ rfl (w.heap.size + 1) 4 rfl (uqs y.V) _ By5.lt (ev_range By5 ly) Try.underlying27 rfl (uqs_info ly) ?_; try simp only [Act.put, List.setIfInBounds_toArray, List.set_cons_zero, List.set_cons_succ]) | go_big_quiet_step (first | (go_at_call 17; with_reducible (show Calls _ _ #[Value.agg (evc x), Value.agg (evc y)] _ _); refine Calls.grown_of (cxy5 _ _)) | (go_at_call 17; with_reducible (show Calls _ _ #[Value.agg (evc y), Value.agg (evc x)] _ _); refine Calls.grown_of (cyx5 _ _)) | (go_at_call 18; with_reducible (show Calls _ _ #[Value.agg (uqs x.V), Value.agg (uqs y.V)] _ _); refine Calls.grown_of (jxy _)) | (go_at_call 18; with_reducible (show Calls _ _ #[Value.agg (uqs y.V), Value.agg (uqs x.V)] _ _); refine Calls.grown_of (jyx _))))
                refine wpQuiet_nil ?_
                rintro _ ⟨⟨nq, osq⟩, rfl⟩
                go_wp2_with (go_at_call 8; refine (known_any _).mono ?_; rintro e w6 ⟨rfl, hg6⟩)
                go_ret
                exact ⟨rfl, h0.trans ((j5.trans ⟨nq, osq, rfl⟩).trans hg6)⟩
              · refine wp_region_quiet_grown (by assumption) (by kernel_rfl) ?_
                repeat (first | go_big_quiet_skip | (refine q_load (by rfl) 30 _ rfl (w.heap.size) 0 rfl (evc x) _ Bx5.lt (ev_all Bx5) Try.underlying30 rfl (evc_info lx) ?_; try simp only [Act.put, List.setIfInBounds_toArray, List.set_cons_zero, List.set_cons_succ]) | (refine q_load (by rfl) 30 _ rfl (w.heap.size + 1) 0 rfl (evc y) _ By5.lt (ev_all By5) Try.underlying30 rfl (evc_info ly) ?_; try simp only [Act.put, List.setIfInBounds_toArray, List.set_cons_zero, List.set_cons_succ]) | (refine q_load (by rfl) 27 _ rfl (w.heap.size) 4 rfl (uqs x.V) _ Bx5.lt (ev_range Bx5 lx) Try.underlying27 rfl (uqs_info lx) ?_; try simp only [Act.put, List.setIfInBounds_toArray, List.set_cons_zero, List.set_cons_succ]) | (refine q_load (by rfl) 27 _ rfl (w.heap.size + 1) 4 rfl (uqs y.V) _ By5.lt (ev_range By5 ly) Try.underlying27 rfl (uqs_info ly) ?_; try simp only [Act.put, List.setIfInBounds_toArray, List.set_cons_zero, List.set_cons_succ]) | go_big_quiet_step (first | (go_at_call 17; with_reducible (show Calls _ _ #[Value.agg (evc x), Value.agg (evc y)] _ _); refine Calls.grown_of (cxy5 _ _)) | (go_at_call 17; with_reducible (show Calls _ _ #[Value.agg (evc y), Value.agg (evc x)] _ _); refine Calls.grown_of (cyx5 _ _)) | (go_at_call 18; with_reducible (show Calls _ _ #[Value.agg (uqs x.V), Value.agg (uqs y.V)] _ _); refine Calls.grown_of (jxy _)) | (go_at_call 18; with_reducible (show Calls _ _ #[Value.agg (uqs y.V), Value.agg (uqs x.V)] _ _); refine Calls.grown_of (jyx _))))
                refine wpQuiet_nil ?_
                rintro _ ⟨⟨nq, osq⟩, rfl⟩
                go_wp2_with (go_at_call 8; refine (known_any _).mono ?_; rintro e w6 ⟨rfl, hg6⟩)
                go_ret
                exact ⟨rfl, h0.trans ((j5.trans ⟨nq, osq, rfl⟩).trans hg6)⟩
      · go_wp2_with (go_at_call 8; refine (known_any _).mono ?_; rintro e w6 ⟨rfl, hg6⟩)
        go_ret
        exact ⟨rfl, h0.trans (j4.trans hg6)⟩
    · go_wp2_with (go_at_call 8; refine (known_any _).mono ?_; rintro e w6 ⟨rfl, hg6⟩)
      go_ret
      exact ⟨rfl, h0.trans (j3.trans hg6)⟩
  · go_wp2_with (go_at_call 8; refine (known_any _).mono ?_; rintro e w6 ⟨rfl, hg6⟩)
    go_ret
    exact ⟨rfl, h0.trans (j2.trans hg6)⟩
end Go.Proofs.Ytigepbklpiilpaa

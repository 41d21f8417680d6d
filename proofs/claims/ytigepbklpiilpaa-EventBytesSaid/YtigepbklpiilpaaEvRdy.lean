/-
  event's Ready and Before.
-/
import Derived.Test.YtigepbklpiilpaaEvMay
namespace Go.Proofs.Ytigepbklpiilpaa
open Go.RowKit
open CtxM
set_option linter.unusedVariables false
set_option linter.unusedSimpArgs false
set_option maxRecDepth 20000

/-- Is the event the next one? -/
noncomputable def rdyB (x : Ev) (H : List Nat) : Bool := evB x && (decide (maxV H x.V = H) && decide (at_ H x.id.1 + 1 = x.id.2))
/-- Does it stand ahead? -/
noncomputable def befB (x y : Ev) : Bool := evB x && (evB y && decide (Und y.V x.id))
theorem evB_past {x : Ev} (h : evB x = true) : PastOk x.id x.V := by
  unfold evB at h
  simp only [Bool.and_eq_true, decide_eq_true_eq] at h
  exact h.1

set_option maxHeartbeats 4000000 in
theorem eready_any (x : Ev) (H : List Nat) (w : World) (hx : EvOk w x) (hH : H.length = 16) (hlt : ∀ n ∈ H, n < 18446744073709551616) : Calls Try.prog 23 #[.agg (evc x), .agg (uqs H)] w fun e w' => e = .returned (.bool (rdyB x H)) ∧ Grw w w' := by
  have hfo : Try.prog.follows .mixedOrders = true := by kernel_rfl
  have s1 : (w.alloc (.cells (evc x) 30)).heap.size = w.heap.size + 1 := by simp
  have hb0 : Grw w ((w.alloc (.cells (evc x) 30)).alloc (.cells (uqs H) 27)) := ((Grw.refl _).alloc _).alloc _
  have hB := (Blk.new w 30 (evc x)).alloc (.cells (uqs H) 27)
  have hC := Blk.new (w.alloc (.cells (evc x) 30)) 27 (uqs H)
  rw [s1] at hC
  have hX := hx.below hb0.below
  have hV := hx.len
  go_enter Try.func23, Try.ntmps23
  go_upto_region 1 with fail
  have h1 := fun W (h : EvOk W x) => emay_any x W h
  have h2 := fun W => ejoin_any H x.V W hH hV
  have hve : ∀ w, (Op.equalIn 10000 27 (.agg (uqs (maxV H x.V))) (.agg (uqs H))).run Try.prog w = .ok (decide (maxV H x.V = H)) w := fun w => vec_eq (maxV H x.V) H (maxV_length _ _) hH w
  generalize ((w.alloc (.cells (evc x) 30)).alloc (.cells (uqs H) 27)) = w1 at hb0 hB hC hX ⊢
  have q0 : ∀ n os, (Go.Sort.grow (w1.drewN n) os).cell? ⟨w.heap.size, 0, none⟩ = some (.int .i64 x.id.1) := cell_grown hB.lt (ev_0 hB)
  have q1 : ∀ n os, (Go.Sort.grow (w1.drewN n) os).cell? ⟨w.heap.size, 1, none⟩ = some (.int .u64 (x.id.2 : Int)) := cell_grown hB.lt (ev_1 hB)
  clear s1 hx
  have HR := Lib.hid (show rdyB x H = (evB x && (decide (maxV H x.V = H) && decide (at_ H x.id.1 + 1 = x.id.2))) from rfl)
  by_cases hE : evB x = true
  · have hP := evB_past hE
    rw [hE] at h1 HR
    have hM := hP.1
    obtain ⟨k, hk⟩ : ∃ k : Nat, x.id.1 = (k : Int) + 1 := ⟨(x.id.1 - 1).toNat, by have := hM.1; omega⟩
    obtain ⟨c, hc⟩ : ∃ c : Nat, x.id.2 = c + 1 := ⟨x.id.2 - 1, by have := hM.2.2.1; omega⟩
    have hct : c < 4611686018427387904 := by have := hM.2.2.2; unfold top at this; omega
    have hk16 : k < 16 := by have := hM.2.1; omega
    have hki : (k : Int) < 16 := by omega
    have q2 : ∀ n os, (Go.Sort.grow (w1.drewN n) os).cell? ⟨w.heap.size + 1, k, none⟩ = some (.int .u64 (H.getD k 0 : Int)) := cell_grown hC.lt (by rw [hC.cell]; exact uqs_get H k (by omega))
    have hwk : IntKind.i64.wrap (k : Int) = (k : Int) := by rw [IntKind.wrap_i64]; omega
    have hwc : IntKind.u64.wrap (c : Int) = (c : Int) := by rw [IntKind.wrap_u64]; omega
    have hc2 : (x.id.2 : Int) = (c : Int) + 1 := by omega
    rw [hk] at q0
    rw [hc2] at q1
    have ha : at_ H x.id.1 = H.getD k 0 := by unfold at_; rw [hk, show ((k : Int) + 1 - 1).toNat = k by omega]
    rw [ha, hc] at HR
    obtain ⟨m, hm⟩ : ∃ m, m = H.getD k 0 := ⟨_, rfl⟩
    rw [← hm] at q2 HR
    obtain ⟨y, hy⟩ : ∃ y, y = maxV H x.V := ⟨_, rfl⟩
    rw [← hy] at h2 hve HR
    clear hE hP hM hk hc hc2 ha hm hy
    by_cases he : y = H
    · rw [decide_eq_true he] at hve HR
      clear he
      by_cases hmc : m = c
      · have k1 : ((m : Int) == (c : Int)) = true := by rw [beq_iff_eq]; omega
        have HM := Lib.hid (show decide (m + 1 = c + 1) = true from decide_eq_true (by omega))
        clear hmc
        refine wp_region_quiet_grown (by assumption) (by kernel_rfl) ?_
        repeat (first | go_big_quiet_skip | (refine q_load (by rfl) 30 _ rfl w.heap.size 0 rfl (evc x) _ hB.lt (ev_all hB) Try.underlying30 rfl (evc_info hV) ?_; try simp only [Act.put, List.setIfInBounds_toArray, List.set_cons_zero, List.set_cons_succ]) | (refine q_load (by rfl) 27 _ rfl (w.heap.size + 1) 0 rfl (uqs H) _ hC.lt (uqs_range hC) Try.underlying27 rfl (uqs_info hH) ?_; try simp only [Act.put, List.setIfInBounds_toArray, List.set_cons_zero, List.set_cons_succ]) | (refine q_load (by rfl) 27 _ rfl w.heap.size 4 rfl (uqs x.V) _ hB.lt (ev_range hB hV) Try.underlying27 rfl (uqs_info hV) ?_; try simp only [Act.put, List.setIfInBounds_toArray, List.set_cons_zero, List.set_cons_succ]) | go_big_quiet_step (first | (go_at_call 10; refine Calls.grown_of (h1 _ (hX.below (Grw.below ⟨_, _, rfl⟩)))) | (go_at_call 18; refine Calls.grown_of (h2 _))))
        refine wpQuiet_nil ?_
        rintro _ ⟨⟨nq, osq⟩, rfl⟩
        go_wp2
        go_ret
        exact ⟨ret_bool (by rw [HR.out, HM.out]; rfl), hb0.trans ⟨nq, osq, rfl⟩⟩
      · have k1 : ((m : Int) == (c : Int)) = false := by rw [beq_eq_false_iff_ne]; omega
        have HM := Lib.hid (show decide (m + 1 = c + 1) = false from decide_eq_false (by omega))
        clear hmc
        refine wp_region_quiet_grown (by assumption) (by kernel_rfl) ?_
        repeat (first | go_big_quiet_skip | (refine q_load (by rfl) 30 _ rfl w.heap.size 0 rfl (evc x) _ hB.lt (ev_all hB) Try.underlying30 rfl (evc_info hV) ?_; try simp only [Act.put, List.setIfInBounds_toArray, List.set_cons_zero, List.set_cons_succ]) | (refine q_load (by rfl) 27 _ rfl (w.heap.size + 1) 0 rfl (uqs H) _ hC.lt (uqs_range hC) Try.underlying27 rfl (uqs_info hH) ?_; try simp only [Act.put, List.setIfInBounds_toArray, List.set_cons_zero, List.set_cons_succ]) | (refine q_load (by rfl) 27 _ rfl w.heap.size 4 rfl (uqs x.V) _ hB.lt (ev_range hB hV) Try.underlying27 rfl (uqs_info hV) ?_; try simp only [Act.put, List.setIfInBounds_toArray, List.set_cons_zero, List.set_cons_succ]) | go_big_quiet_step (first | (go_at_call 10; refine Calls.grown_of (h1 _ (hX.below (Grw.below ⟨_, _, rfl⟩)))) | (go_at_call 18; refine Calls.grown_of (h2 _))))
        refine wpQuiet_nil ?_
        rintro _ ⟨⟨nq, osq⟩, rfl⟩
        go_wp2
        go_ret
        exact ⟨ret_bool (by rw [HR.out, HM.out]; rfl), hb0.trans ⟨nq, osq, rfl⟩⟩
    · rw [decide_eq_false he] at hve HR
      clear he
      refine wp_region_quiet_grown (by assumption) (by kernel_rfl) ?_
      repeat (first | go_big_quiet_skip | (refine q_load (by rfl) 30 _ rfl w.heap.size 0 rfl (evc x) _ hB.lt (ev_all hB) Try.underlying30 rfl (evc_info hV) ?_; try simp only [Act.put, List.setIfInBounds_toArray, List.set_cons_zero, List.set_cons_succ]) | (refine q_load (by rfl) 27 _ rfl (w.heap.size + 1) 0 rfl (uqs H) _ hC.lt (uqs_range hC) Try.underlying27 rfl (uqs_info hH) ?_; try simp only [Act.put, List.setIfInBounds_toArray, List.set_cons_zero, List.set_cons_succ]) | (refine q_load (by rfl) 27 _ rfl w.heap.size 4 rfl (uqs x.V) _ hB.lt (ev_range hB hV) Try.underlying27 rfl (uqs_info hV) ?_; try simp only [Act.put, List.setIfInBounds_toArray, List.set_cons_zero, List.set_cons_succ]) | go_big_quiet_step (first | (go_at_call 10; refine Calls.grown_of (h1 _ (hX.below (Grw.below ⟨_, _, rfl⟩)))) | (go_at_call 18; refine Calls.grown_of (h2 _))))
      refine wpQuiet_nil ?_
      rintro _ ⟨⟨nq, osq⟩, rfl⟩
      go_wp2
      go_ret
      exact ⟨ret_bool (by rw [HR.out]; rfl), hb0.trans ⟨nq, osq, rfl⟩⟩
  · rw [Bool.not_eq_true] at hE
    rw [hE] at h1 HR
    clear hE
    refine wp_region_quiet_grown (by assumption) (by kernel_rfl) ?_
    repeat (first | go_big_quiet_skip | (refine q_load (by rfl) 30 _ rfl w.heap.size 0 rfl (evc x) _ hB.lt (ev_all hB) Try.underlying30 rfl (evc_info hV) ?_; try simp only [Act.put, List.setIfInBounds_toArray, List.set_cons_zero, List.set_cons_succ]) | (refine q_load (by rfl) 27 _ rfl (w.heap.size + 1) 0 rfl (uqs H) _ hC.lt (uqs_range hC) Try.underlying27 rfl (uqs_info hH) ?_; try simp only [Act.put, List.setIfInBounds_toArray, List.set_cons_zero, List.set_cons_succ]) | (refine q_load (by rfl) 27 _ rfl w.heap.size 4 rfl (uqs x.V) _ hB.lt (ev_range hB hV) Try.underlying27 rfl (uqs_info hV) ?_; try simp only [Act.put, List.setIfInBounds_toArray, List.set_cons_zero, List.set_cons_succ]) | go_big_quiet_step (first | (go_at_call 10; refine Calls.grown_of (h1 _ (hX.below (Grw.below ⟨_, _, rfl⟩)))) | (go_at_call 18; refine Calls.grown_of (h2 _))))
    refine wpQuiet_nil ?_
    rintro _ ⟨⟨nq, osq⟩, rfl⟩
    go_wp2
    go_ret
    exact ⟨ret_bool (by rw [HR.out]; rfl), hb0.trans ⟨nq, osq, rfl⟩⟩
end Go.Proofs.Ytigepbklpiilpaa

/-
  event's MayName, slices.Max at a vector, mayPast.
-/
import Derived.Test.YtigepbklpiilpaaEvA
namespace Go.Proofs.Ytigepbklpiilpaa
open Go.RowKit
open CtxM
set_option linter.unusedVariables false
set_option linter.unusedSimpArgs false
set_option maxRecDepth 20000

/-- May this be a name? -/
def nameB (s : ByteArray) : Bool := decide (1 ≤ s.size ∧ s.size ≤ 32)
theorem name_1 {s : ByteArray} (h : (s.size : Int) < 1) : nameB s = false := decide_eq_false (by omega)
theorem name_4 {s : ByteArray} (h : 1 ≤ (s.size : Int)) : decide ((s.size : Int) ≤ 32) = nameB s := by
  unfold nameB
  exact decide_eq_decide.2 ⟨fun h2 => ⟨by omega, by omega⟩, fun h2 => by omega⟩
theorem emayName_any (s : ByteArray) (w : World) : Calls Try.prog 30 #[.string s] w fun e w' => e = .returned (.bool (nameB s)) ∧ w' = w := by
  go_enter Try.func30, Try.ntmps30
  go_wp2
  all_goals go_ret
  all_goals refine ⟨congrArg (fun b => Ending.returned (.bool b)) ?_, rfl⟩
  · exact name_4 (by assumption)
  · exact (name_1 (by omega)).symm

/-- The greatest number. -/
def maxL (V : List Nat) : Nat := V.foldl max 0
theorem foldl_max_le (V : List Nat) (a b : Nat) : V.foldl max a ≤ b ↔ a ≤ b ∧ ∀ n ∈ V, n ≤ b := by
  induction V generalizing a with
  | nil => simp
  | cons x V ih =>
    rw [List.foldl_cons, ih]; simp only [List.mem_cons, forall_eq_or_imp]
    constructor
    · rintro ⟨h, k⟩; exact ⟨by omega, by omega, k⟩
    · rintro ⟨h, k, l⟩; exact ⟨by omega, l⟩
theorem maxL_le (V : List Nat) (b : Nat) : maxL V ≤ b ↔ ∀ n ∈ V, n ≤ b := by
  unfold maxL; rw [foldl_max_le]; simp
theorem maxL_take (V : List Nat) (i : Nat) (h : i < V.length) : maxL (V.take (i + 1)) = max (maxL (V.take i)) (V.getD i 0) := by
  unfold maxL
  rw [List.take_succ_eq_append_getElem h, List.foldl_append, List.getD_eq_getElem?_getD, List.getElem?_eq_getElem h]; rfl

set_option maxHeartbeats 1000000 in
theorem emax_any (V : List Nat) (g : Nat) (t : TypeId) (w : World) (hV : V.length = 16) (hB : Blk w g t (uqs V)) :
    Calls Try.prog 53 #[.slice (some ⟨g, 0, none⟩) 16 16] w fun e w' => e = .returned (.int .u64 (maxL V : Int)) ∧ w' = w := by
  have hc : ∀ i, i < 16 → w.cell? ⟨g, i, none⟩ = some (.int .u64 (V.getD i 0 : Int)) := fun i hi => by rw [hB.cell]; exact uqs_get V i (by omega)
  have hmt := fun i (h : i < 16) => maxL_take V i (by omega)
  have hm1 : maxL (V.take 1) = V.getD 0 0 := by rw [hmt 0 (by omega)]; simp [maxL]
  have hme : maxL (V.take 16) = maxL V := by rw [← hV, List.take_length]
  obtain ⟨mx, e⟩ : ∃ mx : Nat → Nat, ∀ i, maxL (V.take i) = mx i := ⟨_, fun _ => rfl⟩
  obtain ⟨vx, e2⟩ : ∃ vx : Nat → Nat, ∀ i, V.getD i 0 = vx i := ⟨_, fun _ => rfl⟩
  simp only [e, e2] at hmt hm1 hme hc
  rw [← hme]
  clear e e2 hB hV hme
  have c0 := hc 0 (by omega)
  go_enter Try.func53, Try.ntmps53
  have HM1 := Lib.hid hm1
  clear hm1
  go_wp2
  go_loopw [3, 4] (fun x z wr => ∃ i : Nat, x = .int .u64 (mx i : Int) ∧ z = .int .i64 (i : Int) ∧ 1 ≤ i ∧ i ≤ 16 ∧ wr = w) (fun _ z _ => 16 - (intOf z).toNat)
  case atStart => exact ⟨1, by rw [HM1.out], rfl, Nat.le_refl _, by omega, rfl⟩
  case round =>
    clear c0
    obtain ⟨i, rfl, rfl, h1, h16, rfl⟩ := hrel
    by_cases hlt : i < 16
    · have ci := hc i hlt
      have hi := hmt i hlt
      have HI := Lib.hid hi
      clear hi hmt hc
      go_wp2
      have e : (if mx i < vx i then (vx i : Int) else (mx i : Int)) = (mx (i + 1) : Int) := by
        rw [HI.out]
        split <;> omega
      rw [e]
      exact ⟨⟨i + 1, rfl, by go_num, by omega, by omega, trivial⟩, by simp [intOf]; omega⟩
    · obtain rfl : i = 16 := by omega
      go_wp2
      go_ret
      exact ⟨rfl, rfl⟩

/-- May an event of that name have had this? -/
def PastOk (d : Dt) (V : List Nat) : Prop := May d ∧ at_ V d.1 + 1 = d.2 ∧ ∀ n ∈ V, n ≤ top
instance (d : Dt) (V : List Nat) : Decidable (PastOk d V) := by unfold PastOk; infer_instance

set_option maxHeartbeats 1000000 in
theorem emayPast_any (V : List Nat) (d : Dt) (w : World) (hV : V.length = 16) : Calls Try.prog 29 #[.agg #[.int .i64 d.1, .int .u64 (d.2 : Int)], .agg (uqs V)] w fun e w' => e = .returned (.bool (decide (PastOk d V))) ∧ Grw w w' := by
  have hm := fun W => emayDot_any d W
  have hfo : Try.prog.follows .mixedOrders = true := by kernel_rfl
  have s1 : (w.alloc (.cells #[.int .i64 d.1, .int .u64 (d.2 : Int)] 24)).heap.size = w.heap.size + 1 := by simp
  have hg := ((Grw.refl w).alloc (.cells #[.int .i64 d.1, .int .u64 (d.2 : Int)] 24)).alloc (.cells (uqs V) 27)
  have b1 := (Blk.new w 24 #[.int .i64 d.1, .int .u64 (d.2 : Int)]).alloc (.cells (uqs V) 27)
  have b0 := Blk.new (w.alloc (.cells #[.int .i64 d.1, .int .u64 (d.2 : Int)] 24)) 27 (uqs V)
  rw [s1] at b0
  go_enter Try.func29, Try.ntmps29
  go_wp2_with fail
  generalize ((w.alloc (.cells #[.int .i64 d.1, .int .u64 (d.2 : Int)] 24)).alloc (.cells (uqs V) 27)) = w1 at hg b0 b1 ⊢
  have q0 : ∀ n os, (Go.Sort.grow (w1.drewN n) os).cell? ⟨w.heap.size, 0, none⟩ = some (.int .i64 d.1) := cell_grown b1.lt (by rw [b1.cell]; rfl)
  have q1 : ∀ n os, (Go.Sort.grow (w1.drewN n) os).cell? ⟨w.heap.size, 1, none⟩ = some (.int .u64 (d.2 : Int)) := cell_grown b1.lt (by rw [b1.cell]; rfl)
  by_cases hM : May d
  · rw [decide_eq_true hM] at hm
    obtain ⟨k, hk⟩ : ∃ k : Nat, d.1 = (k : Int) + 1 := ⟨(d.1 - 1).toNat, by have := hM.1; omega⟩
    obtain ⟨c, hc⟩ : ∃ c : Nat, d.2 = c + 1 := ⟨d.2 - 1, by have := hM.2.2.1; omega⟩
    have hct : c < 4611686018427387904 := by have := hM.2.2.2; unfold top at this; omega
    have hk16 : k < 16 := by have := hM.2.1; omega
    have q2 : ∀ n os, (Go.Sort.grow (w1.drewN n) os).cell? ⟨w.heap.size + 1, k, none⟩ = some (.int .u64 (V.getD k 0 : Int)) := cell_grown b0.lt (by rw [b0.cell]; exact uqs_get V k (by omega))
    have hmax : ∀ n os, Calls Try.prog 53 #[.slice (some ⟨w.heap.size + 1, 0, none⟩) 16 16] (Go.Sort.grow (w1.drewN n) os) fun e w' => e = .returned (.int .u64 (maxL V : Int)) ∧ Grw (Go.Sort.grow (w1.drewN n) os) w' := fun n os => (emax_any V (w.heap.size + 1) _ (Go.Sort.grow (w1.drewN n) os) hV (b0.below (Grw.below ⟨n, os, rfl⟩) b0.lt)).mono (by rintro e w' ⟨rfl, rfl⟩; exact ⟨rfl, Grw.refl _⟩)
    have HU : PastOk d V ↔ V.getD k 0 = c ∧ maxL V ≤ top := by
      unfold PastOk at_
      rw [hk, show ((k : Int) + 1 - 1).toNat = k by omega, hc, maxL_le]
      exact ⟨fun h => ⟨by omega, h.2.2⟩, fun h => ⟨hM, by omega, h.2⟩⟩
    have HH := Lib.hid HU
    have hc2 : (d.2 : Int) = (c : Int) + 1 := by omega
    rw [hk] at q0 hm
    rw [hc2] at q1 hm
    generalize V.getD k 0 = m at q2 HU HH
    generalize maxL V = x at hmax HU HH
    clear HU
    have HK := Lib.hid hk
    have HC := Lib.hid hc2
    have hwk : IntKind.i64.wrap (k : Int) = (k : Int) := by rw [IntKind.wrap_i64]; omega
    have hwc : IntKind.u64.wrap (c : Int) = (c : Int) := by rw [IntKind.wrap_u64]; omega
    have hki : (k : Int) < 16 := by omega
    have hz1 : w.heap.size ≤ w1.heap.size := hg.below.size
    clear hM hk b0 b1 hc2 hc
    rw [HK.out, HC.out]
    by_cases hmc : m = c
    · have k1 : ((m : Int) == (c : Int)) = true := by rw [beq_iff_eq]; omega
      have HM := Lib.hid hmc
      clear hmc
      refine wp_region_quiet_grown (by assumption) (by kernel_rfl) ?_
      repeat (first | go_big_quiet_skip | go_big_quiet_step (first | (go_at_call 51; refine Calls.grown_of (hm _)) | (go_at_call 53; refine Calls.grown_of (hmax _ _))))
      refine wpQuiet_nil ?_
      rintro _ ⟨⟨nq, osq⟩, rfl⟩
      go_wp2
      go_ret
      refine ⟨ret_bool ?_, hg.trans ⟨nq, osq, rfl⟩⟩
      have := HH.out
      rw [Bool.eq_iff_iff, decide_eq_true_iff, decide_eq_true_iff, this, HM.out]
      unfold top
      constructor
      · intro h; exact ⟨rfl, by omega⟩
      · intro h; have := h.2; omega
    · have k1 : ((m : Int) == (c : Int)) = false := by rw [beq_eq_false_iff_ne]; omega
      have HM := Lib.hid hmc
      clear hmc
      refine wp_region_quiet_grown (by assumption) (by kernel_rfl) ?_
      repeat (first | go_big_quiet_skip | go_big_quiet_step (first | (go_at_call 51; refine Calls.grown_of (hm _))))
      refine wpQuiet_nil ?_
      rintro _ ⟨⟨nq, osq⟩, rfl⟩
      go_wp2
      go_ret
      refine ⟨ret_bool ?_, hg.trans ⟨nq, osq, rfl⟩⟩
      have := HH.out
      rw [eq_comm, decide_eq_false_iff_not, this]
      exact fun h => HM.out h.1
  · rw [decide_eq_false hM] at hm
    refine wp_region_quiet_grown (by assumption) (by kernel_rfl) ?_
    repeat (first | go_big_quiet_skip | go_big_quiet_step (first | (go_at_call 51; refine Calls.grown_of (hm _))))
    refine wpQuiet_nil ?_
    rintro _ ⟨⟨nq, osq⟩, rfl⟩
    go_wp2
    go_ret
    exact ⟨ret_bool (by rw [eq_comm, decide_eq_false_iff_not]; exact fun h => hM h.1), hg.trans ⟨nq, osq, rfl⟩⟩
end Go.Proofs.Ytigepbklpiilpaa

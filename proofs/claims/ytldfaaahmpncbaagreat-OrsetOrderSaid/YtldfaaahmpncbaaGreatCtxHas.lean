/-
  The walks of ctx's none, isRegion, May, Less, and of a context's Has.
-/
import Derived.Test.YtldfaaahmpncbaaGreatCtxSearch
namespace Go.Proofs.YtldfaaahmpncbaaGreat
open Go.RowKit
open CtxM
set_option linter.unusedVariables false
set_option linter.unusedSimpArgs false

theorem none_nil (w : World) : Calls Tryz.prog 77 #[.pointer none] w fun e w' => e = .returned (.bool true) ∧ w' = w := by
  go_enter Tryz.func77, Tryz.ntmps77
  go_wp2
  go_ret
  exact ⟨rfl, rfl⟩
theorem none_at (g : Nat) (m : Bool) (w : World) (h : w.cell? ⟨g, 0, none⟩ = some (.bool m)) : Calls Tryz.prog 77 #[.pointer (some ⟨g, 0, none⟩)] w fun e w' => e = .returned (.bool (!m)) ∧ w' = w := by
  go_enter Tryz.func77, Tryz.ntmps77
  cases m
  · go_wp2
    go_ret
    exact ⟨rfl, rfl⟩
  · go_wp2
    go_ret
    exact ⟨rfl, rfl⟩
def isR (n : Int) : Bool := decide (1 ≤ n ∧ n ≤ 16)
theorem isRegion_any (n : Int) (w : World) : Calls Tryz.prog 95 #[.int .i64 n] w fun e w' => e = .returned (.bool (isR n)) ∧ w' = w := by
  go_enter Tryz.func95, Tryz.ntmps95
  by_cases h1 : 1 ≤ n
  · by_cases h2 : n ≤ 16
    · go_wp2
      go_ret
      exact ⟨ret_bool (by simp [isR, h1, h2]), rfl⟩
    · go_wp2
      go_ret
      exact ⟨ret_bool (by simp [isR, h2]), rfl⟩
  · go_wp2
    go_ret
    exact ⟨ret_bool (by rw [isR, eq_comm, decide_eq_false_iff_not]; omega), rfl⟩
theorem may_any (d : Dt) (w : World) : Calls Tryz.prog 65 #[.agg #[.int .i64 d.1, .int .u64 (d.2 : Int)]] w fun e w' => e = .returned (.bool (decide (May d))) ∧ Grw w w' := by
  have hr := isRegion_any d.1
  have e0 : decide (May d) = (isR d.1 && decide (1 ≤ d.2 ∧ d.2 ≤ top)) := by
    rw [Bool.eq_iff_iff, Bool.and_eq_true, isR, decide_eq_true_iff, decide_eq_true_iff, decide_eq_true_iff, May]
    constructor
    · rintro ⟨a, b, c, d⟩; exact ⟨⟨a, b⟩, c, d⟩
    · rintro ⟨⟨a, b⟩, c, d⟩; exact ⟨a, b, c, d⟩
  rw [e0]
  generalize isR d.1 = r at hr
  go_enter Tryz.func65, Tryz.ntmps65
  have hg := (Grw.refl w).alloc (.cells #[.int .i64 d.1, .int .u64 (d.2 : Int)] 41)
  cases r
  · go_wp2_with (go_at_call 95; refine (hr _).mono ?_; rintro e w' ⟨rfl, rfl⟩)
    go_ret
    exact ⟨ret_bool (by simp), hg⟩
  · by_cases h1 : 1 ≤ d.2
    · have k1 : (1 : Int) ≤ (d.2 : Int) := by omega
      by_cases h2 : d.2 ≤ top
      · have k2 : (d.2 : Int) ≤ 4611686018427387904 := by unfold top at h2; omega
        go_wp2_with (go_at_call 95; refine (hr _).mono ?_; rintro e w' ⟨rfl, rfl⟩)
        go_ret
        exact ⟨ret_bool (by simp [h1, h2, k1, k2]), hg⟩
      · have k2 : ¬ (d.2 : Int) ≤ 4611686018427387904 := by unfold top at h2; omega
        go_wp2_with (go_at_call 95; refine (hr _).mono ?_; rintro e w' ⟨rfl, rfl⟩)
        go_ret
        exact ⟨ret_bool (by simp [h1, h2, k1, k2]), hg⟩
    · have k1 : ¬ (1 : Int) ≤ (d.2 : Int) := by omega
      go_wp2_with (go_at_call 95; refine (hr _).mono ?_; rintro e w' ⟨rfl, rfl⟩)
      go_ret
      exact ⟨ret_bool (by simp [h1, k1]), hg⟩
theorem less_any (a b : Dt) (w : World) : Calls Tryz.prog 117 #[.agg #[.int .i64 a.1, .int .u64 (a.2 : Int)], .agg #[.int .i64 b.1, .int .u64 (b.2 : Int)]] w fun e w' => e = .returned (.bool (decide (Lt a b))) ∧ Grw w w' := by
  have hi := fun W => inTurn_any a b W
  have hl := cD_lt a b
  generalize cD a b = r at hi hl
  have H := Lib.hid hl
  clear hl
  go_enter Tryz.func117, Tryz.ntmps117
  go_wp2_with (go_at_call 111; refine (hi _).mono ?_; rintro e w' ⟨rfl, hg⟩)
  go_ret
  have hl := H.out
  exact ⟨ret_bool (by rw [Bool.eq_iff_iff, decide_eq_true_iff, decide_eq_true_iff]; exact hl), (((Grw.refl w).alloc _).alloc _).trans hg⟩

set_option maxHeartbeats 1000000 in
set_option maxRecDepth 20000 in
theorem has_any (g : Nat) (v : Value) (V : List Nat) (X : List Dt) (d : Dt) (w : World) (hc : Cx w g v V X) (hl : X.length ≤ 100000) :
    Calls Tryz.prog 42 #[.pointer (some ⟨g, 0, none⟩), .agg #[.int .i64 d.1, .int .u64 (d.2 : Int)]] w fun e w' => e = .returned (.bool (decide (In V X d))) ∧ Grw w w' := by
  have hn := fun W (hg : Grw w W) => none_at g true W (hc.below hg.below).made
  have hm := fun W => may_any d W
  have hfo : Tryz.prog.follows .mixedOrders = true := by kernel_rfl
  have Hg := (Grw.refl w).alloc (.cells #[.int .i64 d.1, .int .u64 (d.2 : Int)] 41)
  go_enter Tryz.func42, Tryz.ntmps42
  by_cases hM : May d
  · rw [decide_eq_true hM] at hm
    go_wp2_with (first | (go_at_call 77; refine (hn _ Hg).mono ?_; rintro e w' ⟨rfl, rfl⟩) | (go_at_call 65; refine (hm _).mono ?_; rintro e w1 ⟨rfl, hg1⟩))
    have Hg1 := Hg.trans hg1
    have hc1 := hc.below Hg1.below
    have hB := ((Blk.new w 41 #[.int .i64 d.1, .int .u64 (d.2 : Int)])).below hg1.below (by simp)
    have q1 : ∀ n os, (Go.Sort.grow (w1.drewN n) os).cell? ⟨g, 17, none⟩ = some v := cell_grown hc1.blk.lt hc1.extra
    have q3 : ∀ n os, (Go.Sort.grow (w1.drewN n) os).cell? ⟨w.heap.size, 0, none⟩ = some (.int .i64 d.1) := cell_grown hB.lt (by rw [hB.cell]; rfl)
    have q4 : ∀ n os, (Go.Sort.grow (w1.drewN n) os).cell? ⟨w.heap.size, 1, none⟩ = some (.int .u64 (d.2 : Int)) := cell_grown hB.lt (by rw [hB.cell]; rfl)
    have hsr := fun n os => search_any v X d (Go.Sort.grow (w1.drewN n) os) ((hc1.row.sd.below (⟨rfl, rfl, rfl, by rw [Go.Sort.size_grow]; exact Nat.le_add_right _ _, fun k hk => Go.Sort.heap_grow_old _ os hk⟩ : Below w1.heap.size w1 (Go.Sort.grow (w1.drewN n) os)))) hl hc.fit.rise
    generalize cnt X d = i at hsr
    clear hn hm
    go_quiet_grown (first | (go_at_call 84; refine Calls.grown_of (hsr _ _)))
    clear hsr q1 q3 q4
    obtain ⟨w2, hw2⟩ : ∃ w2, w2 = Go.Sort.grow (w1.drewN nq) osq := ⟨_, rfl⟩
    rw [← hw2]
    have Hg2 : Grw w1 w2 := ⟨nq, osq, hw2⟩
    clear hw2
    have hc2 := hc1.below Hg2.below
    have hB2 := hB.below Hg2.below hB.lt
    have q3 : w2.cell? ⟨w.heap.size, 0, none⟩ = some (.int .i64 d.1) := by rw [hB2.cell]; rfl
    have q4 : w2.cell? ⟨w.heap.size, 1, none⟩ = some (.int .u64 (d.2 : Int)) := by rw [hB2.cell]; rfl
    by_cases hx : d ∈ X
    · rw [decide_eq_true hx]
      go_wp2_with fail
      go_quiet (fail)
      go_wp2
      go_ret
      exact ⟨ret_bool (by rw [eq_comm, decide_eq_true_iff]; exact ⟨hM, .inl hx⟩), (Hg1.trans Hg2).drewN _⟩
    · rw [decide_eq_false hx]
      obtain ⟨k, hk⟩ : ∃ k : Nat, d.1 = (k : Int) + 1 := ⟨(d.1 - 1).toNat, by have := hM.1; omega⟩
      have hk16 : k < 16 := by have := hM.2.1; omega
      have q5 := hc2.atk k hk16
      have HIn : In V X d ↔ d.2 ≤ at_ V ((k : Int) + 1) := by
        rw [← hk]
        exact ⟨fun h => h.2.elim (fun h => absurd h hx) id, fun h => ⟨hM, .inr h⟩⟩
      have HI := Lib.hid HIn
      rw [hk] at q3
      generalize at_ V ((k : Int) + 1) = m at q5 HI HIn
      clear HIn
      have HX := Lib.hid hx
      have HM := Lib.hid hM
      have HK := Lib.hid hk
      clear hx hM hk hB hB2
      go_wp2_with fail
      go_quiet (fail)
      go_wp2
      go_ret
      refine ⟨ret_bool ?_, (Hg1.trans Hg2).drewN _⟩
      have := HI.out
      rw [Bool.eq_iff_iff, decide_eq_true_iff, decide_eq_true_iff, this]
  · rw [decide_eq_false hM] at hm
    go_wp2_with (first | (go_at_call 77; refine (hn _ Hg).mono ?_; rintro e w' ⟨rfl, rfl⟩) | (go_at_call 65; refine (hm _).mono ?_; rintro e w1 ⟨rfl, hg1⟩))
    go_ret
    exact ⟨ret_bool (by rw [eq_comm, decide_eq_false_iff_not]; exact fun h => hM h.1), Hg.trans hg1⟩
end Go.Proofs.YtldfaaahmpncbaaGreat

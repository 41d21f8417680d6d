/-
  The walk of a context's Add, of a dot that is an exception, and of one that finds no room; all of Add.
-/
import Derived.Test.YtldfaaahmpncbaaGreatCtxAddN
namespace Go.Proofs.YtldfaaahmpncbaaGreat
open Go.RowKit
open CtxM
set_option linter.unusedVariables false
set_option linter.unusedSimpArgs false

set_option maxHeartbeats 4000000 in
set_option maxRecDepth 20000 in
theorem add_full (g : Nat) (v : Value) (V : List Nat) (X : List Dt) (d : Dt) (w : World) (hc : Cx w g v V X) (hM : May d) (hI : ¬ In V X d) (he : d.2 ≠ at_ V d.1 + 1) (hl : X.length = 4096) :
    Calls Tryz.prog 41 #[.pointer (some ⟨g, 0, none⟩), .agg #[.int .i64 d.1, .int .u64 (d.2 : Int)]] w fun e w' => e = .returned (.tuple #[.bool false, .int .i64 5]) ∧ Grw w w' := by
  have hn := fun W (hg : Grw w W) => none_at g true W (hc.below hg.below).made
  have hm := fun W => may_any d W
  have hfo : Tryz.prog.follows .mixedOrders = true := by kernel_rfl
  rw [decide_eq_true hM] at hm
  have hh := fun W (hg : Grw w W) => has_any g v V X d W (hc.below hg.below) (by omega)
  rw [decide_eq_false hI] at hh
  have Hg := (Grw.refl w).alloc (.cells #[.int .i64 d.1, .int .u64 (d.2 : Int)] 41)
  have hB := Blk.new w 41 #[.int .i64 d.1, .int .u64 (d.2 : Int)]
  obtain ⟨k, hk⟩ : ∃ k : Nat, d.1 = (k : Int) + 1 := ⟨(d.1 - 1).toNat, by have := hM.1; omega⟩
  have hk16 : k < 16 := by have := hM.2.1; omega
  have HM := Lib.hid hM
  have HI := Lib.hid hI
  have HK := Lib.hid hk
  obtain ⟨m, hmm⟩ : ∃ m, m = at_ V ((k : Int) + 1) := ⟨_, rfl⟩
  have HE := Lib.hid he
  rw [hk, ← hmm] at he
  have HMM := Lib.hid hmm
  have hmt : m ≤ top := by rw [hmm]; exact at_le hc.fit.le _
  have hw1 : IntKind.u64.wrap ((m : Int) + 1) = (m : Int) + 1 := by rw [IntKind.wrap_u64]; unfold top at hmt; omega
  have he2 : ¬ (d.2 : Int) = (m : Int) + 1 := by omega
  have HC := Lib.hid hc
  obtain ⟨A, c, rfl, hcc, _⟩ := hc.row.sd
  clear hI hM hmt hc he hk hmm hcc
  go_enter Tryz.func41, Tryz.ntmps41
  go_wp2_with (first | (go_at_call 77; refine (hn _ Hg).mono ?_; rintro e w' ⟨rfl, rfl⟩) | (go_at_call 65; refine (hm _).mono ?_; rintro e w1 ⟨rfl, hg1⟩; have hB1 := hB.below hg1.below hB.lt; have q0 : w1.cell? ⟨w.heap.size, 0, none⟩ = some (.int .i64 d.1) := (by rw [hB1.cell]; rfl); have q1 : w1.cell? ⟨w.heap.size, 1, none⟩ = some (.int .u64 (d.2 : Int)) := (by rw [hB1.cell]; rfl)) | (go_at_call 42; refine (hh _ (Hg.trans hg1)).mono ?_; rintro e w2 ⟨rfl, hg2⟩))
  have Hw := (Hg.trans hg1).trans hg2
  have hB2 := hB1.below hg2.below hB1.lt
  have hc2 := HC.out.below Hw.below
  have hlt2 := Hw.below.size
  clear q0 q1 hB1 hB hg1 hg2 hn hm hh
  have p0 : w2.cell? ⟨w.heap.size, 0, none⟩ = some (.int .i64 ((k : Int) + 1)) := by rw [hB2.cell, ← HK.out]; rfl
  have p1 : w2.cell? ⟨w.heap.size, 1, none⟩ = some (.int .u64 (d.2 : Int)) := by rw [hB2.cell]; rfl
  have p2 := hc2.atk k hk16
  rw [← HMM.out] at p2
  go_wp2_with fail
  go_quiet (fail)
  clear p0 p1 p2
  have hc3 : Cx (w2.drewN nq) g (.slice A X.length c) V X := hc2.below (below_drewN (Below.refl _ _) nq)
  have hB3 : Blk (w2.drewN nq) w.heap.size 41 #[.int .i64 d.1, .int .u64 (d.2 : Int)] := hB2
  have Hw3 := Hw.drewN nq
  clear hc2 hB2 Hw hlt2
  generalize w2.drewN nq = w3 at hc3 hB3 Hw3 ⊢
  have p3 := hc3.extra
  have hl2 : (X.length : Int) = 4096 := by omega
  go_wp2_with fail
  go_ret2
  exact ⟨rfl, Hw3⟩

set_option maxHeartbeats 4000000 in
set_option maxRecDepth 20000 in
theorem add_ins (g : Nat) (v : Value) (V : List Nat) (X : List Dt) (d : Dt) (w : World) (hc : Cx w g v V X) (hM : May d) (hI : ¬ In V X d) (he : d.2 ≠ at_ V d.1 + 1) (hl : X.length < 4096) :
    Calls Tryz.prog 41 #[.pointer (some ⟨g, 0, none⟩), .agg #[.int .i64 d.1, .int .u64 (d.2 : Int)]] w fun e w' => e = .returned (.tuple #[.bool true, .int .i64 0]) ∧ Added w w' g v (addF (V, X) d) := by
  have hn := fun W (hg : Grw w W) => none_at g true W (hc.below hg.below).made
  have hm := fun W => may_any d W
  have hfo : Tryz.prog.follows .mixedOrders = true := by kernel_rfl
  rw [decide_eq_true hM] at hm
  have hh := fun W (hg : Grw w W) => has_any g v V X d W (hc.below hg.below) (by omega)
  rw [decide_eq_false hI] at hh
  have Hg := (Grw.refl w).alloc (.cells #[.int .i64 d.1, .int .u64 (d.2 : Int)] 41)
  have hB := Blk.new w 41 #[.int .i64 d.1, .int .u64 (d.2 : Int)]
  obtain ⟨k, hk⟩ : ∃ k : Nat, d.1 = (k : Int) + 1 := ⟨(d.1 - 1).toNat, by have := hM.1; omega⟩
  have hk16 : k < 16 := by have := hM.2.1; omega
  have HM := Lib.hid hM
  have HI := Lib.hid hI
  have HK := Lib.hid hk
  obtain ⟨m, hmm⟩ : ∃ m, m = at_ V ((k : Int) + 1) := ⟨_, rfl⟩
  have HE := Lib.hid he
  rw [hk, ← hmm] at he
  have HMM := Lib.hid hmm
  have hmt : m ≤ top := by rw [hmm]; exact at_le hc.fit.le _
  have hw1 : IntKind.u64.wrap ((m : Int) + 1) = (m : Int) + 1 := by rw [IntKind.wrap_u64]; unfold top at hmt; omega
  have he2 : ¬ (d.2 : Int) = (m : Int) + 1 := by omega
  have HC := Lib.hid hc
  obtain ⟨A, c, rfl, hcc, _⟩ := hc.row.sd
  clear hI hM hmt hc he hk hmm hcc
  go_enter Tryz.func41, Tryz.ntmps41
  go_wp2_with (first | (go_at_call 77; refine (hn _ Hg).mono ?_; rintro e w' ⟨rfl, rfl⟩) | (go_at_call 65; refine (hm _).mono ?_; rintro e w1 ⟨rfl, hg1⟩; have hB1 := hB.below hg1.below hB.lt; have q0 : w1.cell? ⟨w.heap.size, 0, none⟩ = some (.int .i64 d.1) := (by rw [hB1.cell]; rfl); have q1 : w1.cell? ⟨w.heap.size, 1, none⟩ = some (.int .u64 (d.2 : Int)) := (by rw [hB1.cell]; rfl)) | (go_at_call 42; refine (hh _ (Hg.trans hg1)).mono ?_; rintro e w2 ⟨rfl, hg2⟩))
  have Hw := (Hg.trans hg1).trans hg2
  have hB2 := hB1.below hg2.below hB1.lt
  have hc2 := HC.out.below Hw.below
  have hlt2 := Hw.below.size
  clear q0 q1 hB1 hB hg1 hg2 hn hm hh
  have p0 : w2.cell? ⟨w.heap.size, 0, none⟩ = some (.int .i64 ((k : Int) + 1)) := by rw [hB2.cell, ← HK.out]; rfl
  have p1 : w2.cell? ⟨w.heap.size, 1, none⟩ = some (.int .u64 (d.2 : Int)) := by rw [hB2.cell]; rfl
  have p2 := hc2.atk k hk16
  rw [← HMM.out] at p2
  go_wp2_with fail
  go_quiet (fail)
  clear p0 p1 p2
  have hc3 : Cx (w2.drewN nq) g (.slice A X.length c) V X := hc2.below (below_drewN (Below.refl _ _) nq)
  have hB3 : Blk (w2.drewN nq) w.heap.size 41 #[.int .i64 d.1, .int .u64 (d.2 : Int)] := hB2
  have Hw3 := Hw.drewN nq
  clear hc2 hB2 Hw hlt2
  generalize w2.drewN nq = w3 at hc3 hB3 Hw3 ⊢
  have p3 := hc3.extra
  have hl2 : ¬ (X.length : Int) = 4096 := by omega
  go_wp2_with fail
  have q1 : ∀ n os, (Go.Sort.grow (w3.drewN n) os).cell? ⟨g, 17, none⟩ = some (.slice A X.length c) := cell_grown hc3.blk.lt hc3.extra
  have q3 : ∀ n os, (Go.Sort.grow (w3.drewN n) os).cell? ⟨w.heap.size, 0, none⟩ = some (.int .i64 d.1) := cell_grown hB3.lt (by rw [hB3.cell]; rfl)
  have q4 : ∀ n os, (Go.Sort.grow (w3.drewN n) os).cell? ⟨w.heap.size, 1, none⟩ = some (.int .u64 (d.2 : Int)) := cell_grown hB3.lt (by rw [hB3.cell]; rfl)
  have hsr := fun n os => search_any (.slice A X.length c) X d (Go.Sort.grow (w3.drewN n) os) ((hc3.row.sd.below (⟨rfl, rfl, rfl, by rw [Go.Sort.size_grow]; exact Nat.le_add_right _ _, fun k hk => Go.Sort.heap_grow_old _ os hk⟩ : Below w3.heap.size w3 (Go.Sort.grow (w3.drewN n) os)))) (by omega) hc3.fit.rise
  have hia := ins_at HC.out.fit.rise d
  have hil := cnt_at X d
  have HIA := Lib.hid hia
  obtain ⟨i, hi⟩ : ∃ i, i = cnt X d := ⟨_, rfl⟩
  rw [← hi] at hsr hil
  have HIX := Lib.hid hi
  clear hia hi p3
  go_quiet_grown (first | (go_at_call 84; refine Calls.grown_of (hsr _ _)))
  clear hsr q1 q3 q4
  obtain ⟨w4, hw4⟩ : ∃ w4, w4 = Go.Sort.grow (w3.drewN nq) osq := ⟨_, rfl⟩
  rw [← hw4]
  have Hg4 : Grw w3 w4 := ⟨nq, osq, hw4⟩
  clear hw4
  have hc4 := hc3.below Hg4.below
  have hB4 := hB3.below Hg4.below hB3.lt
  have Hw4 := (Hw3.trans Hg4).below
  clear hc3 hB3 Hw3 Hg4
  go_wp2_with fail
  refine wp_region_held_drew (S := fun w' => w'.cell? ⟨w.heap.size, 0, none⟩ = some (.int .i64 d.1) ∧ w'.cell? ⟨w.heap.size, 1, none⟩ = some (.int .u64 (d.2 : Int))) hfo ⟨by rw [World.cell?_drew, hB4.cell]; rfl, by rw [World.cell?_drew, hB4.cell]; rfl⟩ (fun hS0 => ?_)
  have hc5 : Cx w4.drew g (.slice A X.length c) V X := hc4.below (Below.refl _ _).drew
  have hB5 : Blk w4.drew w.heap.size 41 #[.int .i64 d.1, .int .u64 (d.2 : Int)] := hB4
  have Hw5 : Below w.heap.size w w4.drew := Hw4.drew
  clear hc4 hB4 Hw4
  generalize w4.drew = w5 at hc5 hB5 Hw5 hS0 ⊢
  have p5 := hc5.extra
  refine' wpAnyH_take (i := 0) (oi := ⟨some 17, _, _, _, _, _⟩) (v := _) rfl (by kernel_rfl) (by kernel_rfl) (by kernel_rfl) (fun _ _ _ h => h) (Or.inl ⟨by rfl, ?y0⟩) hS0 ?r0
  case y0 => (intro w' hSw; go_simp; try rfl)
  try simp only [Act.put, List.setIfInBounds_toArray, List.set_cons_zero, List.set_cons_succ]
  refine' wpAnyH_take (i := 1) (oi := ⟨some 18, _, _, _, _, _⟩) (v := _) rfl (by kernel_rfl) (by kernel_rfl) (by kernel_rfl) (fun _ _ _ h => h) (Or.inl ⟨by rfl, ?y1⟩) hS0 ?r1
  case y1 => (intro w' hSw; go_simp; try rfl)
  try simp only [Act.put, List.setIfInBounds_toArray, List.set_cons_zero, List.set_cons_succ]
  refine' wpAnyH_take (i := 2) (oi := ⟨some 19, _, _, _, _, _⟩) (v := _) rfl (by kernel_rfl) (by kernel_rfl) (by kernel_rfl) (fun _ _ _ h => h) (Or.inl ⟨by rfl, ?y2⟩) hS0 ?r2
  case y2 => (intro w' hSw; go_simp; try rfl)
  try simp only [Act.put, List.setIfInBounds_toArray, List.set_cons_zero, List.set_cons_succ]
  refine' wpAnyH_take (i := 3) (oi := ⟨some 20, _, _, _, _, _⟩) (v := _) rfl (by kernel_rfl) (by kernel_rfl) (by kernel_rfl) (fun _ _ _ h => h) (Or.inl ⟨by rfl, ?y3⟩) hS0 ?r3
  case y3 => (intro w' hSw; go_simp; try rfl)
  try simp only [Act.put, List.setIfInBounds_toArray, List.set_cons_zero, List.set_cons_succ]
  refine' wpAnyH_take (i := 5) (oi := ⟨some 22, _, _, _, _, _⟩) (v := _) rfl (by kernel_rfl) (by kernel_rfl) (by kernel_rfl) (fun _ _ _ h => h) (Or.inl ⟨by rfl, ?y5⟩) hS0 ?r5
  case y5 => (intro w' hSw; go_simp; try rfl)
  try simp only [Act.put, List.setIfInBounds_toArray, List.set_cons_zero, List.set_cons_succ]
  refine' wpAnyH_take (i := 6) (oi := ⟨some 23, _, _, _, _, _⟩) (v := _) rfl (by kernel_rfl) (by kernel_rfl) (by kernel_rfl) (fun _ _ _ h => h) (Or.inl ⟨by rfl, ?y6⟩) hS0 ?r6
  case y6 => (intro w' hSw; obtain ⟨s0, s1⟩ := hSw; go_simp; try rfl)
  try simp only [Act.put, List.setIfInBounds_toArray, List.set_cons_zero, List.set_cons_succ]
  have hS6 : (w5.alloc (.cells #[.int .i64 d.1, .int .u64 (d.2 : Int)] 41)).cell? ⟨w.heap.size, 0, none⟩ = some (.int .i64 d.1) ∧ (w5.alloc (.cells #[.int .i64 d.1, .int .u64 (d.2 : Int)] 41)).cell? ⟨w.heap.size, 1, none⟩ = some (.int .u64 (d.2 : Int)) := ⟨by rw [(hB5.alloc _).cell]; rfl, by rw [(hB5.alloc _).cell]; rfl⟩
  have p6 : (w5.alloc (.cells #[.int .i64 d.1, .int .u64 (d.2 : Int)] 41)).cell? ⟨g, 17, none⟩ = some (.slice A X.length c) := (hc5.below ((Below.refl _ _).alloc (Nat.le_refl _) _)).extra
  refine held_two (i := 4) (j := 7) (by kernel_rfl) rfl rfl (fun K hK => ?_) (fun K hK => ?_)
  case' r6.refine_1 =>
    go_simp
    refine hK.out _ _ hS0 (fun _ => ?_)
    clear hK K
    try simp only [Act.put, List.setIfInBounds_toArray, List.set_cons_zero, List.set_cons_succ]
    refine held_one (i := 7) (by kernel_rfl) rfl (fun K hK => ?_)
    go_simp
    refine hK.out _ _ hS6 (fun _ => ?_)
    clear hK K
    try simp only [Act.put, List.setIfInBounds_toArray, List.set_cons_zero, List.set_cons_succ]
  case' r6.refine_2 =>
    go_simp
    refine hK.out _ _ hS6 (fun _ => ?_)
    clear hK K
    try simp only [Act.put, List.setIfInBounds_toArray, List.set_cons_zero, List.set_cons_succ]
    refine held_one (i := 4) (by kernel_rfl) rfl (fun K hK => ?_)
    go_simp
    refine hK.out _ _ hS6 (fun _ => ?_)
    clear hK K
    try simp only [Act.put, List.setIfInBounds_toArray, List.set_cons_zero, List.set_cons_succ]
  · have hc6 : Cx (w5.alloc (.cells #[.int .i64 d.1, .int .u64 (d.2 : Int)] 41)) g (.slice A X.length c) V X := hc5.below ((Below.refl _ _).alloc (Nat.le_refl _) _)
    have hV6 : Blk (w5.alloc (.cells #[.int .i64 d.1, .int .u64 (d.2 : Int)] 41)) w5.heap.size 41 #[.int .i64 d.1, .int .u64 (d.2 : Int)] := Blk.new w5 _ _
    have hB6 := hB5.alloc (.cells #[.int .i64 d.1, .int .u64 (d.2 : Int)] 41)
    have Hw6 : Below w.heap.size w (w5.alloc (.cells #[.int .i64 d.1, .int .u64 (d.2 : Int)] 41)) := Hw5.alloc Hw5.size _
    have hne6 : (Value.slice A X.length c).ownBlock ≠ some w5.heap.size := fun e => by have := (hc5.row.lt _ e).2; omega
    have hro : ∀ i, (Value.slice A X.length c).ownBlock = some i → i < w.heap.size := fun i hi => (HC.out.row.lt i hi).2
    have hgo : g < w.heap.size := HC.out.blk.lt
    clear hc5 hB5 Hw5 hS0 hS6 p5 p6
    generalize w5.alloc (.cells #[.int .i64 d.1, .int .u64 (d.2 : Int)] 41) = w6 at hc6 hV6 hB6 Hw6 ⊢
    refine held_one (i := 8) (by kernel_rfl) rfl (fun K hK => ?_)
    go_simp
    refine (insert_any (.slice A X.length c) X i w5.heap.size 1 d w6 hil hc6.row hV6 (Nat.le_refl _) hne6 (by omega)).mono ?_
    rintro e w7 ⟨v7, rfl, ho7, hk7, hn7⟩
    have hB7 := hB6.kept hk7 (fun e => by have := hro _ e; omega)
    have hC7 := hc6.blk.kept hk7 hc6.ne
    refine hK.out _ _ ⟨by rw [hB7.cell]; rfl, by rw [hB7.cell]; rfl⟩ (fun _ => ?_)
    clear hK K
    try simp only [Act.put, List.setIfInBounds_toArray, List.set_cons_zero, List.set_cons_succ]
    have hS7 : w7.cell? ⟨w.heap.size, 0, none⟩ = some (.int .i64 d.1) ∧ w7.cell? ⟨w.heap.size, 1, none⟩ = some (.int .u64 (d.2 : Int)) := ⟨by rw [hB7.cell]; rfl, by rw [hB7.cell]; rfl⟩
    have hfit := HC.out.fit
    have q7 := cxc_extra hC7 hfit.len
    have f7 := hC7.frozen 17
    obtain ⟨A7, n7, c7, rfl⟩ := ho7.shape
    refine' wpAnyH_take (i := 9) (oi := ⟨some 26, _, _, _, _, _⟩) (v := _) rfl (by kernel_rfl) (by kernel_rfl) (by kernel_rfl) (fun _ _ _ h => h) (Or.inl ⟨by rfl, ?y9⟩) hS7 ?r9
    case y9 => (intro w' hSw; go_simp; try rfl)
    try simp only [Act.put, List.setIfInBounds_toArray, List.set_cons_zero, List.set_cons_succ]
    refine' wpAnyH_take (i := 10) (oi := ⟨some 27, _, _, _, _, _⟩) (v := _) rfl (by kernel_rfl) (by kernel_rfl) (by kernel_rfl) (fun _ _ _ h => h) (Or.inl ⟨by rfl, ?y10⟩) hS7 ?r10
    case y10 => (intro w' hSw; go_simp; try rfl)
    try simp only [Act.put, List.setIfInBounds_toArray, List.set_cons_zero, List.set_cons_succ]
    refine held_one (i := 11) (by kernel_rfl) rfl (fun K hK => ?_)
    go_simp
    have hB8 := hB7.far (p := ⟨g, 17, none⟩) (fun e => by have h2 : w.heap.size = g := e; omega) (.slice A7 n7 c7)
    refine hK.out _ _ ⟨by rw [hB8.cell]; rfl, by rw [hB8.cell]; rfl⟩ (fun _ => ?_)
    clear hK K
    try simp only [Act.put, List.setIfInBounds_toArray, List.set_cons_zero, List.set_cons_succ]
    refine wpAnyH_done (by kernel_rfl) ?_ _
    go_wp2
    go_ret2
    have hC8 := blk_setExtra hC7 hfit.len (.slice A7 n7 c7)
    have hnw : ∀ i, (Value.slice A7 n7 c7).ownBlock = some i → (Value.slice A X.length c).ownBlock = some i ∨ w.heap.size ≤ i := fun i hi => (hn7 i hi).imp id fun h => by have := Hw6.size; omega
    have hng : (Value.slice A7 n7 c7).ownBlock ≠ some g := fun e => (hnw g e).elim (fun h => HC.out.ne h) fun h => by omega
    have hia := HIA.out
    rw [← HIX.out] at hia
    rw [hia] at ho7
    have ho8 : OwnD (w7.setCell ⟨g, 17, none⟩ (.slice A7 n7 c7)) 0 (.slice A7 n7 c7) (ins X d) := ho7.keep fun i hi => Below.heap_setCell _ _ _ i (fun e => hng (by rw [hi]; exact congrArg some e))
    have hS := addF_spec (S := (V, X)) hfit HM.out
    rw [ins_eq hfit HM.out HI.out HE.out] at hS ⊢
    have k6 := (Keep.of_below (S := Foot g (.slice A X.length c)) (Hw6.trans (Below.refl _ _))).trans hk7 (fun _ h => h) (fun i _ h => .inr h)
    exact ⟨rfl, _, ⟨hC8, ho8, hng, hS.1⟩, k6.trans (Keep.setCell (S := fun i => i = g) w7 ⟨g, 17, none⟩ _ rfl) (fun _ h => h) (fun i _ h => .inl h), hnw⟩
  · have hc6 : Cx (w5.alloc (.cells #[.int .i64 d.1, .int .u64 (d.2 : Int)] 41)) g (.slice A X.length c) V X := hc5.below ((Below.refl _ _).alloc (Nat.le_refl _) _)
    have hV6 : Blk (w5.alloc (.cells #[.int .i64 d.1, .int .u64 (d.2 : Int)] 41)) w5.heap.size 41 #[.int .i64 d.1, .int .u64 (d.2 : Int)] := Blk.new w5 _ _
    have hB6 := hB5.alloc (.cells #[.int .i64 d.1, .int .u64 (d.2 : Int)] 41)
    have Hw6 : Below w.heap.size w (w5.alloc (.cells #[.int .i64 d.1, .int .u64 (d.2 : Int)] 41)) := Hw5.alloc Hw5.size _
    have hne6 : (Value.slice A X.length c).ownBlock ≠ some w5.heap.size := fun e => by have := (hc5.row.lt _ e).2; omega
    have hro : ∀ i, (Value.slice A X.length c).ownBlock = some i → i < w.heap.size := fun i hi => (HC.out.row.lt i hi).2
    have hgo : g < w.heap.size := HC.out.blk.lt
    clear hc5 hB5 Hw5 hS0 hS6 p5 p6
    generalize w5.alloc (.cells #[.int .i64 d.1, .int .u64 (d.2 : Int)] 41) = w6 at hc6 hV6 hB6 Hw6 ⊢
    refine held_one (i := 8) (by kernel_rfl) rfl (fun K hK => ?_)
    go_simp
    refine (insert_any (.slice A X.length c) X i w5.heap.size 1 d w6 hil hc6.row hV6 (Nat.le_refl _) hne6 (by omega)).mono ?_
    rintro e w7 ⟨v7, rfl, ho7, hk7, hn7⟩
    have hB7 := hB6.kept hk7 (fun e => by have := hro _ e; omega)
    have hC7 := hc6.blk.kept hk7 hc6.ne
    refine hK.out _ _ ⟨by rw [hB7.cell]; rfl, by rw [hB7.cell]; rfl⟩ (fun _ => ?_)
    clear hK K
    try simp only [Act.put, List.setIfInBounds_toArray, List.set_cons_zero, List.set_cons_succ]
    have hS7 : w7.cell? ⟨w.heap.size, 0, none⟩ = some (.int .i64 d.1) ∧ w7.cell? ⟨w.heap.size, 1, none⟩ = some (.int .u64 (d.2 : Int)) := ⟨by rw [hB7.cell]; rfl, by rw [hB7.cell]; rfl⟩
    have hfit := HC.out.fit
    have q7 := cxc_extra hC7 hfit.len
    have f7 := hC7.frozen 17
    obtain ⟨A7, n7, c7, rfl⟩ := ho7.shape
    refine' wpAnyH_take (i := 9) (oi := ⟨some 26, _, _, _, _, _⟩) (v := _) rfl (by kernel_rfl) (by kernel_rfl) (by kernel_rfl) (fun _ _ _ h => h) (Or.inl ⟨by rfl, ?y9b⟩) hS7 ?r9b
    case y9b => (intro w' hSw; go_simp; try rfl)
    try simp only [Act.put, List.setIfInBounds_toArray, List.set_cons_zero, List.set_cons_succ]
    refine' wpAnyH_take (i := 10) (oi := ⟨some 27, _, _, _, _, _⟩) (v := _) rfl (by kernel_rfl) (by kernel_rfl) (by kernel_rfl) (fun _ _ _ h => h) (Or.inl ⟨by rfl, ?y10b⟩) hS7 ?r10b
    case y10b => (intro w' hSw; go_simp; try rfl)
    try simp only [Act.put, List.setIfInBounds_toArray, List.set_cons_zero, List.set_cons_succ]
    refine held_one (i := 11) (by kernel_rfl) rfl (fun K hK => ?_)
    go_simp
    have hB8 := hB7.far (p := ⟨g, 17, none⟩) (fun e => by have h2 : w.heap.size = g := e; omega) (.slice A7 n7 c7)
    refine hK.out _ _ ⟨by rw [hB8.cell]; rfl, by rw [hB8.cell]; rfl⟩ (fun _ => ?_)
    clear hK K
    try simp only [Act.put, List.setIfInBounds_toArray, List.set_cons_zero, List.set_cons_succ]
    refine wpAnyH_done (by kernel_rfl) ?_ _
    go_wp2
    go_ret2
    have hC8 := blk_setExtra hC7 hfit.len (.slice A7 n7 c7)
    have hnw : ∀ i, (Value.slice A7 n7 c7).ownBlock = some i → (Value.slice A X.length c).ownBlock = some i ∨ w.heap.size ≤ i := fun i hi => (hn7 i hi).imp id fun h => by have := Hw6.size; omega
    have hng : (Value.slice A7 n7 c7).ownBlock ≠ some g := fun e => (hnw g e).elim (fun h => HC.out.ne h) fun h => by omega
    have hia := HIA.out
    rw [← HIX.out] at hia
    rw [hia] at ho7
    have ho8 : OwnD (w7.setCell ⟨g, 17, none⟩ (.slice A7 n7 c7)) 0 (.slice A7 n7 c7) (ins X d) := ho7.keep fun i hi => Below.heap_setCell _ _ _ i (fun e => hng (by rw [hi]; exact congrArg some e))
    have hS := addF_spec (S := (V, X)) hfit HM.out
    rw [ins_eq hfit HM.out HI.out HE.out] at hS ⊢
    have k6 := (Keep.of_below (S := Foot g (.slice A X.length c)) (Hw6.trans (Below.refl _ _))).trans hk7 (fun _ h => h) (fun i _ h => .inr h)
    exact ⟨rfl, _, ⟨hC8, ho8, hng, hS.1⟩, k6.trans (Keep.setCell (S := fun i => i = g) w7 ⟨g, 17, none⟩ _ rfl) (fun _ h => h) (fun i _ h => .inl h), hnw⟩
end Go.Proofs.YtldfaaahmpncbaaGreat
